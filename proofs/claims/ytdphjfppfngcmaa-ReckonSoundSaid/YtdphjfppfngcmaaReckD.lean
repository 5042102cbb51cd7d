/- Rows of wide numbers that the call itself makes: layer 4. -/
import Derived.Test.YtdphjfppfngcmaaReckC
import Derived.Test.YtdphjfppfngcmaaWrapB
import Derived.Maps.AppendAt
import Derived.WalkKit
namespace Go.Proofs.Ytdphjfppfngcmaa
open Go.RowKit

/-- The cells of a row of wide numbers. -/
def wcells : List Int → List Value
  | [] => []
  | x :: l => .int .i64 (hiW x) :: .int .u64 (loW x) :: wcells l
theorem wcells_append (l m : List Int) : wcells (l ++ m) = wcells l ++ wcells m := by
  induction l with
  | nil => rfl
  | cons x l ih => show _ :: _ :: wcells (l ++ m) = _; rw [ih]; rfl
theorem wcells_get : ∀ (l : List Int) (i : Nat) (h : i < l.length), (wcells l)[i * 2]? = some (.int .i64 (hiW l[i])) ∧ (wcells l)[i * 2 + 1]? = some (.int .u64 (loW l[i]))
  | x :: l, 0, _ => ⟨rfl, rfl⟩
  | x :: l, i + 1, h => by
    have := wcells_get l i (by simpa using h)
    rw [show (i + 1) * 2 = i * 2 + 1 + 1 by omega]
    exact this
/-- The value v is a row of the call's own (blocks from 'base' on) that holds these numbers. -/
def OwnW (w : World) (base : Nat) (v : Value) (l : List Int) : Prop := w.ownsRow base 31 2 v l.length (wcells l)
theorem OwnW.nil (w : World) (base : Nat) : OwnW w base (.slice none 0 0) [] := World.ownsRow_nil _ _ _ _
theorem OwnW.row {w : World} {base : Nat} {v : Value} {l : List Int} (h : OwnW w base v l) : ∃ (A : Option Addr) (c : Nat), v = .slice A l.length c ∧ l.length ≤ c ∧ c ≤ 9223372036854775807 ∧ WRow w A l := by
  rcases h.2 with ⟨rfl, hn⟩ | ⟨g, cap, cur, rfl, hb, hg, h1, h2, h3, h4⟩
  · have : l = [] := List.eq_nil_of_length_eq_zero hn
    subst this
    exact ⟨none, 0, rfl, Nat.le_refl _, by omega, rfl⟩
  · refine ⟨some ⟨g, 0, none⟩, cap, rfl, h1, by unfold maxLen at h2; omega, fun i hi => ?_⟩
    have hh : w.ownsRow base 31 2 (.slice (some ⟨g, 0, none⟩) l.length cap) l.length (wcells l) := h
    have e : ∀ j, (⟨g, 0, none⟩ : Addr).add j = ⟨g, 0 + j, none⟩ := by
      intro j; unfold Addr.add; split
      · next h => subst h; rfl
      · rfl
    obtain ⟨k1, k2⟩ := wcells_get l i hi
    rw [e, e, Nat.zero_add, Nat.zero_add, hh.cellAt _ (by omega), hh.cellAt _ (by omega)]
    exact ⟨k1, k2⟩
theorem OwnW.mono {w w' : World} {base : Nat} {v : Value} {l : List Int} (h : OwnW w base v l) (hb : Below w.heap.size w w') : OwnW w' base v l := by
  refine ⟨h.1, ?_⟩
  rcases h.2 with h' | ⟨g, cap, cur, e, hb', hg, h1⟩
  · exact Or.inl h'
  · exact Or.inr ⟨g, cap, cur, e, hb', by rw [hb.block g (blk_lt hg)]; exact hg, h1⟩
theorem OwnW.lt {w : World} {base : Nat} {v : Value} {l : List Int} (h : OwnW w base v l) : ∀ k, v.ownBlock = some k → base ≤ k ∧ k < w.heap.size := World.ownsRow.lt h
end Go.Proofs.Ytdphjfppfngcmaa
