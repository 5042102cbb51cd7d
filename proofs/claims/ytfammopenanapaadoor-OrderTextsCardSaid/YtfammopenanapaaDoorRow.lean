/- A slice that reads as a list of cells; of ints. -/
import Derived.Test.YtfammopenanapaaDoorLt
import Derived.DataReads
namespace Go.Proofs.YtfammopenanapaaDoor
open Go.RowKit

/-- The slice value at 'A' reads as the cells 'L'. -/
def Row (w : World) (A : Option Addr) (L : List Value) : Prop :=
  match A with
  | none => L = []
  | some a => ∀ i : Nat, (h : i < L.length) → w.cell? (a.add i) = some L[i]
theorem Row.cell {w : World} {A : Option Addr} {L : List Value} (h : Row w A L) {k : Nat} (hk : k < L.length) :
    ∃ b o : Nat, A = some ⟨b, o, none⟩ ∧ (∀ j, (hj : j < L.length) → w.cell? ⟨b, o + j, none⟩ = some L[j]) ∧ b < w.heap.size := by
  cases A with
  | none => unfold Row at h; subst h; simp at hk
  | some a =>
    unfold Row at h; dsimp only at h
    obtain ⟨b, o, p⟩ := a
    have h0 := h 0 (by omega)
    have hp : p = none := by simpa [Addr.add] using World.cell?_spot h0
    subst hp
    have e : ∀ j, (⟨b, o, none⟩ : Addr).add j = ⟨b, o + j, none⟩ := by
      intro j; unfold Addr.add; split
      · next h => subst h; rfl
      · rfl
    refine ⟨b, o, rfl, fun j hj => by rw [← e]; exact h j hj, ?_⟩
    rcases Nat.lt_or_ge b w.heap.size with h' | h'
    · exact h'
    · simp [World.cell?, Addr.add, Array.getElem?_eq_none h'] at h0
theorem Row.mono {w w' : World} {A : Option Addr} {L : List Value} (h : Row w A L) (hb : Below w.heap.size w w') : Row w' A L := by
  cases A with
  | none => exact h
  | some a =>
    intro i hi
    obtain ⟨b, o, rfl2, _, hlt⟩ := Row.cell h hi
    cases rfl2
    have e : ((⟨b, o, none⟩ : Addr).add i).block = b := by unfold Addr.add; split <;> rfl
    rw [hb.cell (by rw [e]; exact hlt)]
    exact h i hi
/-- A slice of ints. -/
def IRow (w : World) (A : Option Addr) (l : List Int) : Prop := Row w A (l.map (.int .i64))
theorem IRow.cell {w : World} {A : Option Addr} {l : List Int} (h : IRow w A l) {k : Nat} (hk : k < l.length) :
    ∃ b o : Nat, A = some ⟨b, o, none⟩ ∧ w.cell? ⟨b, o + k, none⟩ = some (.int .i64 l[k]) ∧ b < w.heap.size := by
  obtain ⟨b, o, e, h1, h2⟩ := Row.cell h (k := k) (by simpa using hk)
  exact ⟨b, o, e, by have := h1 k (by simpa using hk); simpa using this, h2⟩
theorem IRow.mono {w w' : World} {A : Option Addr} {l : List Int} (h : IRow w A l) (hb : Below w.heap.size w w') : IRow w' A l := Row.mono h hb
theorem take_snoc' {α : Type} (l : List α) (k : Nat) (h : k < l.length) : l.take (k + 1) = l.take k ++ [l[k]] := by
  rw [List.take_succ_eq_append_getElem h]
end Go.Proofs.YtfammopenanapaaDoor
