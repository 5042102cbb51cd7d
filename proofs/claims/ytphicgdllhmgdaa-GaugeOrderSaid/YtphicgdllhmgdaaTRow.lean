/- A slice of steps that reads as a list. -/
import Derived.Test.YtphicgdllhmgdaaGaugeD
import Derived.Test.YtphicgdllhmgdaaRow
import Derived.Test.YtphicgdllhmgdaaMathA
namespace Go.Proofs.Ytphicgdllhmgdaa
open Go.RowKit

/-- A step of a law over gauges. -/
structure St where
  e : Int
  k : Int
  t : Bool
/-- The slice value at 'A' reads as the steps 'l'. -/
def TRow (w : World) (A : Option Addr) (l : List St) : Prop :=
  match A with
  | none => l = []
  | some a => ∀ i : Nat, (h : i < l.length) → w.cell? (a.add (i * 3)) = some (.int .i64 l[i].e) ∧ w.cell? (a.add (i * 3 + 1)) = some (.int .i64 l[i].k) ∧ w.cell? (a.add (i * 3 + 2)) = some (.bool l[i].t)
theorem TRow.cell {w : World} {A : Option Addr} {l : List St} (h : TRow w A l) {k : Nat} (hk : k < l.length) :
    ∃ b o : Nat, A = some ⟨b, o, none⟩ ∧ w.cell? ⟨b, o + k * 3, none⟩ = some (.int .i64 l[k].e) ∧ w.cell? ⟨b, o + k * 3 + 1, none⟩ = some (.int .i64 l[k].k) ∧ w.cell? ⟨b, o + k * 3 + 2, none⟩ = some (.bool l[k].t) ∧ b < w.heap.size := by
  cases A with
  | none => unfold TRow at h; subst h; simp at hk
  | some a =>
    unfold TRow at h; dsimp only at h
    obtain ⟨b, o, p⟩ := a
    have h0 := (h 0 (by omega)).1
    rw [Nat.zero_mul] at h0
    have hp : p = none := by simpa [Addr.add] using World.cell?_spot h0
    subst hp
    have e : ∀ j, (⟨b, o, none⟩ : Addr).add j = ⟨b, o + j, none⟩ := by
      intro j; unfold Addr.add; split
      · next h => subst h; rfl
      · rfl
    obtain ⟨h1, h2, h3⟩ := h k hk
    rw [e] at h1 h2 h3
    refine ⟨b, o, rfl, h1, by rw [Nat.add_assoc]; exact h2, by rw [Nat.add_assoc]; exact h3, ?_⟩
    rcases Nat.lt_or_ge b w.heap.size with h' | h'
    · exact h'
    · simp [World.cell?, Addr.add, Array.getElem?_eq_none h'] at h0
end Go.Proofs.Ytphicgdllhmgdaa
