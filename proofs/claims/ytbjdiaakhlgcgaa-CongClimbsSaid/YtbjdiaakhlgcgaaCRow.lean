/- A slice of congruences that reads as a list. -/
import Derived.Test.YtbjdiaakhlgcgaaCongI
import Derived.Test.YtbjdiaakhlgcgaaRow
import Derived.Test.YtbjdiaakhlgcgaaMathA
namespace Go.Proofs.Ytbjdiaakhlgcgaa
open Go.RowKit

/-- The slice value at 'A' reads as the congruences 'l'. -/
def CRow (w : World) (A : Option Addr) (l : List Cg) : Prop :=
  match A with
  | none => l = []
  | some a => ∀ i : Nat, (h : i < l.length) → w.cell? (a.add (i * 3)) = some (.bool l[i].s) ∧ w.cell? (a.add (i * 3 + 1)) = some (.int .i64 l[i].m) ∧ w.cell? (a.add (i * 3 + 2)) = some (.int .i64 l[i].r)
theorem CRow.cell {w : World} {A : Option Addr} {l : List Cg} (h : CRow w A l) {k : Nat} (hk : k < l.length) :
    ∃ b o : Nat, A = some ⟨b, o, none⟩ ∧ w.cell? ⟨b, o + k * 3, none⟩ = some (.bool l[k].s) ∧ w.cell? ⟨b, o + k * 3 + 1, none⟩ = some (.int .i64 l[k].m) ∧ w.cell? ⟨b, o + k * 3 + 2, none⟩ = some (.int .i64 l[k].r) ∧ b < w.heap.size := by
  cases A with
  | none => unfold CRow at h; subst h; simp at hk
  | some a =>
    unfold CRow at h; dsimp only at h
    obtain ⟨b, o, p⟩ := a
    have h0 := (h 0 (by omega)).1
    rw [Nat.zero_mul] at h0
    have hp : p = none := by simpa [Addr.add] using World.cell?_spot h0
    subst hp
    have e : ∀ j, (⟨b, o, none⟩ : Addr).add j = ⟨b, o + j, none⟩ := by
      intro j; unfold Addr.add; split
      · next h => subst h; rfl
      · rfl
    obtain ⟨h1, h2, h3⟩ := h k hk
    rw [e] at h1 h2 h3
    refine ⟨b, o, rfl, h1, by rw [Nat.add_assoc]; exact h2, by rw [Nat.add_assoc]; exact h3, ?_⟩
    rcases Nat.lt_or_ge b w.heap.size with h' | h'
    · exact h'
    · simp [World.cell?, Addr.add, Array.getElem?_eq_none h'] at h0
end Go.Proofs.Ytbjdiaakhlgcgaa
