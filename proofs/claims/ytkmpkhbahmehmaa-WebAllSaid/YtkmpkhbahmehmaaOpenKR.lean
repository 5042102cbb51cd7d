/- X-PARTIAL A slice of keys, opened by XOpenRow. -/
import Derived.Test.YtkmpkhbahmehmaaOpenRow
import Derived.Test.YtkmpkhbahmehmaaKeyAp
namespace Go.Proofs.Ytkmpkhbahmehmaa
open Go.ChangeShapes Go.WideShapes Go.ChangeAt Go.RowKit Go.Joins Go.Deep Go.Lib

instance : Inhabited Ky := ⟨⟨[], 0⟩⟩
theorem fits_key (cs : List Value) (h : Fits [.s, .i .i64] cs) : ∃ x : Ky, cs = encK x ∧ True := by
  obtain ⟨_, _, rfl, ⟨s, rfl, _⟩, _, _, rfl, ⟨x, rfl, _⟩, rfl⟩ := h
  exact ⟨⟨s.data.toList, x⟩, by unfold encK encStr; simp, trivial⟩
theorem krow_cells {w : World} {A : Option Addr} {l : List Ky} (h : ∀ i, (hi : i < l.length) → ∃ a, A = some a ∧ ∀ j, j < 2 → w.cell? (a.add (i * 2 + j)) = (encK l[i])[j]?) : KRow w A l := fun j hj => by
  obtain ⟨a, e, hc⟩ := h j hj
  subst e
  have h0 := hc 0 (by omega)
  have h1 := hc 1 (by omega)
  obtain ⟨b, o, t⟩ := a
  cases t with
  | some t =>
    exfalso
    obtain ⟨a', e', hc'⟩ := h 0 (by omega)
    cases e'
    have h00 := hc' 0 (by omega)
    simp [World.cell?, Addr.add, encK] at h00
    try (split at h00 <;> cases h00)
  | none =>
    rw [addr_add] at h0 h1
    refine ⟨b, o, rfl, ?_, h0, by simpa [encK, Nat.add_assoc] using h1⟩
    rcases Nat.lt_or_ge b w.heap.size with h | h
    · exact h
    · exfalso
      have : w.heap[b]? = none := Array.getElem?_eq_none h
      simp [World.cell?, this, encK] at h0
end Go.Proofs.Ytkmpkhbahmehmaa
