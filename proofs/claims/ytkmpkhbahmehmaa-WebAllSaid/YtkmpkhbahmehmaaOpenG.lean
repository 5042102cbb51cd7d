/- What XOpenRow opens is a row of XRowG. General. -/
import Derived.Test.YtkmpkhbahmehmaaOpenRow
import Derived.Test.YtkmpkhbahmehmaaRowG
namespace Go.Proofs.Ytkmpkhbahmehmaa
open Go.RowKit Go.Lib

theorem grow_cells {α : Type} {enc' : α → List Value} {n : Nat} {w : World} {A : Option Addr} {l : List α} (hn : ∀ x, (enc' x).length = n) (hp : 0 < n) (h : ∀ i, (hi : i < l.length) → ∃ a, A = some a ∧ ∀ j, j < n → w.cell? (a.add (i * n + j)) = (enc' l[i])[j]?) : GRow enc' n w A l := fun j hj => by
  obtain ⟨a, e, hc⟩ := h j hj
  subst e
  have h0 := hc 0 hp
  have he0 : ∃ u, (enc' l[j])[0]? = some u := ⟨_, List.getElem?_eq_getElem (by rw [hn]; exact hp)⟩
  obtain ⟨u, he0⟩ := he0
  rw [he0] at h0
  obtain ⟨b, o, t⟩ := a
  cases t with
  | some t =>
    exfalso
    obtain ⟨a', e', hc'⟩ := h 0 (by omega)
    cases e'
    have h00 := hc' 0 hp
    have he1 : ∃ u, (enc' (l[0]'(by omega)))[0]? = some u := ⟨_, List.getElem?_eq_getElem (by rw [hn]; exact hp)⟩
    obtain ⟨u', he1⟩ := he1
    rw [he1] at h00
    simp [World.cell?, Addr.add] at h00
    try (split at h00 <;> cases h00)
  | none =>
    rw [add_none] at h0
    refine ⟨b, o, rfl, ?_, fun i hi => ?_⟩
    · rcases Nat.lt_or_ge b w.heap.size with h | h
      · exact h
      · exfalso
        have : w.heap[b]? = none := Array.getElem?_eq_none h
        simp [World.cell?, this] at h0
    · have := hc i hi
      rw [add_none, ← Nat.add_assoc] at this
      exact this
end Go.Proofs.Ytkmpkhbahmehmaa
