/- X-PARTIAL The document's own words: layer 37. -/
import Derived.Test.YtfammopenanapaaDoorOrdJ
namespace Go.Proofs.YtfammopenanapaaDoor
open Go.RowKit Go.Lib

set_option maxRecDepth 1000000 in
set_option maxHeartbeats 8000000 in
theorem r37_Words (w : World) :
    Calls Tryd.prog 18 #[] w fun e w' => (∃ g c : Nat, e = .returned (.slice (some ⟨g, 0, none⟩) 10 c) ∧ SRow w' (some ⟨g, 0, none⟩) wordsO) ∧ Below w.heap.size w w' := by
  have hbb : Below w.heap.size w (w.alloc (.cells (wordsO.map encStr).toArray 9)) := (Below.refl _ w).alloc (Nat.le_refl _) _
  have hr : SRow (w.alloc (.cells (wordsO.map encStr).toArray 9)) (some ⟨w.heap.size, 0, none⟩) wordsO := by
    intro i hi
    have h := al_new w (.cells (wordsO.map encStr).toArray 9) rfl
    have ea : (⟨w.heap.size, 0, none⟩ : Addr).add i = ⟨w.heap.size, i, none⟩ := by
      unfold Addr.add
      split
      · simp_all
      · simp
    rw [ea, blk_cell h, List.getElem?_toArray, List.getElem?_eq_getElem hi]
  have HB := Lib.hid hbb
  have HR := Lib.hid hr
  clear hbb hr
  go_enter Tryd.func18, Tryd.ntmps18
  go_wp2_with fail
  go_ret
  exact ⟨⟨_, _, rfl, HR.out⟩, HB.out⟩
end Go.Proofs.YtfammopenanapaaDoor
