/- X-PARTIAL A script of a web, opened. -/
import Derived.Test.YtkmpkhbahmehmaaOpenG
import Derived.Test.YtkmpkhbahmehmaaWebP
namespace Go.Proofs.Ytkmpkhbahmehmaa
open Go.ChangeShapes Go.WideShapes Go.ChangeAt Go.RowKit Go.Joins Go.Deep Go.Lib

instance : Inhabited Opn := ⟨⟨0, ⟨[], 0⟩, ⟨[], 0⟩⟩⟩
theorem fits_op (cs : List Value) (h : Fits [.i .i64, .s, .i .i64, .s, .i .i64] cs) : ∃ x : Opn, cs = encO x ∧ True := by
  obtain ⟨_, _, rfl, ⟨k, rfl, _⟩, _, _, rfl, ⟨s, rfl, _⟩, _, _, rfl, ⟨x, rfl, _⟩, _, _, rfl, ⟨t, rfl, _⟩, _, _, rfl, ⟨y, rfl, _⟩, rfl⟩ := h
  exact ⟨⟨k, ⟨s.data.toList, x⟩, ⟨t.data.toList, y⟩⟩, by unfold encO encStr; simp, trivial⟩
theorem orow_cells {w : World} {A : Option Addr} {l : List Opn} (h : ∀ i, (hi : i < l.length) → ∃ a, A = some a ∧ ∀ j, j < 5 → w.cell? (a.add (i * 5 + j)) = (encO l[i])[j]?) : ORow w A l := grow_cells (fun _ => rfl) (by decide) h
end Go.Proofs.Ytkmpkhbahmehmaa
