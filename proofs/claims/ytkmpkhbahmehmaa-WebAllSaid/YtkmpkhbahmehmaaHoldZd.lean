/- For any script and any list of keys, WebAll returns true, and all read behind the call as they read before it. -/
import Derived.Test.YtkmpkhbahmehmaaWebAq
import Derived.Test.YtkmpkhbahmehmaaOpenKR
import Derived.Test.YtkmpkhbahmehmaaOpenOps
namespace Go.Proofs.Ytkmpkhbahmehmaa
open Go.ChangeShapes Go.WideShapes Go.ChangeAt Go.RowKit Go.Joins

set_option maxRecDepth 100000 in
theorem webAll_lifted (os : Os) (started : os.Started) (H : Type) (enc : TypeId × Value → H) :
    ReturnsInHanded {} Try.checked os 4 .any (Rows.webAllSpec.pre6 enc Try.prog Try.f4 Rows.webAllRow.domain false) (Rows.webAllSpec.post enc Try.prog Try.f4 false true false false) := by
  refine returnsInHanded_of_change_sized (C := Try.checked) Try.own started (by kernel_rfl) Try.func4
    (ChangeSpec.witness6 (enc := enc) (C := Try.checked) false ⟨#[], #[.slice none 0 0, .slice none 0 0], []⟩ 8 (by kernel_rfl) (by kernel_rfl) (by kernel_rfl) (by kernel_rfl)) ?_
  intro W base args ds gs before hval0 hW _ hsz0 _
  have hsz : (DataW.weightsEach Try.prog (Try.f4.params.toList ++ Rows.webAllSpec.plain.varTypes Try.prog) (ds ++ gs)).all (· ≤ reachBytes) = true := hsz0
  clear hsz0
  have hval : ∀ (j : Nat) t v, Try.f4.params[j]? = some t → args[j]? = some v → Value.okWide Try.prog W .any base t v := hval0
  have hW' := hW
  obtain ⟨p, q, hA0, hV, rfl, _, _⟩ := hW
  have hA : DataW.TrodAll enc Try.prog W 0 (fun _ => true) true Try.f4.params.toList args.toList ds p := hA0
  rw [Try.params4] at hA hval hsz
  obtain ⟨v0, v1, d0, d1, p0, p1, rfl, rfl, rfl, h0, h1⟩ := trodAll_two hA
  obtain ⟨rfl, rfl⟩ := trodVars_none hV
  have k0 := h0
  have lt0 := trod_lt_of k0
  have k1 := h1
  have lt1 := trod_lt_of k1
  obtain ⟨A, l, c, rfl, cell, nill, _, lenl, shl⟩ := open_frow encO (fun _ => True) Try.underlying22 Try.underlying48 (by kernel_rfl : flat Try.prog 8 48 = some [.i .i64, .s, .i .i64, .s, .i .i64]) (by kernel_rfl) fits_op (hval 0 22 v0 rfl rfl) h0
  have rowl := orow_cells cell
  obtain ⟨B, s, d, rfl, cels, nils, _, lens, shs⟩ := open_frow encK (fun _ => True) Try.underlying30 Try.underlying24 (by kernel_rfl : flat Try.prog 8 24 = some [.s, .i .i64]) (by kernel_rfl) fits_key (hval 1 30 v1 rfl rfl) h1
  have rows := krow_cells cels
  clear hA0 hval0
  refine (law_webAll l s A B c d W rowl rows (shl.reach (j := 0) hsz rfl rfl Try.underlying22 (by kernel_rfl)) (shs.reach (j := 1) hsz rfl rfl Try.underlying30 (by kernel_rfl))).mono fun e W' ⟨he, bel⟩ => ?_
  subst he
  exact ⟨_, rfl, _, _, _, [], _, [], hW', trodAll_mk1 (shut_bool Try.underlying4 _), trodAll_mk2 (Below.trod Try.laidOut (by kernel_rfl) (of_decide_eq_true (by kernel_rfl)) k0 bel lt0) (Below.trod Try.laidOut (by kernel_rfl) (of_decide_eq_true (by kernel_rfl)) k1 bel lt1), rfl, bel.frame _, fun h => by cases h⟩

theorem webAll_holds : Rows.WebAllSaid :=
  OpenClaim.holds_of_wide 4 Try.f4 rfl rfl rfl rfl rfl rfl rfl ⟨rfl, rfl, rfl, rfl, rfl⟩ rfl rfl rfl rfl rfl (by kernel_rfl) Try.func4 (by kernel_rfl)
    (of_decide_eq_true (by kernel_rfl)) (by unfold Func.isWrapper; rw [if_neg (of_decide_eq_false (by kernel_rfl))]; exact ⟨rfl, rfl⟩)
    (fun os started H enc _ => webAll_lifted os started H enc)
end Go.Proofs.Ytkmpkhbahmehmaa
