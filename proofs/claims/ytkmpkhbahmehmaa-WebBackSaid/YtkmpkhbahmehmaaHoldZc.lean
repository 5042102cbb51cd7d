/- For any script and any two keys, WebBack returns true, and all read behind the call as they read before it. -/
import Derived.Test.YtkmpkhbahmehmaaWebY
import Derived.Test.YtkmpkhbahmehmaaOpenKR
import Derived.Test.YtkmpkhbahmehmaaOpenOps
namespace Go.Proofs.Ytkmpkhbahmehmaa
open Go.ChangeShapes Go.WideShapes Go.ChangeAt Go.RowKit Go.Joins

set_option maxRecDepth 100000 in
theorem webBack_lifted (os : Os) (started : os.Started) (H : Type) (enc : TypeId × Value → H) :
    ReturnsInHanded {} Try.checked os 5 .any (Rows.webBackSpec.pre6 enc Try.prog Try.f5 Rows.webBackRow.domain false) (Rows.webBackSpec.post enc Try.prog Try.f5 false true false false) := by
  refine returnsInHanded_of_change_sized (C := Try.checked) Try.own started (by kernel_rfl) Try.func5
    (ChangeSpec.witness6 (enc := enc) (C := Try.checked) false ⟨#[], #[.slice none 0 0, .agg #[.string ⟨#[]⟩, .int .i64 0], .agg #[.string ⟨#[]⟩, .int .i64 0]], []⟩ 8 (by kernel_rfl) (by kernel_rfl) (by kernel_rfl) (by kernel_rfl)) ?_
  intro W base args ds gs before hval0 hW _ hsz0 _
  have hsz : (DataW.weightsEach Try.prog (Try.f5.params.toList ++ Rows.webBackSpec.plain.varTypes Try.prog) (ds ++ gs)).all (· ≤ reachBytes) = true := hsz0
  clear hsz0
  have hval : ∀ (j : Nat) t v, Try.f5.params[j]? = some t → args[j]? = some v → Value.okWide Try.prog W .any base t v := hval0
  have hW' := hW
  obtain ⟨p, q, hA0, hV, rfl, _, _⟩ := hW
  have hA : DataW.TrodAll enc Try.prog W 0 (fun _ => true) true Try.f5.params.toList args.toList ds p := hA0
  rw [Try.params5] at hA hval hsz
  obtain ⟨v0, v1, v2, d0, d1, d2, p0, p1, p2, rfl, rfl, rfl, h0, h1, h2⟩ := trodAll_three hA
  obtain ⟨rfl, rfl⟩ := trodVars_none hV
  have k0 := h0
  have lt0 := trod_lt_of k0
  have k1 := h1
  have lt1 := trod_lt_of k1
  have k2 := h2
  have lt2 := trod_lt_of k2
  obtain ⟨A, l, c, rfl, cell, nill, _, lenl, shl⟩ := open_frow encO (fun _ => True) Try.underlying22 Try.underlying48 (by kernel_rfl : flat Try.prog 8 48 = some [.i .i64, .s, .i .i64, .s, .i .i64]) (by kernel_rfl) fits_op (hval 0 22 v0 rfl rfl) h0
  have rowl := orow_cells cell
  obtain ⟨cs1, rfl, hfit1⟩ := open_flat_struct (n := 8) (l := [.s, .i .i64]) Try.underlying24 (by kernel_rfl) (hval 1 24 v1 rfl rfl) h1
  obtain ⟨_, _, rfl, ⟨xn, rfl, wxn⟩, _, _, rfl, ⟨xd, rfl, wxd⟩, rfl⟩ := hfit1
  obtain ⟨cs2, rfl, hfit2⟩ := open_flat_struct (n := 8) (l := [.s, .i .i64]) Try.underlying24 (by kernel_rfl) (hval 2 24 v2 rfl rfl) h2
  obtain ⟨_, _, rfl, ⟨yn, rfl, wyn⟩, _, _, rfl, ⟨yd, rfl, wyd⟩, rfl⟩ := hfit2
  clear hA0 hval0
  refine (law_webBack l ⟨xn.data.toList, xd⟩ ⟨yn.data.toList, yd⟩ A c W rowl (shl.reach (j := 0) hsz rfl rfl Try.underlying22 (by kernel_rfl))).mono fun e W' ⟨he, bel⟩ => ?_
  subst he
  exact ⟨_, rfl, _, _, _, [], _, [], hW', trodAll_mk1 (shut_bool Try.underlying4 _), trodAll_mk3 (Below.trod Try.laidOut (by kernel_rfl) (of_decide_eq_true (by kernel_rfl)) k0 bel lt0) (Below.trod Try.laidOut (by kernel_rfl) (of_decide_eq_true (by kernel_rfl)) k1 bel lt1) (Below.trod Try.laidOut (by kernel_rfl) (of_decide_eq_true (by kernel_rfl)) k2 bel lt2), rfl, bel.frame _, fun h => by cases h⟩

theorem webBack_holds : Rows.WebBackSaid :=
  OpenClaim.holds_of_wide 5 Try.f5 rfl rfl rfl rfl rfl rfl rfl ⟨rfl, rfl, rfl, rfl, rfl⟩ rfl rfl rfl rfl rfl (by kernel_rfl) Try.func5 (by kernel_rfl)
    (of_decide_eq_true (by kernel_rfl)) (by unfold Func.isWrapper; rw [if_neg (of_decide_eq_false (by kernel_rfl))]; exact ⟨rfl, rfl⟩)
    (fun os started H enc _ => webBack_lifted os started H enc)
end Go.Proofs.Ytkmpkhbahmehmaa
