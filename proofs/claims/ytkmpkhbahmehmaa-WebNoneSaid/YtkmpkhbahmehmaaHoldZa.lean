/- For any two keys and any list of keys, WebNone returns true, and all read behind the call as they read before it. -/
import Derived.Test.YtkmpkhbahmehmaaWebQ
import Derived.Test.YtkmpkhbahmehmaaOpenKR
namespace Go.Proofs.Ytkmpkhbahmehmaa
open Go.ChangeShapes Go.WideShapes Go.ChangeAt Go.RowKit Go.Joins

set_option maxRecDepth 100000 in
theorem webNone_lifted (os : Os) (started : os.Started) (H : Type) (enc : TypeId × Value → H) :
    ReturnsInHanded {} Try.checked os 6 .any (Rows.webNoneSpec.pre6 enc Try.prog Try.f6 Rows.webNoneRow.domain false) (Rows.webNoneSpec.post enc Try.prog Try.f6 false true false false) := by
  refine returnsInHanded_of_change_sized (C := Try.checked) Try.own started (by kernel_rfl) Try.func6
    (ChangeSpec.witness6 (enc := enc) (C := Try.checked) false ⟨#[], #[.agg #[.string ⟨#[]⟩, .int .i64 0], .agg #[.string ⟨#[]⟩, .int .i64 0], .slice none 0 0], []⟩ 8 (by kernel_rfl) (by kernel_rfl) (by kernel_rfl) (by kernel_rfl)) ?_
  intro W base args ds gs before hval0 hW _ hsz0 _
  have hsz : (DataW.weightsEach Try.prog (Try.f6.params.toList ++ Rows.webNoneSpec.plain.varTypes Try.prog) (ds ++ gs)).all (· ≤ reachBytes) = true := hsz0
  clear hsz0
  have hval : ∀ (j : Nat) t v, Try.f6.params[j]? = some t → args[j]? = some v → Value.okWide Try.prog W .any base t v := hval0
  have hW' := hW
  obtain ⟨p, q, hA0, hV, rfl, _, _⟩ := hW
  have hA : DataW.TrodAll enc Try.prog W 0 (fun _ => true) true Try.f6.params.toList args.toList ds p := hA0
  rw [Try.params6] at hA hval hsz
  obtain ⟨v0, v1, v2, d0, d1, d2, p0, p1, p2, rfl, rfl, rfl, h0, h1, h2⟩ := trodAll_three hA
  obtain ⟨rfl, rfl⟩ := trodVars_none hV
  have k0 := h0
  have lt0 := trod_lt_of k0
  have k1 := h1
  have lt1 := trod_lt_of k1
  have k2 := h2
  have lt2 := trod_lt_of k2
  obtain ⟨cs0, rfl, hfit0⟩ := open_flat_struct (n := 8) (l := [.s, .i .i64]) Try.underlying24 (by kernel_rfl) (hval 0 24 v0 rfl rfl) h0
  obtain ⟨_, _, rfl, ⟨xn, rfl, wxn⟩, _, _, rfl, ⟨xd, rfl, wxd⟩, rfl⟩ := hfit0
  obtain ⟨cs1, rfl, hfit1⟩ := open_flat_struct (n := 8) (l := [.s, .i .i64]) Try.underlying24 (by kernel_rfl) (hval 1 24 v1 rfl rfl) h1
  obtain ⟨_, _, rfl, ⟨yn, rfl, wyn⟩, _, _, rfl, ⟨yd, rfl, wyd⟩, rfl⟩ := hfit1
  obtain ⟨A, l, c, rfl, cell, nill, _, lenl, shl⟩ := open_frow encK (fun _ => True) Try.underlying30 Try.underlying24 (by kernel_rfl : flat Try.prog 8 24 = some [.s, .i .i64]) (by kernel_rfl) fits_key (hval 2 30 v2 rfl rfl) h2
  have rowl := krow_cells cell
  clear hA0 hval0
  refine (law_webNone ⟨xn.data.toList, xd⟩ ⟨yn.data.toList, yd⟩ l A c W rowl (shl.reach (j := 2) hsz rfl rfl Try.underlying30 (by kernel_rfl))).mono fun e W' ⟨he, bel⟩ => ?_
  subst he
  exact ⟨_, rfl, _, _, _, [], _, [], hW', trodAll_mk1 (shut_bool Try.underlying4 _), trodAll_mk3 (Below.trod Try.laidOut (by kernel_rfl) (of_decide_eq_true (by kernel_rfl)) k0 bel lt0) (Below.trod Try.laidOut (by kernel_rfl) (of_decide_eq_true (by kernel_rfl)) k1 bel lt1) (Below.trod Try.laidOut (by kernel_rfl) (of_decide_eq_true (by kernel_rfl)) k2 bel lt2), rfl, bel.frame _, fun h => by cases h⟩

theorem webNone_holds : Rows.WebNoneSaid :=
  OpenClaim.holds_of_wide 6 Try.f6 rfl rfl rfl rfl rfl rfl rfl ⟨rfl, rfl, rfl, rfl, rfl⟩ rfl rfl rfl rfl rfl (by kernel_rfl) Try.func6 (by kernel_rfl)
    (of_decide_eq_true (by kernel_rfl)) (by unfold Func.isWrapper; rw [if_neg (of_decide_eq_false (by kernel_rfl))]; exact ⟨rfl, rfl⟩)
    (fun os started H enc _ => webNone_lifted os started H enc)
end Go.Proofs.Ytkmpkhbahmehmaa
