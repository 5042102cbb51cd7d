/- For any operator, spans and numbers, ReckonSound returns true, and both arguments read behind the call as they read before it. No condition. -/
import Derived.Test.YtdphjfppfngcmaaSndC
import Derived.Test.YtdphjfppfngcmaaFlat
namespace Go.Proofs.Ytdphjfppfngcmaa
open Go.ChangeShapes Go.WideShapes Go.ChangeAt Go.RowKit Go.Joins

set_option maxRecDepth 100000 in
theorem reckonSound_lifted (os : Os) (started : os.Started) (H : Type) (enc : TypeId × Value → H) :
    ReturnsInHanded {} Try.checked os 5 .any (Rows.reckonSoundSpec.pre6 enc Try.prog Try.f5 Rows.reckonSoundRow.domain false) (Rows.reckonSoundSpec.post enc Try.prog Try.f5 false true false false) := by
  refine returnsInHanded_of_change (C := Try.checked) Try.own started (by kernel_rfl) Try.func5
    (ChangeSpec.witness6 (enc := enc) (C := Try.checked) false ⟨#[], #[.agg #[.int .i64 0, .bool false, .int .i64 0, .int .i64 0, .bool false, .int .i64 0, .int .i64 0, .int .i64 0, .int .i64 0], .agg #[.bool false, .int .i64 0, .int .i64 0]], []⟩ 8 (by kernel_rfl) (by kernel_rfl) (by kernel_rfl) (by kernel_rfl)) ?_
  intro W base args ds gs before hval0 hW _ _
  have hval : ∀ (j : Nat) t v, Try.f5.params[j]? = some t → args[j]? = some v → Value.okWide Try.prog W .any base t v := hval0
  have hW' := hW
  obtain ⟨p, q, hA0, hV, rfl, _, _⟩ := hW
  have hA : DataW.TrodAll enc Try.prog W 0 (fun _ => true) true Try.f5.params.toList args.toList ds p := hA0
  rw [Try.params5] at hA hval
  obtain ⟨v0, v1, d0, d1, p0, p1, rfl, rfl, rfl, h0, h1⟩ := trodAll_two hA
  obtain ⟨rfl, rfl⟩ := trodVars_none hV
  have k0 := h0
  have lt0 := trod_lt_of k0
  have k1 := h1
  have lt1 := trod_lt_of k1
  obtain ⟨cs0, rfl, hfit0⟩ := open_flat_struct (n := 8) (l := [.i .i64, .b, .i .i64, .i .i64, .b, .i .i64, .i .i64, .i .i64, .i .i64]) Try.underlying37 (by kernel_rfl) (hval 0 37 v0 rfl rfl) h0
  obtain ⟨_, _, rfl, ⟨op, rfl, wop⟩, _, _, rfl, ⟨s, rfl⟩, _, _, rfl, ⟨lo, rfl, wlo⟩, _, _, rfl, ⟨hi, rfl, whi⟩, _, _, rfl, ⟨s2, rfl⟩, _, _, rfl, ⟨lo2, rfl, wlo2⟩, _, _, rfl, ⟨hi2, rfl, whi2⟩, _, _, rfl, ⟨x, rfl, wx⟩, _, _, rfl, ⟨y, rfl, wy⟩, rfl⟩ := hfit0
  obtain ⟨c10, c11, c12, y10, y11, y12, m1, rfl, rfl, rfl, hy10, hy11, hy12⟩ := open_agg3 Try.underlying23 (by kernel_rfl) (by kernel_rfl) (hval 1 23 v1 rfl rfl) h1
  obtain ⟨s3, z10, rfl⟩ := DataW.trod_bool Try.underlying4 hy10
  obtain ⟨lo3, z11, rfl, wlo3⟩ := DataW.trod_int Try.underlying3 hy11
  obtain ⟨hi3, z12, rfl, whi3⟩ := DataW.trod_int Try.underlying3 hy12
  simp at z10 z11 z12
  subst z10 z11 z12
  clear hA0 hval0
  refine (law_reckonSound op ⟨s, lo, hi⟩ ⟨s2, lo2, hi2⟩ x y ⟨s3, lo3, hi3⟩ ⟨i64_of_wf wlo, i64_of_wf whi⟩ ⟨i64_of_wf wlo2, i64_of_wf whi2⟩ ⟨i64_of_wf wlo3, i64_of_wf whi3⟩ W).mono fun e W' ⟨he, bel⟩ => ?_
  subst he
  exact ⟨_, rfl, _, _, _, [], _, [], hW', trodAll_mk1 (shut_bool Try.underlying4 _), trodAll_mk2 (Below.trod Try.laidOut (by kernel_rfl) (of_decide_eq_true (by kernel_rfl)) k0 bel lt0) (Below.trod Try.laidOut (by kernel_rfl) (of_decide_eq_true (by kernel_rfl)) k1 bel lt1), rfl, bel.frame _, fun h => by cases h⟩

theorem reckonSound_holds : Rows.ReckonSoundSaid :=
  OpenClaim.holds_of_wide 5 Try.f5 rfl rfl rfl rfl rfl rfl rfl ⟨rfl, rfl, rfl, rfl, rfl⟩ rfl rfl rfl rfl rfl (by kernel_rfl) Try.func5 (by kernel_rfl)
    (of_decide_eq_true (by kernel_rfl)) (by unfold Func.isWrapper; rw [if_neg (of_decide_eq_false (by kernel_rfl))]; exact ⟨rfl, rfl⟩)
    (fun os started H enc _ => reckonSound_lifted os started H enc)
end Go.Proofs.Ytdphjfppfngcmaa
