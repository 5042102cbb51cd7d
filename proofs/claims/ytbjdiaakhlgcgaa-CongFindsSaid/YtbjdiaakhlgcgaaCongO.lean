/- What cong.steps and cong.Meet return. Layer 5. -/
import Derived.Test.YtbjdiaakhlgcgaaCongN
namespace Go.Proofs.Ytbjdiaakhlgcgaa
open Go.RowKit

set_option maxRecDepth 100000 in
set_option maxHeartbeats 4000000 in
theorem cong_steps (x y : Cg) (hx : x.std) (hy : y.std) (h1 : 0 < x.m) (h2 : 0 < y.m) (ha : x.agrees y = true) (w : World) :
    Calls Try.prog 58 #[.agg #[.bool x.s, .int .i64 x.m, .int .i64 x.r], .agg #[.bool y.s, .int .i64 y.m, .int .i64 y.r]] w fun e w' => e = .returned (.int .i64 (x.stepsI y)) ∧ Below w.heap.size w w' := by
  have HC := Lib.hid (cong_common x y hx.1.1 (by omega) hy.1.1 (by omega))
  obtain ⟨g, a, b, i, e1, hg, e2, e3, e4, e5, pa, pb, hco, e6, i0, i1, i2, e7⟩ := gcd_parts h1 h2
  have hxr := hx.2.2.2 h1
  have hyr := hy.2.2.2 h2
  have hxm := hx.1.1
  have hym := hy.1.1
  have hxr2 := hx.1.2
  have hyr2 := hy.1.2
  unfold I64 at hxm hym hxr2 hyr2
  unfold Cg.agrees at ha
  rw [e1, modI_pos hg, modI_pos hg, beq_iff_eq] at ha
  have hd : g ∣ y.r - x.r := Int.dvd_of_emod_eq_zero (Int.emod_eq_emod_iff_emod_sub_eq_zero.1 ha.symm)
  have hq : (y.r - x.r).tdiv g = (y.r - x.r) / g := Int.tdiv_eq_ediv_of_dvd hd
  have hs : x.stepsI y = (y.r - x.r) / g % b * i % b := by
    unfold Cg.stepsI
    rw [e1, e5, e4, modI_pos pb, modI_pos pb, e6]
  rw [hs]
  rw [e1] at HC
  have t1 : x.m.tdiv g = a := by rw [Int.tdiv_eq_ediv_of_nonneg (by omega)]; exact e4
  have t2 : y.m.tdiv g = b := by rw [Int.tdiv_eq_ediv_of_nonneg (by omega)]; exact e5
  have a1 : a ≤ x.m := by rw [← e4]; exact Int.ediv_le_self _ (by omega)
  have b1 : b ≤ y.m := by rw [← e5]; exact Int.ediv_le_self _ (by omega)
  obtain ⟨δ, hδ⟩ := hd
  have hδ2 : (y.r - x.r) / g = δ := by rw [hδ]; exact Int.mul_ediv_cancel_left δ (by omega)
  rw [hδ2] at hq ⊢
  have dB : -9223372036854775808 < δ ∧ δ < 9223372036854775808 := by
    constructor
    · apply Classical.byContradiction; intro h
      have : (g - 1) * δ ≤ 0 := Int.mul_nonpos_of_nonneg_of_nonpos (by omega) (by omega)
      rw [Int.sub_mul, Int.one_mul] at this
      omega
    · apply Classical.byContradiction; intro h
      have : 1 * δ ≤ g * δ := Int.mul_le_mul_of_nonneg_right (by omega) (by omega)
      omega
  have HD := Lib.hid hδ
  have d0 := Int.emod_nonneg δ (show b ≠ 0 by omega)
  have d1 := Int.emod_lt_of_pos δ pb
  have c0 := Int.emod_nonneg a (show b ≠ 0 by omega)
  have c1 := Int.emod_lt_of_pos a pb
  have M1 : Hid (∀ w, Calls Try.prog 38 #[.int .i64 δ, .int .i64 b] w fun e w' => e = .returned (.int .i64 (δ % b)) ∧ w = w') := Lib.hid (fun w => by
    have := cong_mod δ b (by unfold I64; omega) w
    rw [modI_pos pb] at this; exact this)
  have M2 : Hid (∀ w, Calls Try.prog 38 #[.int .i64 a, .int .i64 b] w fun e w' => e = .returned (.int .i64 (a % b)) ∧ w = w') := Lib.hid (fun w => by
    have := cong_mod a b (by unfold I64; omega) w
    rw [modI_pos pb] at this; exact this)
  have hI := cong_inverse (a % b) b c0 c1 (by unfold I64; omega) hco
  rw [e6] at hI
  have HI := Lib.hid hI
  have HP := Lib.hid (cong_product (δ % b) i b d0 d1 i0 i1 (by unfold I64; omega))
  clear hI hs hδ e1 e2 e3 e6 e7 hco i2 ha
  generalize δ % b * i % b = k at *
  generalize δ % b = t at *
  generalize a % b = c at *
  have g0 : (g == 0) = false := by simp; omega
  have g1 : ¬ g = 0 := by omega
  have wd : IntKind.i64.wrap (y.r - x.r) = y.r - x.r := IntWalk.i64_in _ (by omega)
  have w1 : IntKind.i64.wrap a = a := IntWalk.i64_in _ (by omega)
  have w2 : IntKind.i64.wrap b = b := IntWalk.i64_in _ (by omega)
  have w3 : IntKind.i64.wrap δ = δ := IntWalk.i64_in _ (by omega)
  go_enter Try.func58, Try.ntmps58
  go_upto_region 1 with fail
  generalize hW : ((w.alloc (.cells #[.bool x.s, .int .i64 x.m, .int .i64 x.r] 45)).alloc (.cells #[.bool y.s, .int .i64 y.m, .int .i64 y.r] 45)) = W
  have q0_0 : W.cell? ⟨w.heap.size, 0, none⟩ = some (.bool x.s) := by rw [← hW]; simp [go_sem]
  have q0_1 : W.cell? ⟨w.heap.size, 1, none⟩ = some (.int .i64 x.m) := by rw [← hW]; simp [go_sem]
  have q0_2 : W.cell? ⟨w.heap.size, 2, none⟩ = some (.int .i64 x.r) := by rw [← hW]; simp [go_sem]
  have q1_0 : W.cell? ⟨w.heap.size + 1, 0, none⟩ = some (.bool y.s) := by rw [← hW]; simp [go_sem]
  have q1_1 : W.cell? ⟨w.heap.size + 1, 1, none⟩ = some (.int .i64 y.m) := by rw [← hW]; simp [go_sem]
  have q1_2 : W.cell? ⟨w.heap.size + 1, 2, none⟩ = some (.int .i64 y.r) := by rw [← hW]; simp [go_sem]
  have z0 : w.heap.size < W.heap.size := by rw [← hW]; first | (simp; done) | (simp; omega)
  have z1 : w.heap.size + 1 < W.heap.size := by rw [← hW]; first | (simp; done) | (simp; omega)
  have HW : Below w.heap.size w W := by rw [← hW]; exact (by repeat (first | (with_reducible assumption) | (with_reducible exact Below.refl _ _) | (with_reducible refine Below.alloc ?_ (by first | omega | (simp; omega) | (simp; done) | (dsimp only; omega)) _) | (with_reducible refine Below.setCell ?_ (by first | omega | (simp; omega) | (simp; done) | (dsimp only; omega)) _) | (with_reducible refine Below.drew ?_) | (with_reducible refine Below.trans ?_ (Below.mono (by assumption) (by first | omega | (simp; omega) | (simp; done) | (dsimp only; omega))))))
  clear hW
  go_wp2_with (go_at_call 56; (with_reducible refine (HC.out _).mono ?_); rintro e w1 ⟨rfl, hb1⟩; obtain ⟨hc1, hf1⟩ := bcell hb1; have hz1 := hb1.size; (try simp at hz1); (try have hy1 := Nat.lt_of_succ_le hz1); (try have hv1 := Nat.lt_of_succ_lt hy1); (try have hw10 : w.heap.size < w1.heap.size := by omega); (try have hw11 : w.heap.size + 1 < w1.heap.size := by omega); (try have hw12 : w.heap.size + 1 + 1 < w1.heap.size := by omega); (try have hw13 : w.heap.size + 1 + 1 + 1 < w1.heap.size := by omega))
  refine region_seq (S := fun w' => Below w1.heap.size w1 w') rfl (by kernel_rfl) (by kernel_rfl) (by repeat (first | (with_reducible assumption) | (with_reducible exact Below.refl _ _) | (with_reducible refine Below.alloc ?_ (by first | omega | (simp; omega) | (simp; done) | (dsimp only; omega)) _) | (with_reducible refine Below.setCell ?_ (by first | omega | (simp; omega) | (simp; done) | (dsimp only; omega)) _) | (with_reducible refine Below.drew ?_) | (with_reducible refine Below.trans ?_ (Below.mono (by assumption) (by first | omega | (simp; omega) | (simp; done) | (dsimp only; omega)))))) (fun fin hfin => ?_)
  iterate 20
    first
      | (refine SeqL.yes (v := ?_) (A' := ?_) rfl (by rfl) ?_ ?_ ?_
         rotate_left 2
         · intro w' K hS hK
           obtain ⟨hc, hf⟩ := bcell hS
           have hz := hS.size
           go_simp
           first
             | exact hK.out _ hS
             | (go_at_call 38; (with_reducible refine (M1.out _).mono ?_); rintro e w1 ⟨rfl, rfl⟩; exact hK.out _ hS)
             | (go_at_call 38; (with_reducible refine (M2.out _).mono ?_); rintro e w1 ⟨rfl, rfl⟩; exact hK.out _ hS)
             | (go_at_call 69; (with_reducible refine (HI.out _).mono ?_); rintro e w1 ⟨rfl, hb1⟩; exact hK.out _ (hS.trans (hb1.mono hz)))
             | (go_at_call 68; (with_reducible refine (HP.out _).mono ?_); rintro e w1 ⟨rfl, hb1⟩; exact hK.out _ (hS.trans (hb1.mono hz)))
             | trace_state
         · simp only [Act.put, List.setIfInBounds_toArray, List.set_cons_zero, List.set_cons_succ]; exact rfl)
      | (refine SeqL.no (A' := ?_) rfl (by rfl) ?_ ?_
         rotate_left
         · simp only [Act.put, List.setIfInBounds_toArray, List.set_cons_zero, List.set_cons_succ]; exact rfl)
  refine SeqL.nil (hfin.out _ ?_)
  clear hfin fin
  intro w1 hS1
  go_wp2
  go_ret
  exact ⟨rfl, (by repeat (first | (with_reducible assumption) | (with_reducible exact Below.refl _ _) | (with_reducible refine Below.alloc ?_ (by first | omega | (simp; omega) | (simp; done) | (dsimp only; omega)) _) | (with_reducible refine Below.setCell ?_ (by first | omega | (simp; omega) | (simp; done) | (dsimp only; omega)) _) | (with_reducible refine Below.drew ?_) | (with_reducible refine Below.trans ?_ (Below.mono (by assumption) (by first | omega | (simp; omega) | (simp; done) | (dsimp only; omega))))))⟩
end Go.Proofs.Ytbjdiaakhlgcgaa
