/- X-PARTIAL What sondageref08.far returns: layer 8. -/
import Derived.Test.YtdpnphnafidpiaaValB
import Derived.Test.YtdpnphnafidpiaaRefE
namespace Go.Proofs.Ytdpnphnafidpiaa
open Go.RowKit

/-- How far, of the size of a difference and its sign. -/
theorem far_pos {v m : Int} (h : 0 ≤ v) (_hm : 0 < m) : v.tmod m = v % m := Int.tmod_eq_emod_of_nonneg h
theorem far_neg {v m : Int} (hm : 0 < m) : v % m = if 0 < (-v) % m then m - (-v) % m else 0 := by
  have h0 := Int.emod_nonneg (-v) (show m ≠ 0 by omega)
  have h1 := Int.emod_lt_of_pos (-v) hm
  have d : m ∣ -v - (-v) % m := Int.dvd_self_sub_emod
  split
  · next h =>
    refine (mod_dvd (by omega) (by omega)).2 ?_
    have := Int.dvd_sub (Int.dvd_neg.2 d) (Int.dvd_refl m)
    rwa [show -(-v - (-v) % m) - m = v - (m - (-v) % m) by omega] at this
  · next h =>
    refine (mod_dvd (by omega) hm).2 ?_
    have := Int.dvd_neg.2 d
    rwa [show -(-v - (-v) % m) = v - 0 by omega] at this
theorem loW_small {v : Int} (h0 : 0 ≤ v) (h1 : v < 18446744073709551616) : loW v = v := by unfold loW M64; omega

set_option maxRecDepth 100000 in
set_option maxHeartbeats 4000000 in
theorem r8_far_up (n : Int) (c : Cg) (hn : I64 n) (hc : c.ok) (hm : 0 < c.m) (w : World) :
    Calls Try.prog 32 #[.int .i64 n, .agg #[.bool c.s, .int .i64 c.m, .int .i64 c.r], .bool false] w fun e w' => e = .returned (.int .i64 (upI n c.m c.r)) ∧ Below w.heap.size w w' := by
  obtain ⟨hcm, hcr⟩ := hc
  have H1 := Lib.hid (r_of c.r hcr)
  have H2 := Lib.hid (r_of n hn)
  have h3 := r_sub (hiW c.r) (loW c.r) (hiW n) (loW n) (U64.lo _) (U64.lo _)
  unfold I64 at hn hcm hcr
  rw [wv_hilo, wv_hilo, wrap128_id (by unfold I128; omega)] at h3
  have H3 := Lib.hid h3
  unfold upI
  generalize hv : c.r - n = v at *
  have h4 := r_neg (hiW v) (loW v) (U64.lo _)
  rw [wv_hilo, wrap128_id (by unfold I128; omega)] at h4
  have H4 := Lib.hid h4
  have h5 := r_cmp (hiW v) (loW v) 0 0 (I64_hi (by unfold I128; omega)) (U64.lo _) (by unfold I64; omega) U64_0
  rw [wv_hilo, wv00] at h5
  have hmu : IntKind.u64.wrap c.m = c.m := by rw [wrapu]; omega
  have hm0 : (c.m == 0) = false := by simp; omega
  have hcase : v < 0 ∨ v = 0 ∨ 0 < v := by omega
  clear h3 h4
  rcases hcase with hneg | hpos
  · rw [cmp_lt hneg] at h5
    have H5 := Lib.hid h5
    rw [far_neg (v := v) hm]
    have hl : loW (-v) = -v := loW_small (by omega) (by omega)
    have hk1 := Int.emod_nonneg (-v) (show c.m ≠ 0 by omega)
    have hk2 := Int.emod_lt_of_pos (-v) hm
    have ht : (-v).tmod c.m = (-v) % c.m := Int.tmod_eq_emod_of_nonneg (by omega)
    generalize (-v) % c.m = k at *
    clear h5 hv
    generalize -v = u at *
    have hw : wrap64 k = k := by unfold wrap64; omega
    have hwm : wrap64 (c.m - k) = c.m - k := by unfold wrap64; omega
    cases h0 : decide (0 < k)
    all_goals
      first | rw [if_neg (of_decide_eq_false h0)] | rw [if_pos (of_decide_eq_true h0)]
      go_enter Try.func32, Try.ntmps32
      go_wp2_with (first | (go_at_call 31; (with_reducible refine (H1.out _).mono ?_); rintro e w1 ⟨rfl, hb1⟩; obtain ⟨hc1, hf1⟩ := bcell hb1; have hz1 := hb1.size; (try simp at hz1); (try have hy1 := Nat.lt_of_succ_le hz1); (try have hv1 := Nat.lt_of_succ_lt hy1); (try have hw10 : w.heap.size < w1.heap.size := by omega); (try have hw11 : w.heap.size + 1 < w1.heap.size := by omega); (try have hw12 : w.heap.size + 1 + 1 < w1.heap.size := by omega); (try have hw13 : w.heap.size + 1 + 1 + 1 < w1.heap.size := by omega)) | (go_at_call 31; (with_reducible refine (H2.out _).mono ?_); rintro e w2 ⟨rfl, hb2⟩; obtain ⟨hc2, hf2⟩ := bcell hb2; have hz2 := hb2.size; (try simp at hz2); (try have hy2 := Nat.lt_of_succ_le hz2); (try have hv2 := Nat.lt_of_succ_lt hy2); (try have hw20 : w.heap.size < w2.heap.size := by omega); (try have hw21 : w.heap.size + 1 < w2.heap.size := by omega); (try have hw22 : w.heap.size + 1 + 1 < w2.heap.size := by omega); (try have hw23 : w.heap.size + 1 + 1 + 1 < w2.heap.size := by omega)) | (go_at_call 33; (with_reducible refine (H3.out _).mono ?_); rintro e w3 ⟨rfl, hb3⟩; obtain ⟨hc3, hf3⟩ := bcell hb3; have hz3 := hb3.size; (try simp at hz3); (try have hy3 := Nat.lt_of_succ_le hz3); (try have hv3 := Nat.lt_of_succ_lt hy3); (try have hw30 : w.heap.size < w3.heap.size := by omega); (try have hw31 : w.heap.size + 1 < w3.heap.size := by omega); (try have hw32 : w.heap.size + 1 + 1 < w3.heap.size := by omega); (try have hw33 : w.heap.size + 1 + 1 + 1 < w3.heap.size := by omega)) | (go_at_call 59; (with_reducible refine (H5.out _).mono ?_); rintro e w4 ⟨rfl, hb4⟩; obtain ⟨hc4, hf4⟩ := bcell hb4; have hz4 := hb4.size; (try simp at hz4); (try have hy4 := Nat.lt_of_succ_le hz4); (try have hv4 := Nat.lt_of_succ_lt hy4); (try have hw40 : w.heap.size < w4.heap.size := by omega); (try have hw41 : w.heap.size + 1 < w4.heap.size := by omega); (try have hw42 : w.heap.size + 1 + 1 < w4.heap.size := by omega); (try have hw43 : w.heap.size + 1 + 1 + 1 < w4.heap.size := by omega); (try have hx4_0 : w3.heap.size < w4.heap.size := by omega)) | (go_at_call 62; (with_reducible refine (H4.out _).mono ?_); rintro e w5 ⟨rfl, hb5⟩; obtain ⟨hc5, hf5⟩ := bcell hb5; have hz5 := hb5.size; (try simp at hz5); (try have hy5 := Nat.lt_of_succ_le hz5); (try have hv5 := Nat.lt_of_succ_lt hy5); (try have hw50 : w.heap.size < w5.heap.size := by omega); (try have hw51 : w.heap.size + 1 < w5.heap.size := by omega); (try have hw52 : w.heap.size + 1 + 1 < w5.heap.size := by omega); (try have hw53 : w.heap.size + 1 + 1 + 1 < w5.heap.size := by omega); (try have hx5_0 : w3.heap.size < w5.heap.size := by omega)))
      go_ret
      first
        | exact ⟨rfl, (by repeat (first | (with_reducible assumption) | (with_reducible exact Below.refl _ _) | (with_reducible refine Below.alloc ?_ (by first | omega | (simp; omega) | (simp; done) | (dsimp only; omega)) _) | (with_reducible refine Below.setCell ?_ (by first | omega | (simp; omega) | (simp; done) | (dsimp only; omega)) _) | (with_reducible refine Below.drew ?_) | (with_reducible refine Below.trans ?_ (Below.mono (by assumption) (by first | omega | (simp; omega) | (simp; done) | (dsimp only; omega))))))⟩
        | (obtain rfl : k = 0 := by (have := of_decide_eq_false h0; omega)
           exact ⟨rfl, (by repeat (first | (with_reducible assumption) | (with_reducible exact Below.refl _ _) | (with_reducible refine Below.alloc ?_ (by first | omega | (simp; omega) | (simp; done) | (dsimp only; omega)) _) | (with_reducible refine Below.setCell ?_ (by first | omega | (simp; omega) | (simp; done) | (dsimp only; omega)) _) | (with_reducible refine Below.drew ?_) | (with_reducible refine Below.trans ?_ (Below.mono (by assumption) (by first | omega | (simp; omega) | (simp; done) | (dsimp only; omega))))))⟩)
  · have hc0 : cmpI v 0 = 0 ∨ cmpI v 0 = 1 := cmp_ge (by omega)
    have hk1 := Int.emod_nonneg v (show c.m ≠ 0 by omega)
    have hk2 := Int.emod_lt_of_pos v hm
    have ht : (loW v).tmod c.m = v % c.m := by rw [loW_small (by omega) (by omega)]; exact Int.tmod_eq_emod_of_nonneg (by omega)
    generalize v % c.m = k at *
    generalize loW v = lo at *
    generalize hiW v = hi at *
    have hw : wrap64 k = k := by unfold wrap64; omega
    clear hpos hv
    rcases hc0 with hc0 | hc0
    all_goals
      rw [hc0] at h5
      have H5 := Lib.hid h5
      clear h5 hc0
      go_enter Try.func32, Try.ntmps32
      go_wp2_with (first | (go_at_call 31; (with_reducible refine (H1.out _).mono ?_); rintro e w1 ⟨rfl, hb1⟩; obtain ⟨hc1, hf1⟩ := bcell hb1; have hz1 := hb1.size; (try simp at hz1); (try have hy1 := Nat.lt_of_succ_le hz1); (try have hv1 := Nat.lt_of_succ_lt hy1); (try have hw10 : w.heap.size < w1.heap.size := by omega); (try have hw11 : w.heap.size + 1 < w1.heap.size := by omega); (try have hw12 : w.heap.size + 1 + 1 < w1.heap.size := by omega); (try have hw13 : w.heap.size + 1 + 1 + 1 < w1.heap.size := by omega)) | (go_at_call 31; (with_reducible refine (H2.out _).mono ?_); rintro e w2 ⟨rfl, hb2⟩; obtain ⟨hc2, hf2⟩ := bcell hb2; have hz2 := hb2.size; (try simp at hz2); (try have hy2 := Nat.lt_of_succ_le hz2); (try have hv2 := Nat.lt_of_succ_lt hy2); (try have hw20 : w.heap.size < w2.heap.size := by omega); (try have hw21 : w.heap.size + 1 < w2.heap.size := by omega); (try have hw22 : w.heap.size + 1 + 1 < w2.heap.size := by omega); (try have hw23 : w.heap.size + 1 + 1 + 1 < w2.heap.size := by omega)) | (go_at_call 33; (with_reducible refine (H3.out _).mono ?_); rintro e w3 ⟨rfl, hb3⟩; obtain ⟨hc3, hf3⟩ := bcell hb3; have hz3 := hb3.size; (try simp at hz3); (try have hy3 := Nat.lt_of_succ_le hz3); (try have hv3 := Nat.lt_of_succ_lt hy3); (try have hw30 : w.heap.size < w3.heap.size := by omega); (try have hw31 : w.heap.size + 1 < w3.heap.size := by omega); (try have hw32 : w.heap.size + 1 + 1 < w3.heap.size := by omega); (try have hw33 : w.heap.size + 1 + 1 + 1 < w3.heap.size := by omega)) | (go_at_call 59; (with_reducible refine (H5.out _).mono ?_); rintro e w4 ⟨rfl, hb4⟩; obtain ⟨hc4, hf4⟩ := bcell hb4; have hz4 := hb4.size; (try simp at hz4); (try have hy4 := Nat.lt_of_succ_le hz4); (try have hv4 := Nat.lt_of_succ_lt hy4); (try have hw40 : w.heap.size < w4.heap.size := by omega); (try have hw41 : w.heap.size + 1 < w4.heap.size := by omega); (try have hw42 : w.heap.size + 1 + 1 < w4.heap.size := by omega); (try have hw43 : w.heap.size + 1 + 1 + 1 < w4.heap.size := by omega); (try have hx4_0 : w3.heap.size < w4.heap.size := by omega)))
      go_ret
      exact ⟨rfl, (by repeat (first | (with_reducible assumption) | (with_reducible exact Below.refl _ _) | (with_reducible refine Below.alloc ?_ (by first | omega | (simp; omega) | (simp; done) | (dsimp only; omega)) _) | (with_reducible refine Below.setCell ?_ (by first | omega | (simp; omega) | (simp; done) | (dsimp only; omega)) _) | (with_reducible refine Below.drew ?_) | (with_reducible refine Below.trans ?_ (Below.mono (by assumption) (by first | omega | (simp; omega) | (simp; done) | (dsimp only; omega))))))⟩

set_option maxRecDepth 100000 in
set_option maxHeartbeats 4000000 in
theorem r8_far_dn (n : Int) (c : Cg) (hn : I64 n) (hc : c.ok) (hm : 0 < c.m) (w : World) :
    Calls Try.prog 32 #[.int .i64 n, .agg #[.bool c.s, .int .i64 c.m, .int .i64 c.r], .bool true] w fun e w' => e = .returned (.int .i64 (dnI n c.m c.r)) ∧ Below w.heap.size w w' := by
  obtain ⟨hcm, hcr⟩ := hc
  have H1 := Lib.hid (r_of c.r hcr)
  have H2 := Lib.hid (r_of n hn)
  have h3 := r_sub (hiW c.r) (loW c.r) (hiW n) (loW n) (U64.lo _) (U64.lo _)
  unfold I64 at hn hcm hcr
  rw [wv_hilo, wv_hilo, wrap128_id (by unfold I128; omega)] at h3
  have H3 := Lib.hid h3
  have h6 := r_neg (hiW (c.r - n)) (loW (c.r - n)) (U64.lo _)
  rw [wv_hilo, wrap128_id (by unfold I128; omega), show -(c.r - n) = n - c.r by omega] at h6
  generalize c.r - n = d at *
  have H6 := Lib.hid h6
  clear h6
  unfold dnI
  generalize hv : n - c.r = v at *
  have h4 := r_neg (hiW v) (loW v) (U64.lo _)
  rw [wv_hilo, wrap128_id (by unfold I128; omega)] at h4
  have H4 := Lib.hid h4
  have h5 := r_cmp (hiW v) (loW v) 0 0 (I64_hi (by unfold I128; omega)) (U64.lo _) (by unfold I64; omega) U64_0
  rw [wv_hilo, wv00] at h5
  have hmu : IntKind.u64.wrap c.m = c.m := by rw [wrapu]; omega
  have hm0 : (c.m == 0) = false := by simp; omega
  have hcase : v < 0 ∨ v = 0 ∨ 0 < v := by omega
  clear h3 h4
  rcases hcase with hneg | hpos
  · rw [cmp_lt hneg] at h5
    have H5 := Lib.hid h5
    rw [far_neg (v := v) hm]
    have hl : loW (-v) = -v := loW_small (by omega) (by omega)
    have hk1 := Int.emod_nonneg (-v) (show c.m ≠ 0 by omega)
    have hk2 := Int.emod_lt_of_pos (-v) hm
    have ht : (-v).tmod c.m = (-v) % c.m := Int.tmod_eq_emod_of_nonneg (by omega)
    generalize (-v) % c.m = k at *
    clear h5 hv
    generalize -v = u at *
    have hw : wrap64 k = k := by unfold wrap64; omega
    have hwm : wrap64 (c.m - k) = c.m - k := by unfold wrap64; omega
    cases h0 : decide (0 < k)
    all_goals
      first | rw [if_neg (of_decide_eq_false h0)] | rw [if_pos (of_decide_eq_true h0)]
      go_enter Try.func32, Try.ntmps32
      go_upto_region 1 with fail
      generalize hW : (w.alloc (.cells #[.bool c.s, .int .i64 c.m, .int .i64 c.r] 25)) = W
      have q0_0 : W.cell? ⟨w.heap.size, 0, none⟩ = some (.bool c.s) := by rw [← hW]; simp [go_sem]
      have q0_1 : W.cell? ⟨w.heap.size, 1, none⟩ = some (.int .i64 c.m) := by rw [← hW]; simp [go_sem]
      have q0_2 : W.cell? ⟨w.heap.size, 2, none⟩ = some (.int .i64 c.r) := by rw [← hW]; simp [go_sem]
      have f0 : ∀ o, W.frozen? ⟨w.heap.size, o, none⟩ = false := by intro o; rw [← hW]; simp [go_sem]
      have z0 : w.heap.size < W.heap.size := by rw [← hW]; first | (simp; done) | (simp; omega)
      have HW : Below w.heap.size w W := by rw [← hW]; exact (by repeat (first | (with_reducible assumption) | (with_reducible exact Below.refl _ _) | (with_reducible refine Below.alloc ?_ (by first | omega | (simp; omega) | (simp; done) | (dsimp only; omega)) _) | (with_reducible refine Below.setCell ?_ (by first | omega | (simp; omega) | (simp; done) | (dsimp only; omega)) _) | (with_reducible refine Below.drew ?_) | (with_reducible refine Below.trans ?_ (Below.mono (by assumption) (by first | omega | (simp; omega) | (simp; done) | (dsimp only; omega))))))
      clear hW
      go_upto_region 3 with (first | (go_at_call 31; (with_reducible refine (H1.out _).mono ?_); rintro e w1 ⟨rfl, hb1⟩; obtain ⟨hc1, hf1⟩ := bcell hb1; have hz1 := hb1.size; (try simp at hz1); (try have hy1 := Nat.lt_of_succ_le hz1); (try have hv1 := Nat.lt_of_succ_lt hy1); (try have hw10 : w.heap.size < w1.heap.size := by omega); (try have hw11 : w.heap.size + 1 < w1.heap.size := by omega); (try have hw12 : w.heap.size + 1 + 1 < w1.heap.size := by omega); (try have hw13 : w.heap.size + 1 + 1 + 1 < w1.heap.size := by omega)) | (go_at_call 31; (with_reducible refine (H2.out _).mono ?_); rintro e w2 ⟨rfl, hb2⟩; obtain ⟨hc2, hf2⟩ := bcell hb2; have hz2 := hb2.size; (try simp at hz2); (try have hy2 := Nat.lt_of_succ_le hz2); (try have hv2 := Nat.lt_of_succ_lt hy2); (try have hw20 : w.heap.size < w2.heap.size := by omega); (try have hw21 : w.heap.size + 1 < w2.heap.size := by omega); (try have hw22 : w.heap.size + 1 + 1 < w2.heap.size := by omega); (try have hw23 : w.heap.size + 1 + 1 + 1 < w2.heap.size := by omega)) | (go_at_call 33; (with_reducible refine (H3.out _).mono ?_); rintro e w3 ⟨rfl, hb3⟩; obtain ⟨hc3, hf3⟩ := bcell hb3; have hz3 := hb3.size; (try simp at hz3); (try have hy3 := Nat.lt_of_succ_le hz3); (try have hv3 := Nat.lt_of_succ_lt hy3); (try have hw30 : w.heap.size < w3.heap.size := by omega); (try have hw31 : w.heap.size + 1 < w3.heap.size := by omega); (try have hw32 : w.heap.size + 1 + 1 < w3.heap.size := by omega); (try have hw33 : w.heap.size + 1 + 1 + 1 < w3.heap.size := by omega)))
      have k3 := al_new w3 (.cells #[.int .i64 (hiW d), .int .u64 (loW d)] 60) rfl
      have HV : Below W.heap.size W (w3.alloc (.cells #[.int .i64 (hiW d), .int .u64 (loW d)] 60)) := (by repeat (first | (with_reducible assumption) | (with_reducible exact Below.refl _ _) | (with_reducible refine Below.alloc ?_ (by first | omega | (simp; omega) | (simp; done) | (dsimp only; omega)) _) | (with_reducible refine Below.setCell ?_ (by first | omega | (simp; omega) | (simp; done) | (dsimp only; omega)) _) | (with_reducible refine Below.drew ?_) | (with_reducible refine Below.trans ?_ (Below.mono (by assumption) (by first | omega | (simp; omega) | (simp; done) | (dsimp only; omega))))))
      have hz3W : W.heap.size ≤ w3.heap.size := by omega
      generalize w3.alloc (.cells #[.int .i64 (hiW d), .int .u64 (loW d)] 60) = V at *
      clear hb1 hb2 hb3 hc1 hc2 hc3 hf1 hf2 hf3
      have p_0 := blk_cell k3 0
      have p_1 := blk_cell k3 1
      simp only [List.getElem?_toArray, List.getElem?_cons_zero, List.getElem?_cons_succ] at p_0 p_1
      have fp := blk_free k3
      have zp := blk_lt k3
      go_wp2_with fail
      go_at_call 62
      refine (H6.out _).mono ?_
      rintro e w6 ⟨rfl, hb6⟩
      have k6 := (hb6.block _ zp).trans k3
      replace HV := HV.trans (hb6.mono (by omega))
      clear p_0 p_1 fp zp k3 hb6
      have p_0 := blk_cell k6 0
      have p_1 := blk_cell k6 1
      simp only [List.getElem?_toArray, List.getElem?_cons_zero, List.getElem?_cons_succ] at p_0 p_1
      have fp := blk_free k6
      have zp := blk_lt k6
      go_upto_region 4 with fail
      have kY := blk_set2 (v0 := .int .i64 (hiW v)) (v1 := .int .u64 (loW v)) k6
      have HY : Below W.heap.size W ((w6.setCell ⟨w3.heap.size, 0, none⟩ (.int .i64 (hiW v))).setCell ⟨w3.heap.size, 1, none⟩ (.int .u64 (loW v))) := (by repeat (first | (with_reducible assumption) | (with_reducible exact Below.refl _ _) | (with_reducible refine Below.alloc ?_ (by first | omega | (simp; omega) | (simp; done) | (dsimp only; omega)) _) | (with_reducible refine Below.setCell ?_ (by first | omega | (simp; omega) | (simp; done) | (dsimp only; omega)) _) | (with_reducible refine Below.drew ?_) | (with_reducible refine Below.trans ?_ (Below.mono (by assumption) (by first | omega | (simp; omega) | (simp; done) | (dsimp only; omega))))))
      generalize (w6.setCell ⟨w3.heap.size, 0, none⟩ (.int .i64 (hiW v))).setCell ⟨w3.heap.size, 1, none⟩ (.int .u64 (loW v)) = Y at *
      clear p_0 p_1 fp zp k6 HV
      have HWY := HW.trans (HY.mono HW.size)
      replace q0_0 := (HY.cell (p := ⟨w.heap.size, 0, none⟩) z0).trans q0_0
      replace q0_1 := (HY.cell (p := ⟨w.heap.size, 1, none⟩) z0).trans q0_1
      replace q0_2 := (HY.cell (p := ⟨w.heap.size, 2, none⟩) z0).trans q0_2
      replace z0 := Nat.lt_of_lt_of_le z0 HY.size
      have p_0 := blk_cell kY 0
      have p_1 := blk_cell kY 1
      simp only [List.getElem?_toArray, List.getElem?_cons_zero, List.getElem?_cons_succ] at p_0 p_1
      have fp := blk_free kY
      have zp := blk_lt kY
      clear f0 HY
      go_wp2_with (first | (go_at_call 59; (with_reducible refine (H5.out _).mono ?_); rintro e w4 ⟨rfl, hb4⟩; obtain ⟨hc4, hf4⟩ := bcell hb4; have hz4 := hb4.size; (try simp at hz4); (try have hy4 := Nat.lt_of_succ_le hz4); (try have hv4 := Nat.lt_of_succ_lt hy4); (try have hw40 : w.heap.size < w4.heap.size := by omega); (try have hw41 : w.heap.size + 1 < w4.heap.size := by omega); (try have hw42 : w.heap.size + 1 + 1 < w4.heap.size := by omega); (try have hw43 : w.heap.size + 1 + 1 + 1 < w4.heap.size := by omega); (try have hx4_0 : w3.heap.size < w4.heap.size := by omega); (try have hx4_1 : w.heap.size < w4.heap.size := by omega)) | (go_at_call 62; (with_reducible refine (H4.out _).mono ?_); rintro e w5 ⟨rfl, hb5⟩; obtain ⟨hc5, hf5⟩ := bcell hb5; have hz5 := hb5.size; (try simp at hz5); (try have hy5 := Nat.lt_of_succ_le hz5); (try have hv5 := Nat.lt_of_succ_lt hy5); (try have hw50 : w.heap.size < w5.heap.size := by omega); (try have hw51 : w.heap.size + 1 < w5.heap.size := by omega); (try have hw52 : w.heap.size + 1 + 1 < w5.heap.size := by omega); (try have hw53 : w.heap.size + 1 + 1 + 1 < w5.heap.size := by omega); (try have hx5_0 : w3.heap.size < w5.heap.size := by omega); (try have hx5_1 : w.heap.size < w5.heap.size := by omega)))
      go_ret
      first
        | exact ⟨rfl, (by repeat (first | (with_reducible assumption) | (with_reducible exact Below.refl _ _) | (with_reducible refine Below.alloc ?_ (by first | omega | (simp; omega) | (simp; done) | (dsimp only; omega)) _) | (with_reducible refine Below.setCell ?_ (by first | omega | (simp; omega) | (simp; done) | (dsimp only; omega)) _) | (with_reducible refine Below.drew ?_) | (with_reducible refine Below.trans ?_ (Below.mono (by assumption) (by first | omega | (simp; omega) | (simp; done) | (dsimp only; omega))))))⟩
        | (obtain rfl : k = 0 := by (have := of_decide_eq_false h0; omega)
           exact ⟨rfl, (by repeat (first | (with_reducible assumption) | (with_reducible exact Below.refl _ _) | (with_reducible refine Below.alloc ?_ (by first | omega | (simp; omega) | (simp; done) | (dsimp only; omega)) _) | (with_reducible refine Below.setCell ?_ (by first | omega | (simp; omega) | (simp; done) | (dsimp only; omega)) _) | (with_reducible refine Below.drew ?_) | (with_reducible refine Below.trans ?_ (Below.mono (by assumption) (by first | omega | (simp; omega) | (simp; done) | (dsimp only; omega))))))⟩)
  · have hc0 : cmpI v 0 = 0 ∨ cmpI v 0 = 1 := cmp_ge (by omega)
    have hk1 := Int.emod_nonneg v (show c.m ≠ 0 by omega)
    have hk2 := Int.emod_lt_of_pos v hm
    have ht : (loW v).tmod c.m = v % c.m := by rw [loW_small (by omega) (by omega)]; exact Int.tmod_eq_emod_of_nonneg (by omega)
    generalize v % c.m = k at *
    generalize loW v = lo at *
    generalize hiW v = hi at *
    have hw : wrap64 k = k := by unfold wrap64; omega
    clear hpos hv
    rcases hc0 with hc0 | hc0
    all_goals
      rw [hc0] at h5
      have H5 := Lib.hid h5
      clear h5 hc0
      go_enter Try.func32, Try.ntmps32
      go_upto_region 1 with fail
      generalize hW : (w.alloc (.cells #[.bool c.s, .int .i64 c.m, .int .i64 c.r] 25)) = W
      have q0_0 : W.cell? ⟨w.heap.size, 0, none⟩ = some (.bool c.s) := by rw [← hW]; simp [go_sem]
      have q0_1 : W.cell? ⟨w.heap.size, 1, none⟩ = some (.int .i64 c.m) := by rw [← hW]; simp [go_sem]
      have q0_2 : W.cell? ⟨w.heap.size, 2, none⟩ = some (.int .i64 c.r) := by rw [← hW]; simp [go_sem]
      have f0 : ∀ o, W.frozen? ⟨w.heap.size, o, none⟩ = false := by intro o; rw [← hW]; simp [go_sem]
      have z0 : w.heap.size < W.heap.size := by rw [← hW]; first | (simp; done) | (simp; omega)
      have HW : Below w.heap.size w W := by rw [← hW]; exact (by repeat (first | (with_reducible assumption) | (with_reducible exact Below.refl _ _) | (with_reducible refine Below.alloc ?_ (by first | omega | (simp; omega) | (simp; done) | (dsimp only; omega)) _) | (with_reducible refine Below.setCell ?_ (by first | omega | (simp; omega) | (simp; done) | (dsimp only; omega)) _) | (with_reducible refine Below.drew ?_) | (with_reducible refine Below.trans ?_ (Below.mono (by assumption) (by first | omega | (simp; omega) | (simp; done) | (dsimp only; omega))))))
      clear hW
      go_upto_region 3 with (first | (go_at_call 31; (with_reducible refine (H1.out _).mono ?_); rintro e w1 ⟨rfl, hb1⟩; obtain ⟨hc1, hf1⟩ := bcell hb1; have hz1 := hb1.size; (try simp at hz1); (try have hy1 := Nat.lt_of_succ_le hz1); (try have hv1 := Nat.lt_of_succ_lt hy1); (try have hw10 : w.heap.size < w1.heap.size := by omega); (try have hw11 : w.heap.size + 1 < w1.heap.size := by omega); (try have hw12 : w.heap.size + 1 + 1 < w1.heap.size := by omega); (try have hw13 : w.heap.size + 1 + 1 + 1 < w1.heap.size := by omega)) | (go_at_call 31; (with_reducible refine (H2.out _).mono ?_); rintro e w2 ⟨rfl, hb2⟩; obtain ⟨hc2, hf2⟩ := bcell hb2; have hz2 := hb2.size; (try simp at hz2); (try have hy2 := Nat.lt_of_succ_le hz2); (try have hv2 := Nat.lt_of_succ_lt hy2); (try have hw20 : w.heap.size < w2.heap.size := by omega); (try have hw21 : w.heap.size + 1 < w2.heap.size := by omega); (try have hw22 : w.heap.size + 1 + 1 < w2.heap.size := by omega); (try have hw23 : w.heap.size + 1 + 1 + 1 < w2.heap.size := by omega)) | (go_at_call 33; (with_reducible refine (H3.out _).mono ?_); rintro e w3 ⟨rfl, hb3⟩; obtain ⟨hc3, hf3⟩ := bcell hb3; have hz3 := hb3.size; (try simp at hz3); (try have hy3 := Nat.lt_of_succ_le hz3); (try have hv3 := Nat.lt_of_succ_lt hy3); (try have hw30 : w.heap.size < w3.heap.size := by omega); (try have hw31 : w.heap.size + 1 < w3.heap.size := by omega); (try have hw32 : w.heap.size + 1 + 1 < w3.heap.size := by omega); (try have hw33 : w.heap.size + 1 + 1 + 1 < w3.heap.size := by omega)))
      have k3 := al_new w3 (.cells #[.int .i64 (hiW d), .int .u64 (loW d)] 60) rfl
      have HV : Below W.heap.size W (w3.alloc (.cells #[.int .i64 (hiW d), .int .u64 (loW d)] 60)) := (by repeat (first | (with_reducible assumption) | (with_reducible exact Below.refl _ _) | (with_reducible refine Below.alloc ?_ (by first | omega | (simp; omega) | (simp; done) | (dsimp only; omega)) _) | (with_reducible refine Below.setCell ?_ (by first | omega | (simp; omega) | (simp; done) | (dsimp only; omega)) _) | (with_reducible refine Below.drew ?_) | (with_reducible refine Below.trans ?_ (Below.mono (by assumption) (by first | omega | (simp; omega) | (simp; done) | (dsimp only; omega))))))
      have hz3W : W.heap.size ≤ w3.heap.size := by omega
      generalize w3.alloc (.cells #[.int .i64 (hiW d), .int .u64 (loW d)] 60) = V at *
      clear hb1 hb2 hb3 hc1 hc2 hc3 hf1 hf2 hf3
      have p_0 := blk_cell k3 0
      have p_1 := blk_cell k3 1
      simp only [List.getElem?_toArray, List.getElem?_cons_zero, List.getElem?_cons_succ] at p_0 p_1
      have fp := blk_free k3
      have zp := blk_lt k3
      go_wp2_with fail
      go_at_call 62
      refine (H6.out _).mono ?_
      rintro e w6 ⟨rfl, hb6⟩
      have k6 := (hb6.block _ zp).trans k3
      replace HV := HV.trans (hb6.mono (by omega))
      clear p_0 p_1 fp zp k3 hb6
      have p_0 := blk_cell k6 0
      have p_1 := blk_cell k6 1
      simp only [List.getElem?_toArray, List.getElem?_cons_zero, List.getElem?_cons_succ] at p_0 p_1
      have fp := blk_free k6
      have zp := blk_lt k6
      go_upto_region 4 with fail
      have kY := blk_set2 (v0 := .int .i64 hi) (v1 := .int .u64 lo) k6
      have HY : Below W.heap.size W ((w6.setCell ⟨w3.heap.size, 0, none⟩ (.int .i64 hi)).setCell ⟨w3.heap.size, 1, none⟩ (.int .u64 lo)) := (by repeat (first | (with_reducible assumption) | (with_reducible exact Below.refl _ _) | (with_reducible refine Below.alloc ?_ (by first | omega | (simp; omega) | (simp; done) | (dsimp only; omega)) _) | (with_reducible refine Below.setCell ?_ (by first | omega | (simp; omega) | (simp; done) | (dsimp only; omega)) _) | (with_reducible refine Below.drew ?_) | (with_reducible refine Below.trans ?_ (Below.mono (by assumption) (by first | omega | (simp; omega) | (simp; done) | (dsimp only; omega))))))
      generalize (w6.setCell ⟨w3.heap.size, 0, none⟩ (.int .i64 hi)).setCell ⟨w3.heap.size, 1, none⟩ (.int .u64 lo) = Y at *
      clear p_0 p_1 fp zp k6 HV
      have HWY := HW.trans (HY.mono HW.size)
      replace q0_0 := (HY.cell (p := ⟨w.heap.size, 0, none⟩) z0).trans q0_0
      replace q0_1 := (HY.cell (p := ⟨w.heap.size, 1, none⟩) z0).trans q0_1
      replace q0_2 := (HY.cell (p := ⟨w.heap.size, 2, none⟩) z0).trans q0_2
      replace z0 := Nat.lt_of_lt_of_le z0 HY.size
      have p_0 := blk_cell kY 0
      have p_1 := blk_cell kY 1
      simp only [List.getElem?_toArray, List.getElem?_cons_zero, List.getElem?_cons_succ] at p_0 p_1
      have fp := blk_free kY
      have zp := blk_lt kY
      clear f0 HY
      go_wp2_with (go_at_call 59; (with_reducible refine (H5.out _).mono ?_); rintro e w4 ⟨rfl, hb4⟩; obtain ⟨hc4, hf4⟩ := bcell hb4; have hz4 := hb4.size; (try simp at hz4); (try have hy4 := Nat.lt_of_succ_le hz4); (try have hv4 := Nat.lt_of_succ_lt hy4); (try have hw40 : w.heap.size < w4.heap.size := by omega); (try have hw41 : w.heap.size + 1 < w4.heap.size := by omega); (try have hw42 : w.heap.size + 1 + 1 < w4.heap.size := by omega); (try have hw43 : w.heap.size + 1 + 1 + 1 < w4.heap.size := by omega); (try have hx4_0 : w3.heap.size < w4.heap.size := by omega); (try have hx4_1 : w.heap.size < w4.heap.size := by omega))
      go_ret
      exact ⟨rfl, (by repeat (first | (with_reducible assumption) | (with_reducible exact Below.refl _ _) | (with_reducible refine Below.alloc ?_ (by first | omega | (simp; omega) | (simp; done) | (dsimp only; omega)) _) | (with_reducible refine Below.setCell ?_ (by first | omega | (simp; omega) | (simp; done) | (dsimp only; omega)) _) | (with_reducible refine Below.drew ?_) | (with_reducible refine Below.trans ?_ (Below.mono (by assumption) (by first | omega | (simp; omega) | (simp; done) | (dsimp only; omega))))))⟩
end Go.Proofs.Ytdpnphnafidpiaa
