/- What sondageref02.Do returns, operator by operator; the law WrapDoes, walked. -/
import Derived.Test.YtphicgdllhmgdaaRefG
namespace Go.Proofs.Ytphicgdllhmgdaa
open Go.RowKit

theorem I64_wrap64 (x : Int) : I64 (wrap64 x) := by unfold I64 wrap64; omega

set_option maxHeartbeats 1000000 in
theorem r2_do_8_0 (a : Int) (w : World) :
    Calls Try.prog 37 #[.int .i64 8, .int .i64 a, .int .i64 0] w fun e w' =>
      e = .returned (.tuple #[.int .i64 0, .int .i64 10]) ∧ Below w.heap.size w w' := by
  have HX := Lib.hid (r2_exact_no 8 a 0 (by omega) (by omega) (by omega))
  go_enter Try.func37, Try.ntmps37
  go_wp2_with (go_at_call 42; (with_reducible refine (HX.out _).mono ?_); rintro e w1 ⟨rfl, hb1⟩; obtain ⟨hc1, hf1⟩ := bcell hb1; have hz1 := hb1.size; (try simp at hz1); (try have hy1 := Nat.lt_of_succ_le hz1); (try have hv1 := Nat.lt_of_succ_lt hy1); (try have hw10 : w.heap.size < w1.heap.size := by omega); (try have hw11 : w.heap.size + 1 < w1.heap.size := by omega); (try have hw12 : w.heap.size + 1 + 1 < w1.heap.size := by omega); (try have hw13 : w.heap.size + 1 + 1 + 1 < w1.heap.size := by omega))
  go_ret2
  exact ⟨rfl, (by repeat (first | (with_reducible assumption) | (with_reducible exact Below.refl _ _) | (with_reducible refine Below.alloc ?_ (by first | omega | (simp; omega) | (simp; done) | (dsimp only; omega)) _) | (with_reducible refine Below.setCell ?_ (by first | omega | (simp; omega) | (simp; done) | (dsimp only; omega)) _) | (with_reducible refine Below.drew ?_) | (with_reducible refine Below.trans ?_ (Below.mono (by assumption) (by first | omega | (simp; omega) | (simp; done) | (dsimp only; omega))))))⟩

set_option maxHeartbeats 1000000 in
theorem r2_do_9_0 (a : Int) (w : World) :
    Calls Try.prog 37 #[.int .i64 9, .int .i64 a, .int .i64 0] w fun e w' =>
      e = .returned (.tuple #[.int .i64 0, .int .i64 10]) ∧ Below w.heap.size w w' := by
  have HX := Lib.hid (r2_exact_no 9 a 0 (by omega) (by omega) (by omega))
  go_enter Try.func37, Try.ntmps37
  go_wp2_with (go_at_call 42; (with_reducible refine (HX.out _).mono ?_); rintro e w1 ⟨rfl, hb1⟩; obtain ⟨hc1, hf1⟩ := bcell hb1; have hz1 := hb1.size; (try simp at hz1); (try have hy1 := Nat.lt_of_succ_le hz1); (try have hv1 := Nat.lt_of_succ_lt hy1); (try have hw10 : w.heap.size < w1.heap.size := by omega); (try have hw11 : w.heap.size + 1 < w1.heap.size := by omega); (try have hw12 : w.heap.size + 1 + 1 < w1.heap.size := by omega); (try have hw13 : w.heap.size + 1 + 1 + 1 < w1.heap.size := by omega))
  go_ret2
  exact ⟨rfl, (by repeat (first | (with_reducible assumption) | (with_reducible exact Below.refl _ _) | (with_reducible refine Below.alloc ?_ (by first | omega | (simp; omega) | (simp; done) | (dsimp only; omega)) _) | (with_reducible refine Below.setCell ?_ (by first | omega | (simp; omega) | (simp; done) | (dsimp only; omega)) _) | (with_reducible refine Below.drew ?_) | (with_reducible refine Below.trans ?_ (Below.mono (by assumption) (by first | omega | (simp; omega) | (simp; done) | (dsimp only; omega))))))⟩

set_option maxHeartbeats 2000000 in
theorem r2_do_8 (a b : Int) (ha : I64 a) (hb : I64 b) (h0 : (b == 0) = false) (h1 : ¬ b = 0) (w : World) :
    Calls Try.prog 37 #[.int .i64 8, .int .i64 a, .int .i64 b] w fun e w' =>
      e = .returned (.tuple #[.int .i64 (wrap64 (a.tdiv b)), .int .i64 0]) ∧ Below w.heap.size w w' := by
  have HX := Lib.hid (r2_exact_no 8 a b (by omega) (by omega) (by omega))
  have HA := Lib.hid (r_of a ha)
  have HB := Lib.hid (r_of b hb)
  have hs := fun w => r_sub (hiW a) (loW a) (hiW b) (loW b) (U64.lo _) (U64.lo _) w
  rw [wv_hilo, wv_hilo, wrap128_id (sub_I128 ha hb)] at hs
  have HS := Lib.hid hs
  have hc := fun w => r_cmp (hiW (a - b)) (loW (a - b)) 0 0 (I64_hi (sub_I128 ha hb)) (U64.lo _) (by unfold I64; omega) U64_0 w
  rw [wv_hilo, wv00] at hc
  have HQ := Lib.hid (r2_quotient a b ha hb h1)
  generalize cmpI (a - b) 0 = c at *
  have HC := Lib.hid hc
  clear hs hc ha hb h1
  go_enter Try.func37, Try.ntmps37
  go_wp2_with (first | (go_at_call 42; (with_reducible refine (HX.out _).mono ?_); rintro e w1 ⟨rfl, hb1⟩; obtain ⟨hc1, hf1⟩ := bcell hb1; have hz1 := hb1.size; (try simp at hz1); (try have hy1 := Nat.lt_of_succ_le hz1); (try have hv1 := Nat.lt_of_succ_lt hy1); (try have hw10 : w.heap.size < w1.heap.size := by omega); (try have hw11 : w.heap.size + 1 < w1.heap.size := by omega); (try have hw12 : w.heap.size + 1 + 1 < w1.heap.size := by omega); (try have hw13 : w.heap.size + 1 + 1 + 1 < w1.heap.size := by omega)) | (go_at_call 25; (with_reducible refine (HA.out _).mono ?_); rintro e w2 ⟨rfl, hb2⟩; obtain ⟨hc2, hf2⟩ := bcell hb2; have hz2 := hb2.size; (try simp at hz2); (try have hy2 := Nat.lt_of_succ_le hz2); (try have hv2 := Nat.lt_of_succ_lt hy2); (try have hw20 : w.heap.size < w2.heap.size := by omega); (try have hw21 : w.heap.size + 1 < w2.heap.size := by omega); (try have hw22 : w.heap.size + 1 + 1 < w2.heap.size := by omega); (try have hw23 : w.heap.size + 1 + 1 + 1 < w2.heap.size := by omega); (try have hx2_0 : w1.heap.size < w2.heap.size := by omega)) | (go_at_call 25; (with_reducible refine (HB.out _).mono ?_); rintro e w3 ⟨rfl, hb3⟩; obtain ⟨hc3, hf3⟩ := bcell hb3; have hz3 := hb3.size; (try simp at hz3); (try have hy3 := Nat.lt_of_succ_le hz3); (try have hv3 := Nat.lt_of_succ_lt hy3); (try have hw30 : w.heap.size < w3.heap.size := by omega); (try have hw31 : w.heap.size + 1 < w3.heap.size := by omega); (try have hw32 : w.heap.size + 1 + 1 < w3.heap.size := by omega); (try have hw33 : w.heap.size + 1 + 1 + 1 < w3.heap.size := by omega); (try have hx3_0 : w1.heap.size < w3.heap.size := by omega)) | (go_at_call 18; (with_reducible refine (HS.out _).mono ?_); rintro e w4 ⟨rfl, hb4⟩; obtain ⟨hc4, hf4⟩ := bcell hb4; have hz4 := hb4.size; (try simp at hz4); (try have hy4 := Nat.lt_of_succ_le hz4); (try have hv4 := Nat.lt_of_succ_lt hy4); (try have hw40 : w.heap.size < w4.heap.size := by omega); (try have hw41 : w.heap.size + 1 < w4.heap.size := by omega); (try have hw42 : w.heap.size + 1 + 1 < w4.heap.size := by omega); (try have hw43 : w.heap.size + 1 + 1 + 1 < w4.heap.size := by omega); (try have hx4_0 : w1.heap.size < w4.heap.size := by omega)) | (go_at_call 29; (with_reducible refine (HC.out _).mono ?_); rintro e w5 ⟨rfl, hb5⟩; obtain ⟨hc5, hf5⟩ := bcell hb5; have hz5 := hb5.size; (try simp at hz5); (try have hy5 := Nat.lt_of_succ_le hz5); (try have hv5 := Nat.lt_of_succ_lt hy5); (try have hw50 : w.heap.size < w5.heap.size := by omega); (try have hw51 : w.heap.size + 1 < w5.heap.size := by omega); (try have hw52 : w.heap.size + 1 + 1 < w5.heap.size := by omega); (try have hw53 : w.heap.size + 1 + 1 + 1 < w5.heap.size := by omega); (try have hx5_0 : w1.heap.size < w5.heap.size := by omega)) | (go_at_call 61; (with_reducible refine (HQ.out _).mono ?_); rintro e w6 ⟨rfl, hb6⟩; obtain ⟨hc6, hf6⟩ := bcell hb6; have hz6 := hb6.size; (try simp at hz6); (try have hy6 := Nat.lt_of_succ_le hz6); (try have hv6 := Nat.lt_of_succ_lt hy6); (try have hw60 : w.heap.size < w6.heap.size := by omega); (try have hw61 : w.heap.size + 1 < w6.heap.size := by omega); (try have hw62 : w.heap.size + 1 + 1 < w6.heap.size := by omega); (try have hw63 : w.heap.size + 1 + 1 + 1 < w6.heap.size := by omega)))
  go_ret2
  exact ⟨rfl, (by repeat (first | (with_reducible assumption) | (with_reducible exact Below.refl _ _) | (with_reducible refine Below.alloc ?_ (by first | omega | (simp; omega) | (simp; done) | (dsimp only; omega)) _) | (with_reducible refine Below.setCell ?_ (by first | omega | (simp; omega) | (simp; done) | (dsimp only; omega)) _) | (with_reducible refine Below.drew ?_) | (with_reducible refine Below.trans ?_ (Below.mono (by assumption) (by first | omega | (simp; omega) | (simp; done) | (dsimp only; omega))))))⟩

set_option maxHeartbeats 2000000 in
theorem r2_do_9 (a b : Int) (ha : I64 a) (hb : I64 b) (h0 : (b == 0) = false) (h1 : ¬ b = 0) (w : World) :
    Calls Try.prog 37 #[.int .i64 9, .int .i64 a, .int .i64 b] w fun e w' =>
      e = .returned (.tuple #[.int .i64 (a.tmod b), .int .i64 0]) ∧ Below w.heap.size w w' := by
  have HX := Lib.hid (r2_exact_no 9 a b (by omega) (by omega) (by omega))
  have HA := Lib.hid (r_of a ha)
  have HB := Lib.hid (r_of b hb)
  have hs := fun w => r_sub (hiW a) (loW a) (hiW b) (loW b) (U64.lo _) (U64.lo _) w
  rw [wv_hilo, wv_hilo, wrap128_id (sub_I128 ha hb)] at hs
  have HS := Lib.hid hs
  have hc := fun w => r_cmp (hiW (a - b)) (loW (a - b)) 0 0 (I64_hi (sub_I128 ha hb)) (U64.lo _) (by unfold I64; omega) U64_0 w
  rw [wv_hilo, wv00] at hc
  have HQ := Lib.hid (r2_quotient a b ha hb h1)
  have HM := Lib.hid (r_mul (wrap64 (a.tdiv b)) b (I64_wrap64 _) hb)
  have h2 := fun w => r_sub (hiW a) (loW a) (hiW (wrap64 (a.tdiv b) * b)) (loW (wrap64 (a.tdiv b) * b)) (U64.lo _) (U64.lo _) w
  rw [wv_hilo, wv_hilo] at h2
  have H2 := Lib.hid h2
  have hl := fun w => r2_low (hiW (wrap128 (a - wrap64 (a.tdiv b) * b))) (loW (wrap128 (a - wrap64 (a.tdiv b) * b))) w
  rw [rem_low ha] at hl
  have HL := Lib.hid hl
  generalize cmpI (a - b) 0 = c at *
  have HC := Lib.hid hc
  clear hs hc ha hb h1 h2 hl
  go_enter Try.func37, Try.ntmps37
  go_wp2_with (first | (go_at_call 42; (with_reducible refine (HX.out _).mono ?_); rintro e w1 ⟨rfl, hb1⟩; obtain ⟨hc1, hf1⟩ := bcell hb1; have hz1 := hb1.size; (try simp at hz1); (try have hy1 := Nat.lt_of_succ_le hz1); (try have hv1 := Nat.lt_of_succ_lt hy1); (try have hw10 : w.heap.size < w1.heap.size := by omega); (try have hw11 : w.heap.size + 1 < w1.heap.size := by omega); (try have hw12 : w.heap.size + 1 + 1 < w1.heap.size := by omega); (try have hw13 : w.heap.size + 1 + 1 + 1 < w1.heap.size := by omega)) | (go_at_call 25; (with_reducible refine (HA.out _).mono ?_); rintro e w2 ⟨rfl, hb2⟩; obtain ⟨hc2, hf2⟩ := bcell hb2; have hz2 := hb2.size; (try simp at hz2); (try have hy2 := Nat.lt_of_succ_le hz2); (try have hv2 := Nat.lt_of_succ_lt hy2); (try have hw20 : w.heap.size < w2.heap.size := by omega); (try have hw21 : w.heap.size + 1 < w2.heap.size := by omega); (try have hw22 : w.heap.size + 1 + 1 < w2.heap.size := by omega); (try have hw23 : w.heap.size + 1 + 1 + 1 < w2.heap.size := by omega); (try have hx2_0 : w1.heap.size < w2.heap.size := by omega)) | (go_at_call 25; (with_reducible refine (HB.out _).mono ?_); rintro e w3 ⟨rfl, hb3⟩; obtain ⟨hc3, hf3⟩ := bcell hb3; have hz3 := hb3.size; (try simp at hz3); (try have hy3 := Nat.lt_of_succ_le hz3); (try have hv3 := Nat.lt_of_succ_lt hy3); (try have hw30 : w.heap.size < w3.heap.size := by omega); (try have hw31 : w.heap.size + 1 < w3.heap.size := by omega); (try have hw32 : w.heap.size + 1 + 1 < w3.heap.size := by omega); (try have hw33 : w.heap.size + 1 + 1 + 1 < w3.heap.size := by omega); (try have hx3_0 : w1.heap.size < w3.heap.size := by omega)) | (go_at_call 18; (with_reducible refine (HS.out _).mono ?_); rintro e w4 ⟨rfl, hb4⟩; obtain ⟨hc4, hf4⟩ := bcell hb4; have hz4 := hb4.size; (try simp at hz4); (try have hy4 := Nat.lt_of_succ_le hz4); (try have hv4 := Nat.lt_of_succ_lt hy4); (try have hw40 : w.heap.size < w4.heap.size := by omega); (try have hw41 : w.heap.size + 1 < w4.heap.size := by omega); (try have hw42 : w.heap.size + 1 + 1 < w4.heap.size := by omega); (try have hw43 : w.heap.size + 1 + 1 + 1 < w4.heap.size := by omega); (try have hx4_0 : w1.heap.size < w4.heap.size := by omega)) | (go_at_call 29; (with_reducible refine (HC.out _).mono ?_); rintro e w5 ⟨rfl, hb5⟩; obtain ⟨hc5, hf5⟩ := bcell hb5; have hz5 := hb5.size; (try simp at hz5); (try have hy5 := Nat.lt_of_succ_le hz5); (try have hv5 := Nat.lt_of_succ_lt hy5); (try have hw50 : w.heap.size < w5.heap.size := by omega); (try have hw51 : w.heap.size + 1 < w5.heap.size := by omega); (try have hw52 : w.heap.size + 1 + 1 < w5.heap.size := by omega); (try have hw53 : w.heap.size + 1 + 1 + 1 < w5.heap.size := by omega); (try have hx5_0 : w1.heap.size < w5.heap.size := by omega)) | (go_at_call 61; (with_reducible refine (HQ.out _).mono ?_); rintro e w6 ⟨rfl, hb6⟩; obtain ⟨hc6, hf6⟩ := bcell hb6; have hz6 := hb6.size; (try simp at hz6); (try have hy6 := Nat.lt_of_succ_le hz6); (try have hv6 := Nat.lt_of_succ_lt hy6); (try have hw60 : w.heap.size < w6.heap.size := by omega); (try have hw61 : w.heap.size + 1 < w6.heap.size := by omega); (try have hw62 : w.heap.size + 1 + 1 < w6.heap.size := by omega); (try have hw63 : w.heap.size + 1 + 1 + 1 < w6.heap.size := by omega)) | (go_at_call 23; (with_reducible refine (HM.out _).mono ?_); rintro e w7 ⟨rfl, hb7⟩; obtain ⟨hc7, hf7⟩ := bcell hb7; have hz7 := hb7.size; (try simp at hz7); (try have hy7 := Nat.lt_of_succ_le hz7); (try have hv7 := Nat.lt_of_succ_lt hy7); (try have hw70 : w.heap.size < w7.heap.size := by omega); (try have hw71 : w.heap.size + 1 < w7.heap.size := by omega); (try have hw72 : w.heap.size + 1 + 1 < w7.heap.size := by omega); (try have hw73 : w.heap.size + 1 + 1 + 1 < w7.heap.size := by omega)) | (go_at_call 18; (with_reducible refine (H2.out _).mono ?_); rintro e w8 ⟨rfl, hb8⟩; obtain ⟨hc8, hf8⟩ := bcell hb8; have hz8 := hb8.size; (try simp at hz8); (try have hy8 := Nat.lt_of_succ_le hz8); (try have hv8 := Nat.lt_of_succ_lt hy8); (try have hw80 : w.heap.size < w8.heap.size := by omega); (try have hw81 : w.heap.size + 1 < w8.heap.size := by omega); (try have hw82 : w.heap.size + 1 + 1 < w8.heap.size := by omega); (try have hw83 : w.heap.size + 1 + 1 + 1 < w8.heap.size := by omega)) | (go_at_call 60; (with_reducible refine (HL.out _).mono ?_); rintro e w9 ⟨rfl, hb9⟩; obtain ⟨hc9, hf9⟩ := bcell hb9; have hz9 := hb9.size; (try simp at hz9); (try have hy9 := Nat.lt_of_succ_le hz9); (try have hv9 := Nat.lt_of_succ_lt hy9); (try have hw90 : w.heap.size < w9.heap.size := by omega); (try have hw91 : w.heap.size + 1 < w9.heap.size := by omega); (try have hw92 : w.heap.size + 1 + 1 < w9.heap.size := by omega); (try have hw93 : w.heap.size + 1 + 1 + 1 < w9.heap.size := by omega)))
  go_ret2
  exact ⟨rfl, (by repeat (first | (with_reducible assumption) | (with_reducible exact Below.refl _ _) | (with_reducible refine Below.alloc ?_ (by first | omega | (simp; omega) | (simp; done) | (dsimp only; omega)) _) | (with_reducible refine Below.setCell ?_ (by first | omega | (simp; omega) | (simp; done) | (dsimp only; omega)) _) | (with_reducible refine Below.drew ?_) | (with_reducible refine Below.trans ?_ (Below.mono (by assumption) (by first | omega | (simp; omega) | (simp; done) | (dsimp only; omega))))))⟩

set_option maxHeartbeats 2000000 in
theorem r2_do_12_lt (a b : Int) (ha : I64 a) (hb : I64 b) (h : a < b) (w : World) :
    Calls Try.prog 37 #[.int .i64 12, .int .i64 a, .int .i64 b] w fun e w' =>
      e = .returned (.tuple #[.int .i64 1, .int .i64 0]) ∧ Below w.heap.size w w' := by
  have HX := Lib.hid (r2_exact_no 12 a b (by omega) (by omega) (by omega))
  have HA := Lib.hid (r_of a ha)
  have HB := Lib.hid (r_of b hb)
  have hs := fun w => r_sub (hiW a) (loW a) (hiW b) (loW b) (U64.lo _) (U64.lo _) w
  rw [wv_hilo, wv_hilo, wrap128_id (sub_I128 ha hb)] at hs
  have HS := Lib.hid hs
  have hc := fun w => r_cmp (hiW (a - b)) (loW (a - b)) 0 0 (I64_hi (sub_I128 ha hb)) (U64.lo _) (by unfold I64; omega) U64_0 w
  rw [wv_hilo, wv00] at hc
  rw [cmp_lt (show a - b < 0 by omega)] at hc
  have HC := Lib.hid hc
  clear hs hc ha hb h
  go_enter Try.func37, Try.ntmps37
  go_wp2_with (first | (go_at_call 42; (with_reducible refine (HX.out _).mono ?_); rintro e w1 ⟨rfl, hb1⟩; obtain ⟨hc1, hf1⟩ := bcell hb1; have hz1 := hb1.size; (try simp at hz1); (try have hy1 := Nat.lt_of_succ_le hz1); (try have hv1 := Nat.lt_of_succ_lt hy1); (try have hw10 : w.heap.size < w1.heap.size := by omega); (try have hw11 : w.heap.size + 1 < w1.heap.size := by omega); (try have hw12 : w.heap.size + 1 + 1 < w1.heap.size := by omega); (try have hw13 : w.heap.size + 1 + 1 + 1 < w1.heap.size := by omega)) | (go_at_call 25; (with_reducible refine (HA.out _).mono ?_); rintro e w2 ⟨rfl, hb2⟩; obtain ⟨hc2, hf2⟩ := bcell hb2; have hz2 := hb2.size; (try simp at hz2); (try have hy2 := Nat.lt_of_succ_le hz2); (try have hv2 := Nat.lt_of_succ_lt hy2); (try have hw20 : w.heap.size < w2.heap.size := by omega); (try have hw21 : w.heap.size + 1 < w2.heap.size := by omega); (try have hw22 : w.heap.size + 1 + 1 < w2.heap.size := by omega); (try have hw23 : w.heap.size + 1 + 1 + 1 < w2.heap.size := by omega); (try have hx2_0 : w1.heap.size < w2.heap.size := by omega)) | (go_at_call 25; (with_reducible refine (HB.out _).mono ?_); rintro e w3 ⟨rfl, hb3⟩; obtain ⟨hc3, hf3⟩ := bcell hb3; have hz3 := hb3.size; (try simp at hz3); (try have hy3 := Nat.lt_of_succ_le hz3); (try have hv3 := Nat.lt_of_succ_lt hy3); (try have hw30 : w.heap.size < w3.heap.size := by omega); (try have hw31 : w.heap.size + 1 < w3.heap.size := by omega); (try have hw32 : w.heap.size + 1 + 1 < w3.heap.size := by omega); (try have hw33 : w.heap.size + 1 + 1 + 1 < w3.heap.size := by omega); (try have hx3_0 : w1.heap.size < w3.heap.size := by omega)) | (go_at_call 18; (with_reducible refine (HS.out _).mono ?_); rintro e w4 ⟨rfl, hb4⟩; obtain ⟨hc4, hf4⟩ := bcell hb4; have hz4 := hb4.size; (try simp at hz4); (try have hy4 := Nat.lt_of_succ_le hz4); (try have hv4 := Nat.lt_of_succ_lt hy4); (try have hw40 : w.heap.size < w4.heap.size := by omega); (try have hw41 : w.heap.size + 1 < w4.heap.size := by omega); (try have hw42 : w.heap.size + 1 + 1 < w4.heap.size := by omega); (try have hw43 : w.heap.size + 1 + 1 + 1 < w4.heap.size := by omega); (try have hx4_0 : w1.heap.size < w4.heap.size := by omega)) | (go_at_call 29; (with_reducible refine (HC.out _).mono ?_); rintro e w5 ⟨rfl, hb5⟩; obtain ⟨hc5, hf5⟩ := bcell hb5; have hz5 := hb5.size; (try simp at hz5); (try have hy5 := Nat.lt_of_succ_le hz5); (try have hv5 := Nat.lt_of_succ_lt hy5); (try have hw50 : w.heap.size < w5.heap.size := by omega); (try have hw51 : w.heap.size + 1 < w5.heap.size := by omega); (try have hw52 : w.heap.size + 1 + 1 < w5.heap.size := by omega); (try have hw53 : w.heap.size + 1 + 1 + 1 < w5.heap.size := by omega); (try have hx5_0 : w1.heap.size < w5.heap.size := by omega)) | (go_at_call 62; refine (r2_one _ _).mono ?_; rintro e w6 ⟨rfl, rfl⟩))
  go_ret2
  exact ⟨rfl, (by repeat (first | (with_reducible assumption) | (with_reducible exact Below.refl _ _) | (with_reducible refine Below.alloc ?_ (by first | omega | (simp; omega) | (simp; done) | (dsimp only; omega)) _) | (with_reducible refine Below.setCell ?_ (by first | omega | (simp; omega) | (simp; done) | (dsimp only; omega)) _) | (with_reducible refine Below.drew ?_) | (with_reducible refine Below.trans ?_ (Below.mono (by assumption) (by first | omega | (simp; omega) | (simp; done) | (dsimp only; omega))))))⟩

set_option maxHeartbeats 2000000 in
theorem r2_do_12_eq (a b : Int) (ha : I64 a) (hb : I64 b) (h : a = b) (w : World) :
    Calls Try.prog 37 #[.int .i64 12, .int .i64 a, .int .i64 b] w fun e w' =>
      e = .returned (.tuple #[.int .i64 0, .int .i64 0]) ∧ Below w.heap.size w w' := by
  have HX := Lib.hid (r2_exact_no 12 a b (by omega) (by omega) (by omega))
  have HA := Lib.hid (r_of a ha)
  have HB := Lib.hid (r_of b hb)
  have hs := fun w => r_sub (hiW a) (loW a) (hiW b) (loW b) (U64.lo _) (U64.lo _) w
  rw [wv_hilo, wv_hilo, wrap128_id (sub_I128 ha hb)] at hs
  have HS := Lib.hid hs
  have hc := fun w => r_cmp (hiW (a - b)) (loW (a - b)) 0 0 (I64_hi (sub_I128 ha hb)) (U64.lo _) (by unfold I64; omega) U64_0 w
  rw [wv_hilo, wv00] at hc
  rw [show cmpI (a - b) 0 = 0 by rw [h, Int.sub_self]; rfl] at hc
  have HC := Lib.hid hc
  clear hs hc ha hb h
  go_enter Try.func37, Try.ntmps37
  go_wp2_with (first | (go_at_call 42; (with_reducible refine (HX.out _).mono ?_); rintro e w1 ⟨rfl, hb1⟩; obtain ⟨hc1, hf1⟩ := bcell hb1; have hz1 := hb1.size; (try simp at hz1); (try have hy1 := Nat.lt_of_succ_le hz1); (try have hv1 := Nat.lt_of_succ_lt hy1); (try have hw10 : w.heap.size < w1.heap.size := by omega); (try have hw11 : w.heap.size + 1 < w1.heap.size := by omega); (try have hw12 : w.heap.size + 1 + 1 < w1.heap.size := by omega); (try have hw13 : w.heap.size + 1 + 1 + 1 < w1.heap.size := by omega)) | (go_at_call 25; (with_reducible refine (HA.out _).mono ?_); rintro e w2 ⟨rfl, hb2⟩; obtain ⟨hc2, hf2⟩ := bcell hb2; have hz2 := hb2.size; (try simp at hz2); (try have hy2 := Nat.lt_of_succ_le hz2); (try have hv2 := Nat.lt_of_succ_lt hy2); (try have hw20 : w.heap.size < w2.heap.size := by omega); (try have hw21 : w.heap.size + 1 < w2.heap.size := by omega); (try have hw22 : w.heap.size + 1 + 1 < w2.heap.size := by omega); (try have hw23 : w.heap.size + 1 + 1 + 1 < w2.heap.size := by omega); (try have hx2_0 : w1.heap.size < w2.heap.size := by omega)) | (go_at_call 25; (with_reducible refine (HB.out _).mono ?_); rintro e w3 ⟨rfl, hb3⟩; obtain ⟨hc3, hf3⟩ := bcell hb3; have hz3 := hb3.size; (try simp at hz3); (try have hy3 := Nat.lt_of_succ_le hz3); (try have hv3 := Nat.lt_of_succ_lt hy3); (try have hw30 : w.heap.size < w3.heap.size := by omega); (try have hw31 : w.heap.size + 1 < w3.heap.size := by omega); (try have hw32 : w.heap.size + 1 + 1 < w3.heap.size := by omega); (try have hw33 : w.heap.size + 1 + 1 + 1 < w3.heap.size := by omega); (try have hx3_0 : w1.heap.size < w3.heap.size := by omega)) | (go_at_call 18; (with_reducible refine (HS.out _).mono ?_); rintro e w4 ⟨rfl, hb4⟩; obtain ⟨hc4, hf4⟩ := bcell hb4; have hz4 := hb4.size; (try simp at hz4); (try have hy4 := Nat.lt_of_succ_le hz4); (try have hv4 := Nat.lt_of_succ_lt hy4); (try have hw40 : w.heap.size < w4.heap.size := by omega); (try have hw41 : w.heap.size + 1 < w4.heap.size := by omega); (try have hw42 : w.heap.size + 1 + 1 < w4.heap.size := by omega); (try have hw43 : w.heap.size + 1 + 1 + 1 < w4.heap.size := by omega); (try have hx4_0 : w1.heap.size < w4.heap.size := by omega)) | (go_at_call 29; (with_reducible refine (HC.out _).mono ?_); rintro e w5 ⟨rfl, hb5⟩; obtain ⟨hc5, hf5⟩ := bcell hb5; have hz5 := hb5.size; (try simp at hz5); (try have hy5 := Nat.lt_of_succ_le hz5); (try have hv5 := Nat.lt_of_succ_lt hy5); (try have hw50 : w.heap.size < w5.heap.size := by omega); (try have hw51 : w.heap.size + 1 < w5.heap.size := by omega); (try have hw52 : w.heap.size + 1 + 1 < w5.heap.size := by omega); (try have hw53 : w.heap.size + 1 + 1 + 1 < w5.heap.size := by omega); (try have hx5_0 : w1.heap.size < w5.heap.size := by omega)) | (go_at_call 62; refine (r2_one _ _).mono ?_; rintro e w6 ⟨rfl, rfl⟩))
  go_ret2
  exact ⟨rfl, (by repeat (first | (with_reducible assumption) | (with_reducible exact Below.refl _ _) | (with_reducible refine Below.alloc ?_ (by first | omega | (simp; omega) | (simp; done) | (dsimp only; omega)) _) | (with_reducible refine Below.setCell ?_ (by first | omega | (simp; omega) | (simp; done) | (dsimp only; omega)) _) | (with_reducible refine Below.drew ?_) | (with_reducible refine Below.trans ?_ (Below.mono (by assumption) (by first | omega | (simp; omega) | (simp; done) | (dsimp only; omega))))))⟩

set_option maxHeartbeats 2000000 in
theorem r2_do_12_gt (a b : Int) (ha : I64 a) (hb : I64 b) (h : b < a) (w : World) :
    Calls Try.prog 37 #[.int .i64 12, .int .i64 a, .int .i64 b] w fun e w' =>
      e = .returned (.tuple #[.int .i64 0, .int .i64 0]) ∧ Below w.heap.size w w' := by
  have HX := Lib.hid (r2_exact_no 12 a b (by omega) (by omega) (by omega))
  have HA := Lib.hid (r_of a ha)
  have HB := Lib.hid (r_of b hb)
  have hs := fun w => r_sub (hiW a) (loW a) (hiW b) (loW b) (U64.lo _) (U64.lo _) w
  rw [wv_hilo, wv_hilo, wrap128_id (sub_I128 ha hb)] at hs
  have HS := Lib.hid hs
  have hc := fun w => r_cmp (hiW (a - b)) (loW (a - b)) 0 0 (I64_hi (sub_I128 ha hb)) (U64.lo _) (by unfold I64; omega) U64_0 w
  rw [wv_hilo, wv00] at hc
  rw [cmp_gt (show 0 < a - b by omega)] at hc
  have HC := Lib.hid hc
  clear hs hc ha hb h
  go_enter Try.func37, Try.ntmps37
  go_wp2_with (first | (go_at_call 42; (with_reducible refine (HX.out _).mono ?_); rintro e w1 ⟨rfl, hb1⟩; obtain ⟨hc1, hf1⟩ := bcell hb1; have hz1 := hb1.size; (try simp at hz1); (try have hy1 := Nat.lt_of_succ_le hz1); (try have hv1 := Nat.lt_of_succ_lt hy1); (try have hw10 : w.heap.size < w1.heap.size := by omega); (try have hw11 : w.heap.size + 1 < w1.heap.size := by omega); (try have hw12 : w.heap.size + 1 + 1 < w1.heap.size := by omega); (try have hw13 : w.heap.size + 1 + 1 + 1 < w1.heap.size := by omega)) | (go_at_call 25; (with_reducible refine (HA.out _).mono ?_); rintro e w2 ⟨rfl, hb2⟩; obtain ⟨hc2, hf2⟩ := bcell hb2; have hz2 := hb2.size; (try simp at hz2); (try have hy2 := Nat.lt_of_succ_le hz2); (try have hv2 := Nat.lt_of_succ_lt hy2); (try have hw20 : w.heap.size < w2.heap.size := by omega); (try have hw21 : w.heap.size + 1 < w2.heap.size := by omega); (try have hw22 : w.heap.size + 1 + 1 < w2.heap.size := by omega); (try have hw23 : w.heap.size + 1 + 1 + 1 < w2.heap.size := by omega); (try have hx2_0 : w1.heap.size < w2.heap.size := by omega)) | (go_at_call 25; (with_reducible refine (HB.out _).mono ?_); rintro e w3 ⟨rfl, hb3⟩; obtain ⟨hc3, hf3⟩ := bcell hb3; have hz3 := hb3.size; (try simp at hz3); (try have hy3 := Nat.lt_of_succ_le hz3); (try have hv3 := Nat.lt_of_succ_lt hy3); (try have hw30 : w.heap.size < w3.heap.size := by omega); (try have hw31 : w.heap.size + 1 < w3.heap.size := by omega); (try have hw32 : w.heap.size + 1 + 1 < w3.heap.size := by omega); (try have hw33 : w.heap.size + 1 + 1 + 1 < w3.heap.size := by omega); (try have hx3_0 : w1.heap.size < w3.heap.size := by omega)) | (go_at_call 18; (with_reducible refine (HS.out _).mono ?_); rintro e w4 ⟨rfl, hb4⟩; obtain ⟨hc4, hf4⟩ := bcell hb4; have hz4 := hb4.size; (try simp at hz4); (try have hy4 := Nat.lt_of_succ_le hz4); (try have hv4 := Nat.lt_of_succ_lt hy4); (try have hw40 : w.heap.size < w4.heap.size := by omega); (try have hw41 : w.heap.size + 1 < w4.heap.size := by omega); (try have hw42 : w.heap.size + 1 + 1 < w4.heap.size := by omega); (try have hw43 : w.heap.size + 1 + 1 + 1 < w4.heap.size := by omega); (try have hx4_0 : w1.heap.size < w4.heap.size := by omega)) | (go_at_call 29; (with_reducible refine (HC.out _).mono ?_); rintro e w5 ⟨rfl, hb5⟩; obtain ⟨hc5, hf5⟩ := bcell hb5; have hz5 := hb5.size; (try simp at hz5); (try have hy5 := Nat.lt_of_succ_le hz5); (try have hv5 := Nat.lt_of_succ_lt hy5); (try have hw50 : w.heap.size < w5.heap.size := by omega); (try have hw51 : w.heap.size + 1 < w5.heap.size := by omega); (try have hw52 : w.heap.size + 1 + 1 < w5.heap.size := by omega); (try have hw53 : w.heap.size + 1 + 1 + 1 < w5.heap.size := by omega); (try have hx5_0 : w1.heap.size < w5.heap.size := by omega)) | (go_at_call 62; refine (r2_one _ _).mono ?_; rintro e w6 ⟨rfl, rfl⟩))
  go_ret2
  exact ⟨rfl, (by repeat (first | (with_reducible assumption) | (with_reducible exact Below.refl _ _) | (with_reducible refine Below.alloc ?_ (by first | omega | (simp; omega) | (simp; done) | (dsimp only; omega)) _) | (with_reducible refine Below.setCell ?_ (by first | omega | (simp; omega) | (simp; done) | (dsimp only; omega)) _) | (with_reducible refine Below.drew ?_) | (with_reducible refine Below.trans ?_ (Below.mono (by assumption) (by first | omega | (simp; omega) | (simp; done) | (dsimp only; omega))))))⟩

set_option maxHeartbeats 2000000 in
theorem r2_do_13_lt (a b : Int) (ha : I64 a) (hb : I64 b) (h : a < b) (w : World) :
    Calls Try.prog 37 #[.int .i64 13, .int .i64 a, .int .i64 b] w fun e w' =>
      e = .returned (.tuple #[.int .i64 1, .int .i64 0]) ∧ Below w.heap.size w w' := by
  have HX := Lib.hid (r2_exact_no 13 a b (by omega) (by omega) (by omega))
  have HA := Lib.hid (r_of a ha)
  have HB := Lib.hid (r_of b hb)
  have hs := fun w => r_sub (hiW a) (loW a) (hiW b) (loW b) (U64.lo _) (U64.lo _) w
  rw [wv_hilo, wv_hilo, wrap128_id (sub_I128 ha hb)] at hs
  have HS := Lib.hid hs
  have hc := fun w => r_cmp (hiW (a - b)) (loW (a - b)) 0 0 (I64_hi (sub_I128 ha hb)) (U64.lo _) (by unfold I64; omega) U64_0 w
  rw [wv_hilo, wv00] at hc
  rw [cmp_lt (show a - b < 0 by omega)] at hc
  have HC := Lib.hid hc
  clear hs hc ha hb h
  go_enter Try.func37, Try.ntmps37
  go_wp2_with (first | (go_at_call 42; (with_reducible refine (HX.out _).mono ?_); rintro e w1 ⟨rfl, hb1⟩; obtain ⟨hc1, hf1⟩ := bcell hb1; have hz1 := hb1.size; (try simp at hz1); (try have hy1 := Nat.lt_of_succ_le hz1); (try have hv1 := Nat.lt_of_succ_lt hy1); (try have hw10 : w.heap.size < w1.heap.size := by omega); (try have hw11 : w.heap.size + 1 < w1.heap.size := by omega); (try have hw12 : w.heap.size + 1 + 1 < w1.heap.size := by omega); (try have hw13 : w.heap.size + 1 + 1 + 1 < w1.heap.size := by omega)) | (go_at_call 25; (with_reducible refine (HA.out _).mono ?_); rintro e w2 ⟨rfl, hb2⟩; obtain ⟨hc2, hf2⟩ := bcell hb2; have hz2 := hb2.size; (try simp at hz2); (try have hy2 := Nat.lt_of_succ_le hz2); (try have hv2 := Nat.lt_of_succ_lt hy2); (try have hw20 : w.heap.size < w2.heap.size := by omega); (try have hw21 : w.heap.size + 1 < w2.heap.size := by omega); (try have hw22 : w.heap.size + 1 + 1 < w2.heap.size := by omega); (try have hw23 : w.heap.size + 1 + 1 + 1 < w2.heap.size := by omega); (try have hx2_0 : w1.heap.size < w2.heap.size := by omega)) | (go_at_call 25; (with_reducible refine (HB.out _).mono ?_); rintro e w3 ⟨rfl, hb3⟩; obtain ⟨hc3, hf3⟩ := bcell hb3; have hz3 := hb3.size; (try simp at hz3); (try have hy3 := Nat.lt_of_succ_le hz3); (try have hv3 := Nat.lt_of_succ_lt hy3); (try have hw30 : w.heap.size < w3.heap.size := by omega); (try have hw31 : w.heap.size + 1 < w3.heap.size := by omega); (try have hw32 : w.heap.size + 1 + 1 < w3.heap.size := by omega); (try have hw33 : w.heap.size + 1 + 1 + 1 < w3.heap.size := by omega); (try have hx3_0 : w1.heap.size < w3.heap.size := by omega)) | (go_at_call 18; (with_reducible refine (HS.out _).mono ?_); rintro e w4 ⟨rfl, hb4⟩; obtain ⟨hc4, hf4⟩ := bcell hb4; have hz4 := hb4.size; (try simp at hz4); (try have hy4 := Nat.lt_of_succ_le hz4); (try have hv4 := Nat.lt_of_succ_lt hy4); (try have hw40 : w.heap.size < w4.heap.size := by omega); (try have hw41 : w.heap.size + 1 < w4.heap.size := by omega); (try have hw42 : w.heap.size + 1 + 1 < w4.heap.size := by omega); (try have hw43 : w.heap.size + 1 + 1 + 1 < w4.heap.size := by omega); (try have hx4_0 : w1.heap.size < w4.heap.size := by omega)) | (go_at_call 29; (with_reducible refine (HC.out _).mono ?_); rintro e w5 ⟨rfl, hb5⟩; obtain ⟨hc5, hf5⟩ := bcell hb5; have hz5 := hb5.size; (try simp at hz5); (try have hy5 := Nat.lt_of_succ_le hz5); (try have hv5 := Nat.lt_of_succ_lt hy5); (try have hw50 : w.heap.size < w5.heap.size := by omega); (try have hw51 : w.heap.size + 1 < w5.heap.size := by omega); (try have hw52 : w.heap.size + 1 + 1 < w5.heap.size := by omega); (try have hw53 : w.heap.size + 1 + 1 + 1 < w5.heap.size := by omega); (try have hx5_0 : w1.heap.size < w5.heap.size := by omega)) | (go_at_call 62; refine (r2_one _ _).mono ?_; rintro e w6 ⟨rfl, rfl⟩))
  go_ret2
  exact ⟨rfl, (by repeat (first | (with_reducible assumption) | (with_reducible exact Below.refl _ _) | (with_reducible refine Below.alloc ?_ (by first | omega | (simp; omega) | (simp; done) | (dsimp only; omega)) _) | (with_reducible refine Below.setCell ?_ (by first | omega | (simp; omega) | (simp; done) | (dsimp only; omega)) _) | (with_reducible refine Below.drew ?_) | (with_reducible refine Below.trans ?_ (Below.mono (by assumption) (by first | omega | (simp; omega) | (simp; done) | (dsimp only; omega))))))⟩

set_option maxHeartbeats 2000000 in
theorem r2_do_13_eq (a b : Int) (ha : I64 a) (hb : I64 b) (h : a = b) (w : World) :
    Calls Try.prog 37 #[.int .i64 13, .int .i64 a, .int .i64 b] w fun e w' =>
      e = .returned (.tuple #[.int .i64 1, .int .i64 0]) ∧ Below w.heap.size w w' := by
  have HX := Lib.hid (r2_exact_no 13 a b (by omega) (by omega) (by omega))
  have HA := Lib.hid (r_of a ha)
  have HB := Lib.hid (r_of b hb)
  have hs := fun w => r_sub (hiW a) (loW a) (hiW b) (loW b) (U64.lo _) (U64.lo _) w
  rw [wv_hilo, wv_hilo, wrap128_id (sub_I128 ha hb)] at hs
  have HS := Lib.hid hs
  have hc := fun w => r_cmp (hiW (a - b)) (loW (a - b)) 0 0 (I64_hi (sub_I128 ha hb)) (U64.lo _) (by unfold I64; omega) U64_0 w
  rw [wv_hilo, wv00] at hc
  rw [show cmpI (a - b) 0 = 0 by rw [h, Int.sub_self]; rfl] at hc
  have HC := Lib.hid hc
  clear hs hc ha hb h
  go_enter Try.func37, Try.ntmps37
  go_wp2_with (first | (go_at_call 42; (with_reducible refine (HX.out _).mono ?_); rintro e w1 ⟨rfl, hb1⟩; obtain ⟨hc1, hf1⟩ := bcell hb1; have hz1 := hb1.size; (try simp at hz1); (try have hy1 := Nat.lt_of_succ_le hz1); (try have hv1 := Nat.lt_of_succ_lt hy1); (try have hw10 : w.heap.size < w1.heap.size := by omega); (try have hw11 : w.heap.size + 1 < w1.heap.size := by omega); (try have hw12 : w.heap.size + 1 + 1 < w1.heap.size := by omega); (try have hw13 : w.heap.size + 1 + 1 + 1 < w1.heap.size := by omega)) | (go_at_call 25; (with_reducible refine (HA.out _).mono ?_); rintro e w2 ⟨rfl, hb2⟩; obtain ⟨hc2, hf2⟩ := bcell hb2; have hz2 := hb2.size; (try simp at hz2); (try have hy2 := Nat.lt_of_succ_le hz2); (try have hv2 := Nat.lt_of_succ_lt hy2); (try have hw20 : w.heap.size < w2.heap.size := by omega); (try have hw21 : w.heap.size + 1 < w2.heap.size := by omega); (try have hw22 : w.heap.size + 1 + 1 < w2.heap.size := by omega); (try have hw23 : w.heap.size + 1 + 1 + 1 < w2.heap.size := by omega); (try have hx2_0 : w1.heap.size < w2.heap.size := by omega)) | (go_at_call 25; (with_reducible refine (HB.out _).mono ?_); rintro e w3 ⟨rfl, hb3⟩; obtain ⟨hc3, hf3⟩ := bcell hb3; have hz3 := hb3.size; (try simp at hz3); (try have hy3 := Nat.lt_of_succ_le hz3); (try have hv3 := Nat.lt_of_succ_lt hy3); (try have hw30 : w.heap.size < w3.heap.size := by omega); (try have hw31 : w.heap.size + 1 < w3.heap.size := by omega); (try have hw32 : w.heap.size + 1 + 1 < w3.heap.size := by omega); (try have hw33 : w.heap.size + 1 + 1 + 1 < w3.heap.size := by omega); (try have hx3_0 : w1.heap.size < w3.heap.size := by omega)) | (go_at_call 18; (with_reducible refine (HS.out _).mono ?_); rintro e w4 ⟨rfl, hb4⟩; obtain ⟨hc4, hf4⟩ := bcell hb4; have hz4 := hb4.size; (try simp at hz4); (try have hy4 := Nat.lt_of_succ_le hz4); (try have hv4 := Nat.lt_of_succ_lt hy4); (try have hw40 : w.heap.size < w4.heap.size := by omega); (try have hw41 : w.heap.size + 1 < w4.heap.size := by omega); (try have hw42 : w.heap.size + 1 + 1 < w4.heap.size := by omega); (try have hw43 : w.heap.size + 1 + 1 + 1 < w4.heap.size := by omega); (try have hx4_0 : w1.heap.size < w4.heap.size := by omega)) | (go_at_call 29; (with_reducible refine (HC.out _).mono ?_); rintro e w5 ⟨rfl, hb5⟩; obtain ⟨hc5, hf5⟩ := bcell hb5; have hz5 := hb5.size; (try simp at hz5); (try have hy5 := Nat.lt_of_succ_le hz5); (try have hv5 := Nat.lt_of_succ_lt hy5); (try have hw50 : w.heap.size < w5.heap.size := by omega); (try have hw51 : w.heap.size + 1 < w5.heap.size := by omega); (try have hw52 : w.heap.size + 1 + 1 < w5.heap.size := by omega); (try have hw53 : w.heap.size + 1 + 1 + 1 < w5.heap.size := by omega); (try have hx5_0 : w1.heap.size < w5.heap.size := by omega)) | (go_at_call 62; refine (r2_one _ _).mono ?_; rintro e w6 ⟨rfl, rfl⟩))
  go_ret2
  exact ⟨rfl, (by repeat (first | (with_reducible assumption) | (with_reducible exact Below.refl _ _) | (with_reducible refine Below.alloc ?_ (by first | omega | (simp; omega) | (simp; done) | (dsimp only; omega)) _) | (with_reducible refine Below.setCell ?_ (by first | omega | (simp; omega) | (simp; done) | (dsimp only; omega)) _) | (with_reducible refine Below.drew ?_) | (with_reducible refine Below.trans ?_ (Below.mono (by assumption) (by first | omega | (simp; omega) | (simp; done) | (dsimp only; omega))))))⟩

set_option maxHeartbeats 2000000 in
theorem r2_do_13_gt (a b : Int) (ha : I64 a) (hb : I64 b) (h : b < a) (w : World) :
    Calls Try.prog 37 #[.int .i64 13, .int .i64 a, .int .i64 b] w fun e w' =>
      e = .returned (.tuple #[.int .i64 0, .int .i64 0]) ∧ Below w.heap.size w w' := by
  have HX := Lib.hid (r2_exact_no 13 a b (by omega) (by omega) (by omega))
  have HA := Lib.hid (r_of a ha)
  have HB := Lib.hid (r_of b hb)
  have hs := fun w => r_sub (hiW a) (loW a) (hiW b) (loW b) (U64.lo _) (U64.lo _) w
  rw [wv_hilo, wv_hilo, wrap128_id (sub_I128 ha hb)] at hs
  have HS := Lib.hid hs
  have hc := fun w => r_cmp (hiW (a - b)) (loW (a - b)) 0 0 (I64_hi (sub_I128 ha hb)) (U64.lo _) (by unfold I64; omega) U64_0 w
  rw [wv_hilo, wv00] at hc
  rw [cmp_gt (show 0 < a - b by omega)] at hc
  have HC := Lib.hid hc
  clear hs hc ha hb h
  go_enter Try.func37, Try.ntmps37
  go_wp2_with (first | (go_at_call 42; (with_reducible refine (HX.out _).mono ?_); rintro e w1 ⟨rfl, hb1⟩; obtain ⟨hc1, hf1⟩ := bcell hb1; have hz1 := hb1.size; (try simp at hz1); (try have hy1 := Nat.lt_of_succ_le hz1); (try have hv1 := Nat.lt_of_succ_lt hy1); (try have hw10 : w.heap.size < w1.heap.size := by omega); (try have hw11 : w.heap.size + 1 < w1.heap.size := by omega); (try have hw12 : w.heap.size + 1 + 1 < w1.heap.size := by omega); (try have hw13 : w.heap.size + 1 + 1 + 1 < w1.heap.size := by omega)) | (go_at_call 25; (with_reducible refine (HA.out _).mono ?_); rintro e w2 ⟨rfl, hb2⟩; obtain ⟨hc2, hf2⟩ := bcell hb2; have hz2 := hb2.size; (try simp at hz2); (try have hy2 := Nat.lt_of_succ_le hz2); (try have hv2 := Nat.lt_of_succ_lt hy2); (try have hw20 : w.heap.size < w2.heap.size := by omega); (try have hw21 : w.heap.size + 1 < w2.heap.size := by omega); (try have hw22 : w.heap.size + 1 + 1 < w2.heap.size := by omega); (try have hw23 : w.heap.size + 1 + 1 + 1 < w2.heap.size := by omega); (try have hx2_0 : w1.heap.size < w2.heap.size := by omega)) | (go_at_call 25; (with_reducible refine (HB.out _).mono ?_); rintro e w3 ⟨rfl, hb3⟩; obtain ⟨hc3, hf3⟩ := bcell hb3; have hz3 := hb3.size; (try simp at hz3); (try have hy3 := Nat.lt_of_succ_le hz3); (try have hv3 := Nat.lt_of_succ_lt hy3); (try have hw30 : w.heap.size < w3.heap.size := by omega); (try have hw31 : w.heap.size + 1 < w3.heap.size := by omega); (try have hw32 : w.heap.size + 1 + 1 < w3.heap.size := by omega); (try have hw33 : w.heap.size + 1 + 1 + 1 < w3.heap.size := by omega); (try have hx3_0 : w1.heap.size < w3.heap.size := by omega)) | (go_at_call 18; (with_reducible refine (HS.out _).mono ?_); rintro e w4 ⟨rfl, hb4⟩; obtain ⟨hc4, hf4⟩ := bcell hb4; have hz4 := hb4.size; (try simp at hz4); (try have hy4 := Nat.lt_of_succ_le hz4); (try have hv4 := Nat.lt_of_succ_lt hy4); (try have hw40 : w.heap.size < w4.heap.size := by omega); (try have hw41 : w.heap.size + 1 < w4.heap.size := by omega); (try have hw42 : w.heap.size + 1 + 1 < w4.heap.size := by omega); (try have hw43 : w.heap.size + 1 + 1 + 1 < w4.heap.size := by omega); (try have hx4_0 : w1.heap.size < w4.heap.size := by omega)) | (go_at_call 29; (with_reducible refine (HC.out _).mono ?_); rintro e w5 ⟨rfl, hb5⟩; obtain ⟨hc5, hf5⟩ := bcell hb5; have hz5 := hb5.size; (try simp at hz5); (try have hy5 := Nat.lt_of_succ_le hz5); (try have hv5 := Nat.lt_of_succ_lt hy5); (try have hw50 : w.heap.size < w5.heap.size := by omega); (try have hw51 : w.heap.size + 1 < w5.heap.size := by omega); (try have hw52 : w.heap.size + 1 + 1 < w5.heap.size := by omega); (try have hw53 : w.heap.size + 1 + 1 + 1 < w5.heap.size := by omega); (try have hx5_0 : w1.heap.size < w5.heap.size := by omega)) | (go_at_call 62; refine (r2_one _ _).mono ?_; rintro e w6 ⟨rfl, rfl⟩))
  go_ret2
  exact ⟨rfl, (by repeat (first | (with_reducible assumption) | (with_reducible exact Below.refl _ _) | (with_reducible refine Below.alloc ?_ (by first | omega | (simp; omega) | (simp; done) | (dsimp only; omega)) _) | (with_reducible refine Below.setCell ?_ (by first | omega | (simp; omega) | (simp; done) | (dsimp only; omega)) _) | (with_reducible refine Below.drew ?_) | (with_reducible refine Below.trans ?_ (Below.mono (by assumption) (by first | omega | (simp; omega) | (simp; done) | (dsimp only; omega))))))⟩

set_option maxHeartbeats 2000000 in
theorem r2_do_14_lt (a b : Int) (ha : I64 a) (hb : I64 b) (h : a < b) (w : World) :
    Calls Try.prog 37 #[.int .i64 14, .int .i64 a, .int .i64 b] w fun e w' =>
      e = .returned (.tuple #[.int .i64 0, .int .i64 0]) ∧ Below w.heap.size w w' := by
  have HX := Lib.hid (r2_exact_no 14 a b (by omega) (by omega) (by omega))
  have HA := Lib.hid (r_of a ha)
  have HB := Lib.hid (r_of b hb)
  have hs := fun w => r_sub (hiW a) (loW a) (hiW b) (loW b) (U64.lo _) (U64.lo _) w
  rw [wv_hilo, wv_hilo, wrap128_id (sub_I128 ha hb)] at hs
  have HS := Lib.hid hs
  have hc := fun w => r_cmp (hiW (a - b)) (loW (a - b)) 0 0 (I64_hi (sub_I128 ha hb)) (U64.lo _) (by unfold I64; omega) U64_0 w
  rw [wv_hilo, wv00] at hc
  rw [cmp_lt (show a - b < 0 by omega)] at hc
  have HC := Lib.hid hc
  clear hs hc ha hb h
  go_enter Try.func37, Try.ntmps37
  go_wp2_with (first | (go_at_call 42; (with_reducible refine (HX.out _).mono ?_); rintro e w1 ⟨rfl, hb1⟩; obtain ⟨hc1, hf1⟩ := bcell hb1; have hz1 := hb1.size; (try simp at hz1); (try have hy1 := Nat.lt_of_succ_le hz1); (try have hv1 := Nat.lt_of_succ_lt hy1); (try have hw10 : w.heap.size < w1.heap.size := by omega); (try have hw11 : w.heap.size + 1 < w1.heap.size := by omega); (try have hw12 : w.heap.size + 1 + 1 < w1.heap.size := by omega); (try have hw13 : w.heap.size + 1 + 1 + 1 < w1.heap.size := by omega)) | (go_at_call 25; (with_reducible refine (HA.out _).mono ?_); rintro e w2 ⟨rfl, hb2⟩; obtain ⟨hc2, hf2⟩ := bcell hb2; have hz2 := hb2.size; (try simp at hz2); (try have hy2 := Nat.lt_of_succ_le hz2); (try have hv2 := Nat.lt_of_succ_lt hy2); (try have hw20 : w.heap.size < w2.heap.size := by omega); (try have hw21 : w.heap.size + 1 < w2.heap.size := by omega); (try have hw22 : w.heap.size + 1 + 1 < w2.heap.size := by omega); (try have hw23 : w.heap.size + 1 + 1 + 1 < w2.heap.size := by omega); (try have hx2_0 : w1.heap.size < w2.heap.size := by omega)) | (go_at_call 25; (with_reducible refine (HB.out _).mono ?_); rintro e w3 ⟨rfl, hb3⟩; obtain ⟨hc3, hf3⟩ := bcell hb3; have hz3 := hb3.size; (try simp at hz3); (try have hy3 := Nat.lt_of_succ_le hz3); (try have hv3 := Nat.lt_of_succ_lt hy3); (try have hw30 : w.heap.size < w3.heap.size := by omega); (try have hw31 : w.heap.size + 1 < w3.heap.size := by omega); (try have hw32 : w.heap.size + 1 + 1 < w3.heap.size := by omega); (try have hw33 : w.heap.size + 1 + 1 + 1 < w3.heap.size := by omega); (try have hx3_0 : w1.heap.size < w3.heap.size := by omega)) | (go_at_call 18; (with_reducible refine (HS.out _).mono ?_); rintro e w4 ⟨rfl, hb4⟩; obtain ⟨hc4, hf4⟩ := bcell hb4; have hz4 := hb4.size; (try simp at hz4); (try have hy4 := Nat.lt_of_succ_le hz4); (try have hv4 := Nat.lt_of_succ_lt hy4); (try have hw40 : w.heap.size < w4.heap.size := by omega); (try have hw41 : w.heap.size + 1 < w4.heap.size := by omega); (try have hw42 : w.heap.size + 1 + 1 < w4.heap.size := by omega); (try have hw43 : w.heap.size + 1 + 1 + 1 < w4.heap.size := by omega); (try have hx4_0 : w1.heap.size < w4.heap.size := by omega)) | (go_at_call 29; (with_reducible refine (HC.out _).mono ?_); rintro e w5 ⟨rfl, hb5⟩; obtain ⟨hc5, hf5⟩ := bcell hb5; have hz5 := hb5.size; (try simp at hz5); (try have hy5 := Nat.lt_of_succ_le hz5); (try have hv5 := Nat.lt_of_succ_lt hy5); (try have hw50 : w.heap.size < w5.heap.size := by omega); (try have hw51 : w.heap.size + 1 < w5.heap.size := by omega); (try have hw52 : w.heap.size + 1 + 1 < w5.heap.size := by omega); (try have hw53 : w.heap.size + 1 + 1 + 1 < w5.heap.size := by omega); (try have hx5_0 : w1.heap.size < w5.heap.size := by omega)) | (go_at_call 62; refine (r2_one _ _).mono ?_; rintro e w6 ⟨rfl, rfl⟩))
  go_ret2
  exact ⟨rfl, (by repeat (first | (with_reducible assumption) | (with_reducible exact Below.refl _ _) | (with_reducible refine Below.alloc ?_ (by first | omega | (simp; omega) | (simp; done) | (dsimp only; omega)) _) | (with_reducible refine Below.setCell ?_ (by first | omega | (simp; omega) | (simp; done) | (dsimp only; omega)) _) | (with_reducible refine Below.drew ?_) | (with_reducible refine Below.trans ?_ (Below.mono (by assumption) (by first | omega | (simp; omega) | (simp; done) | (dsimp only; omega))))))⟩

set_option maxHeartbeats 2000000 in
theorem r2_do_14_eq (a b : Int) (ha : I64 a) (hb : I64 b) (h : a = b) (w : World) :
    Calls Try.prog 37 #[.int .i64 14, .int .i64 a, .int .i64 b] w fun e w' =>
      e = .returned (.tuple #[.int .i64 1, .int .i64 0]) ∧ Below w.heap.size w w' := by
  have HX := Lib.hid (r2_exact_no 14 a b (by omega) (by omega) (by omega))
  have HA := Lib.hid (r_of a ha)
  have HB := Lib.hid (r_of b hb)
  have hs := fun w => r_sub (hiW a) (loW a) (hiW b) (loW b) (U64.lo _) (U64.lo _) w
  rw [wv_hilo, wv_hilo, wrap128_id (sub_I128 ha hb)] at hs
  have HS := Lib.hid hs
  have hc := fun w => r_cmp (hiW (a - b)) (loW (a - b)) 0 0 (I64_hi (sub_I128 ha hb)) (U64.lo _) (by unfold I64; omega) U64_0 w
  rw [wv_hilo, wv00] at hc
  rw [show cmpI (a - b) 0 = 0 by rw [h, Int.sub_self]; rfl] at hc
  have HC := Lib.hid hc
  clear hs hc ha hb h
  go_enter Try.func37, Try.ntmps37
  go_wp2_with (first | (go_at_call 42; (with_reducible refine (HX.out _).mono ?_); rintro e w1 ⟨rfl, hb1⟩; obtain ⟨hc1, hf1⟩ := bcell hb1; have hz1 := hb1.size; (try simp at hz1); (try have hy1 := Nat.lt_of_succ_le hz1); (try have hv1 := Nat.lt_of_succ_lt hy1); (try have hw10 : w.heap.size < w1.heap.size := by omega); (try have hw11 : w.heap.size + 1 < w1.heap.size := by omega); (try have hw12 : w.heap.size + 1 + 1 < w1.heap.size := by omega); (try have hw13 : w.heap.size + 1 + 1 + 1 < w1.heap.size := by omega)) | (go_at_call 25; (with_reducible refine (HA.out _).mono ?_); rintro e w2 ⟨rfl, hb2⟩; obtain ⟨hc2, hf2⟩ := bcell hb2; have hz2 := hb2.size; (try simp at hz2); (try have hy2 := Nat.lt_of_succ_le hz2); (try have hv2 := Nat.lt_of_succ_lt hy2); (try have hw20 : w.heap.size < w2.heap.size := by omega); (try have hw21 : w.heap.size + 1 < w2.heap.size := by omega); (try have hw22 : w.heap.size + 1 + 1 < w2.heap.size := by omega); (try have hw23 : w.heap.size + 1 + 1 + 1 < w2.heap.size := by omega); (try have hx2_0 : w1.heap.size < w2.heap.size := by omega)) | (go_at_call 25; (with_reducible refine (HB.out _).mono ?_); rintro e w3 ⟨rfl, hb3⟩; obtain ⟨hc3, hf3⟩ := bcell hb3; have hz3 := hb3.size; (try simp at hz3); (try have hy3 := Nat.lt_of_succ_le hz3); (try have hv3 := Nat.lt_of_succ_lt hy3); (try have hw30 : w.heap.size < w3.heap.size := by omega); (try have hw31 : w.heap.size + 1 < w3.heap.size := by omega); (try have hw32 : w.heap.size + 1 + 1 < w3.heap.size := by omega); (try have hw33 : w.heap.size + 1 + 1 + 1 < w3.heap.size := by omega); (try have hx3_0 : w1.heap.size < w3.heap.size := by omega)) | (go_at_call 18; (with_reducible refine (HS.out _).mono ?_); rintro e w4 ⟨rfl, hb4⟩; obtain ⟨hc4, hf4⟩ := bcell hb4; have hz4 := hb4.size; (try simp at hz4); (try have hy4 := Nat.lt_of_succ_le hz4); (try have hv4 := Nat.lt_of_succ_lt hy4); (try have hw40 : w.heap.size < w4.heap.size := by omega); (try have hw41 : w.heap.size + 1 < w4.heap.size := by omega); (try have hw42 : w.heap.size + 1 + 1 < w4.heap.size := by omega); (try have hw43 : w.heap.size + 1 + 1 + 1 < w4.heap.size := by omega); (try have hx4_0 : w1.heap.size < w4.heap.size := by omega)) | (go_at_call 29; (with_reducible refine (HC.out _).mono ?_); rintro e w5 ⟨rfl, hb5⟩; obtain ⟨hc5, hf5⟩ := bcell hb5; have hz5 := hb5.size; (try simp at hz5); (try have hy5 := Nat.lt_of_succ_le hz5); (try have hv5 := Nat.lt_of_succ_lt hy5); (try have hw50 : w.heap.size < w5.heap.size := by omega); (try have hw51 : w.heap.size + 1 < w5.heap.size := by omega); (try have hw52 : w.heap.size + 1 + 1 < w5.heap.size := by omega); (try have hw53 : w.heap.size + 1 + 1 + 1 < w5.heap.size := by omega); (try have hx5_0 : w1.heap.size < w5.heap.size := by omega)) | (go_at_call 62; refine (r2_one _ _).mono ?_; rintro e w6 ⟨rfl, rfl⟩))
  go_ret2
  exact ⟨rfl, (by repeat (first | (with_reducible assumption) | (with_reducible exact Below.refl _ _) | (with_reducible refine Below.alloc ?_ (by first | omega | (simp; omega) | (simp; done) | (dsimp only; omega)) _) | (with_reducible refine Below.setCell ?_ (by first | omega | (simp; omega) | (simp; done) | (dsimp only; omega)) _) | (with_reducible refine Below.drew ?_) | (with_reducible refine Below.trans ?_ (Below.mono (by assumption) (by first | omega | (simp; omega) | (simp; done) | (dsimp only; omega))))))⟩

set_option maxHeartbeats 2000000 in
theorem r2_do_14_gt (a b : Int) (ha : I64 a) (hb : I64 b) (h : b < a) (w : World) :
    Calls Try.prog 37 #[.int .i64 14, .int .i64 a, .int .i64 b] w fun e w' =>
      e = .returned (.tuple #[.int .i64 0, .int .i64 0]) ∧ Below w.heap.size w w' := by
  have HX := Lib.hid (r2_exact_no 14 a b (by omega) (by omega) (by omega))
  have HA := Lib.hid (r_of a ha)
  have HB := Lib.hid (r_of b hb)
  have hs := fun w => r_sub (hiW a) (loW a) (hiW b) (loW b) (U64.lo _) (U64.lo _) w
  rw [wv_hilo, wv_hilo, wrap128_id (sub_I128 ha hb)] at hs
  have HS := Lib.hid hs
  have hc := fun w => r_cmp (hiW (a - b)) (loW (a - b)) 0 0 (I64_hi (sub_I128 ha hb)) (U64.lo _) (by unfold I64; omega) U64_0 w
  rw [wv_hilo, wv00] at hc
  rw [cmp_gt (show 0 < a - b by omega)] at hc
  have HC := Lib.hid hc
  clear hs hc ha hb h
  go_enter Try.func37, Try.ntmps37
  go_wp2_with (first | (go_at_call 42; (with_reducible refine (HX.out _).mono ?_); rintro e w1 ⟨rfl, hb1⟩; obtain ⟨hc1, hf1⟩ := bcell hb1; have hz1 := hb1.size; (try simp at hz1); (try have hy1 := Nat.lt_of_succ_le hz1); (try have hv1 := Nat.lt_of_succ_lt hy1); (try have hw10 : w.heap.size < w1.heap.size := by omega); (try have hw11 : w.heap.size + 1 < w1.heap.size := by omega); (try have hw12 : w.heap.size + 1 + 1 < w1.heap.size := by omega); (try have hw13 : w.heap.size + 1 + 1 + 1 < w1.heap.size := by omega)) | (go_at_call 25; (with_reducible refine (HA.out _).mono ?_); rintro e w2 ⟨rfl, hb2⟩; obtain ⟨hc2, hf2⟩ := bcell hb2; have hz2 := hb2.size; (try simp at hz2); (try have hy2 := Nat.lt_of_succ_le hz2); (try have hv2 := Nat.lt_of_succ_lt hy2); (try have hw20 : w.heap.size < w2.heap.size := by omega); (try have hw21 : w.heap.size + 1 < w2.heap.size := by omega); (try have hw22 : w.heap.size + 1 + 1 < w2.heap.size := by omega); (try have hw23 : w.heap.size + 1 + 1 + 1 < w2.heap.size := by omega); (try have hx2_0 : w1.heap.size < w2.heap.size := by omega)) | (go_at_call 25; (with_reducible refine (HB.out _).mono ?_); rintro e w3 ⟨rfl, hb3⟩; obtain ⟨hc3, hf3⟩ := bcell hb3; have hz3 := hb3.size; (try simp at hz3); (try have hy3 := Nat.lt_of_succ_le hz3); (try have hv3 := Nat.lt_of_succ_lt hy3); (try have hw30 : w.heap.size < w3.heap.size := by omega); (try have hw31 : w.heap.size + 1 < w3.heap.size := by omega); (try have hw32 : w.heap.size + 1 + 1 < w3.heap.size := by omega); (try have hw33 : w.heap.size + 1 + 1 + 1 < w3.heap.size := by omega); (try have hx3_0 : w1.heap.size < w3.heap.size := by omega)) | (go_at_call 18; (with_reducible refine (HS.out _).mono ?_); rintro e w4 ⟨rfl, hb4⟩; obtain ⟨hc4, hf4⟩ := bcell hb4; have hz4 := hb4.size; (try simp at hz4); (try have hy4 := Nat.lt_of_succ_le hz4); (try have hv4 := Nat.lt_of_succ_lt hy4); (try have hw40 : w.heap.size < w4.heap.size := by omega); (try have hw41 : w.heap.size + 1 < w4.heap.size := by omega); (try have hw42 : w.heap.size + 1 + 1 < w4.heap.size := by omega); (try have hw43 : w.heap.size + 1 + 1 + 1 < w4.heap.size := by omega); (try have hx4_0 : w1.heap.size < w4.heap.size := by omega)) | (go_at_call 29; (with_reducible refine (HC.out _).mono ?_); rintro e w5 ⟨rfl, hb5⟩; obtain ⟨hc5, hf5⟩ := bcell hb5; have hz5 := hb5.size; (try simp at hz5); (try have hy5 := Nat.lt_of_succ_le hz5); (try have hv5 := Nat.lt_of_succ_lt hy5); (try have hw50 : w.heap.size < w5.heap.size := by omega); (try have hw51 : w.heap.size + 1 < w5.heap.size := by omega); (try have hw52 : w.heap.size + 1 + 1 < w5.heap.size := by omega); (try have hw53 : w.heap.size + 1 + 1 + 1 < w5.heap.size := by omega); (try have hx5_0 : w1.heap.size < w5.heap.size := by omega)) | (go_at_call 62; refine (r2_one _ _).mono ?_; rintro e w6 ⟨rfl, rfl⟩))
  go_ret2
  exact ⟨rfl, (by repeat (first | (with_reducible assumption) | (with_reducible exact Below.refl _ _) | (with_reducible refine Below.alloc ?_ (by first | omega | (simp; omega) | (simp; done) | (dsimp only; omega)) _) | (with_reducible refine Below.setCell ?_ (by first | omega | (simp; omega) | (simp; done) | (dsimp only; omega)) _) | (with_reducible refine Below.drew ?_) | (with_reducible refine Below.trans ?_ (Below.mono (by assumption) (by first | omega | (simp; omega) | (simp; done) | (dsimp only; omega))))))⟩

set_option maxHeartbeats 2000000 in
theorem r2_do_15_lt (a b : Int) (ha : I64 a) (hb : I64 b) (h : a < b) (w : World) :
    Calls Try.prog 37 #[.int .i64 15, .int .i64 a, .int .i64 b] w fun e w' =>
      e = .returned (.tuple #[.int .i64 1, .int .i64 0]) ∧ Below w.heap.size w w' := by
  have HX := Lib.hid (r2_exact_no 15 a b (by omega) (by omega) (by omega))
  have HA := Lib.hid (r_of a ha)
  have HB := Lib.hid (r_of b hb)
  have hs := fun w => r_sub (hiW a) (loW a) (hiW b) (loW b) (U64.lo _) (U64.lo _) w
  rw [wv_hilo, wv_hilo, wrap128_id (sub_I128 ha hb)] at hs
  have HS := Lib.hid hs
  have hc := fun w => r_cmp (hiW (a - b)) (loW (a - b)) 0 0 (I64_hi (sub_I128 ha hb)) (U64.lo _) (by unfold I64; omega) U64_0 w
  rw [wv_hilo, wv00] at hc
  rw [cmp_lt (show a - b < 0 by omega)] at hc
  have HC := Lib.hid hc
  clear hs hc ha hb h
  go_enter Try.func37, Try.ntmps37
  go_wp2_with (first | (go_at_call 42; (with_reducible refine (HX.out _).mono ?_); rintro e w1 ⟨rfl, hb1⟩; obtain ⟨hc1, hf1⟩ := bcell hb1; have hz1 := hb1.size; (try simp at hz1); (try have hy1 := Nat.lt_of_succ_le hz1); (try have hv1 := Nat.lt_of_succ_lt hy1); (try have hw10 : w.heap.size < w1.heap.size := by omega); (try have hw11 : w.heap.size + 1 < w1.heap.size := by omega); (try have hw12 : w.heap.size + 1 + 1 < w1.heap.size := by omega); (try have hw13 : w.heap.size + 1 + 1 + 1 < w1.heap.size := by omega)) | (go_at_call 25; (with_reducible refine (HA.out _).mono ?_); rintro e w2 ⟨rfl, hb2⟩; obtain ⟨hc2, hf2⟩ := bcell hb2; have hz2 := hb2.size; (try simp at hz2); (try have hy2 := Nat.lt_of_succ_le hz2); (try have hv2 := Nat.lt_of_succ_lt hy2); (try have hw20 : w.heap.size < w2.heap.size := by omega); (try have hw21 : w.heap.size + 1 < w2.heap.size := by omega); (try have hw22 : w.heap.size + 1 + 1 < w2.heap.size := by omega); (try have hw23 : w.heap.size + 1 + 1 + 1 < w2.heap.size := by omega); (try have hx2_0 : w1.heap.size < w2.heap.size := by omega)) | (go_at_call 25; (with_reducible refine (HB.out _).mono ?_); rintro e w3 ⟨rfl, hb3⟩; obtain ⟨hc3, hf3⟩ := bcell hb3; have hz3 := hb3.size; (try simp at hz3); (try have hy3 := Nat.lt_of_succ_le hz3); (try have hv3 := Nat.lt_of_succ_lt hy3); (try have hw30 : w.heap.size < w3.heap.size := by omega); (try have hw31 : w.heap.size + 1 < w3.heap.size := by omega); (try have hw32 : w.heap.size + 1 + 1 < w3.heap.size := by omega); (try have hw33 : w.heap.size + 1 + 1 + 1 < w3.heap.size := by omega); (try have hx3_0 : w1.heap.size < w3.heap.size := by omega)) | (go_at_call 18; (with_reducible refine (HS.out _).mono ?_); rintro e w4 ⟨rfl, hb4⟩; obtain ⟨hc4, hf4⟩ := bcell hb4; have hz4 := hb4.size; (try simp at hz4); (try have hy4 := Nat.lt_of_succ_le hz4); (try have hv4 := Nat.lt_of_succ_lt hy4); (try have hw40 : w.heap.size < w4.heap.size := by omega); (try have hw41 : w.heap.size + 1 < w4.heap.size := by omega); (try have hw42 : w.heap.size + 1 + 1 < w4.heap.size := by omega); (try have hw43 : w.heap.size + 1 + 1 + 1 < w4.heap.size := by omega); (try have hx4_0 : w1.heap.size < w4.heap.size := by omega)) | (go_at_call 29; (with_reducible refine (HC.out _).mono ?_); rintro e w5 ⟨rfl, hb5⟩; obtain ⟨hc5, hf5⟩ := bcell hb5; have hz5 := hb5.size; (try simp at hz5); (try have hy5 := Nat.lt_of_succ_le hz5); (try have hv5 := Nat.lt_of_succ_lt hy5); (try have hw50 : w.heap.size < w5.heap.size := by omega); (try have hw51 : w.heap.size + 1 < w5.heap.size := by omega); (try have hw52 : w.heap.size + 1 + 1 < w5.heap.size := by omega); (try have hw53 : w.heap.size + 1 + 1 + 1 < w5.heap.size := by omega); (try have hx5_0 : w1.heap.size < w5.heap.size := by omega)) | (go_at_call 62; refine (r2_one _ _).mono ?_; rintro e w6 ⟨rfl, rfl⟩))
  go_ret2
  exact ⟨rfl, (by repeat (first | (with_reducible assumption) | (with_reducible exact Below.refl _ _) | (with_reducible refine Below.alloc ?_ (by first | omega | (simp; omega) | (simp; done) | (dsimp only; omega)) _) | (with_reducible refine Below.setCell ?_ (by first | omega | (simp; omega) | (simp; done) | (dsimp only; omega)) _) | (with_reducible refine Below.drew ?_) | (with_reducible refine Below.trans ?_ (Below.mono (by assumption) (by first | omega | (simp; omega) | (simp; done) | (dsimp only; omega))))))⟩

set_option maxHeartbeats 2000000 in
theorem r2_do_15_eq (a b : Int) (ha : I64 a) (hb : I64 b) (h : a = b) (w : World) :
    Calls Try.prog 37 #[.int .i64 15, .int .i64 a, .int .i64 b] w fun e w' =>
      e = .returned (.tuple #[.int .i64 0, .int .i64 0]) ∧ Below w.heap.size w w' := by
  have HX := Lib.hid (r2_exact_no 15 a b (by omega) (by omega) (by omega))
  have HA := Lib.hid (r_of a ha)
  have HB := Lib.hid (r_of b hb)
  have hs := fun w => r_sub (hiW a) (loW a) (hiW b) (loW b) (U64.lo _) (U64.lo _) w
  rw [wv_hilo, wv_hilo, wrap128_id (sub_I128 ha hb)] at hs
  have HS := Lib.hid hs
  have hc := fun w => r_cmp (hiW (a - b)) (loW (a - b)) 0 0 (I64_hi (sub_I128 ha hb)) (U64.lo _) (by unfold I64; omega) U64_0 w
  rw [wv_hilo, wv00] at hc
  rw [show cmpI (a - b) 0 = 0 by rw [h, Int.sub_self]; rfl] at hc
  have HC := Lib.hid hc
  clear hs hc ha hb h
  go_enter Try.func37, Try.ntmps37
  go_wp2_with (first | (go_at_call 42; (with_reducible refine (HX.out _).mono ?_); rintro e w1 ⟨rfl, hb1⟩; obtain ⟨hc1, hf1⟩ := bcell hb1; have hz1 := hb1.size; (try simp at hz1); (try have hy1 := Nat.lt_of_succ_le hz1); (try have hv1 := Nat.lt_of_succ_lt hy1); (try have hw10 : w.heap.size < w1.heap.size := by omega); (try have hw11 : w.heap.size + 1 < w1.heap.size := by omega); (try have hw12 : w.heap.size + 1 + 1 < w1.heap.size := by omega); (try have hw13 : w.heap.size + 1 + 1 + 1 < w1.heap.size := by omega)) | (go_at_call 25; (with_reducible refine (HA.out _).mono ?_); rintro e w2 ⟨rfl, hb2⟩; obtain ⟨hc2, hf2⟩ := bcell hb2; have hz2 := hb2.size; (try simp at hz2); (try have hy2 := Nat.lt_of_succ_le hz2); (try have hv2 := Nat.lt_of_succ_lt hy2); (try have hw20 : w.heap.size < w2.heap.size := by omega); (try have hw21 : w.heap.size + 1 < w2.heap.size := by omega); (try have hw22 : w.heap.size + 1 + 1 < w2.heap.size := by omega); (try have hw23 : w.heap.size + 1 + 1 + 1 < w2.heap.size := by omega); (try have hx2_0 : w1.heap.size < w2.heap.size := by omega)) | (go_at_call 25; (with_reducible refine (HB.out _).mono ?_); rintro e w3 ⟨rfl, hb3⟩; obtain ⟨hc3, hf3⟩ := bcell hb3; have hz3 := hb3.size; (try simp at hz3); (try have hy3 := Nat.lt_of_succ_le hz3); (try have hv3 := Nat.lt_of_succ_lt hy3); (try have hw30 : w.heap.size < w3.heap.size := by omega); (try have hw31 : w.heap.size + 1 < w3.heap.size := by omega); (try have hw32 : w.heap.size + 1 + 1 < w3.heap.size := by omega); (try have hw33 : w.heap.size + 1 + 1 + 1 < w3.heap.size := by omega); (try have hx3_0 : w1.heap.size < w3.heap.size := by omega)) | (go_at_call 18; (with_reducible refine (HS.out _).mono ?_); rintro e w4 ⟨rfl, hb4⟩; obtain ⟨hc4, hf4⟩ := bcell hb4; have hz4 := hb4.size; (try simp at hz4); (try have hy4 := Nat.lt_of_succ_le hz4); (try have hv4 := Nat.lt_of_succ_lt hy4); (try have hw40 : w.heap.size < w4.heap.size := by omega); (try have hw41 : w.heap.size + 1 < w4.heap.size := by omega); (try have hw42 : w.heap.size + 1 + 1 < w4.heap.size := by omega); (try have hw43 : w.heap.size + 1 + 1 + 1 < w4.heap.size := by omega); (try have hx4_0 : w1.heap.size < w4.heap.size := by omega)) | (go_at_call 29; (with_reducible refine (HC.out _).mono ?_); rintro e w5 ⟨rfl, hb5⟩; obtain ⟨hc5, hf5⟩ := bcell hb5; have hz5 := hb5.size; (try simp at hz5); (try have hy5 := Nat.lt_of_succ_le hz5); (try have hv5 := Nat.lt_of_succ_lt hy5); (try have hw50 : w.heap.size < w5.heap.size := by omega); (try have hw51 : w.heap.size + 1 < w5.heap.size := by omega); (try have hw52 : w.heap.size + 1 + 1 < w5.heap.size := by omega); (try have hw53 : w.heap.size + 1 + 1 + 1 < w5.heap.size := by omega); (try have hx5_0 : w1.heap.size < w5.heap.size := by omega)) | (go_at_call 62; refine (r2_one _ _).mono ?_; rintro e w6 ⟨rfl, rfl⟩))
  go_ret2
  exact ⟨rfl, (by repeat (first | (with_reducible assumption) | (with_reducible exact Below.refl _ _) | (with_reducible refine Below.alloc ?_ (by first | omega | (simp; omega) | (simp; done) | (dsimp only; omega)) _) | (with_reducible refine Below.setCell ?_ (by first | omega | (simp; omega) | (simp; done) | (dsimp only; omega)) _) | (with_reducible refine Below.drew ?_) | (with_reducible refine Below.trans ?_ (Below.mono (by assumption) (by first | omega | (simp; omega) | (simp; done) | (dsimp only; omega))))))⟩

set_option maxHeartbeats 2000000 in
theorem r2_do_15_gt (a b : Int) (ha : I64 a) (hb : I64 b) (h : b < a) (w : World) :
    Calls Try.prog 37 #[.int .i64 15, .int .i64 a, .int .i64 b] w fun e w' =>
      e = .returned (.tuple #[.int .i64 1, .int .i64 0]) ∧ Below w.heap.size w w' := by
  have HX := Lib.hid (r2_exact_no 15 a b (by omega) (by omega) (by omega))
  have HA := Lib.hid (r_of a ha)
  have HB := Lib.hid (r_of b hb)
  have hs := fun w => r_sub (hiW a) (loW a) (hiW b) (loW b) (U64.lo _) (U64.lo _) w
  rw [wv_hilo, wv_hilo, wrap128_id (sub_I128 ha hb)] at hs
  have HS := Lib.hid hs
  have hc := fun w => r_cmp (hiW (a - b)) (loW (a - b)) 0 0 (I64_hi (sub_I128 ha hb)) (U64.lo _) (by unfold I64; omega) U64_0 w
  rw [wv_hilo, wv00] at hc
  rw [cmp_gt (show 0 < a - b by omega)] at hc
  have HC := Lib.hid hc
  clear hs hc ha hb h
  go_enter Try.func37, Try.ntmps37
  go_wp2_with (first | (go_at_call 42; (with_reducible refine (HX.out _).mono ?_); rintro e w1 ⟨rfl, hb1⟩; obtain ⟨hc1, hf1⟩ := bcell hb1; have hz1 := hb1.size; (try simp at hz1); (try have hy1 := Nat.lt_of_succ_le hz1); (try have hv1 := Nat.lt_of_succ_lt hy1); (try have hw10 : w.heap.size < w1.heap.size := by omega); (try have hw11 : w.heap.size + 1 < w1.heap.size := by omega); (try have hw12 : w.heap.size + 1 + 1 < w1.heap.size := by omega); (try have hw13 : w.heap.size + 1 + 1 + 1 < w1.heap.size := by omega)) | (go_at_call 25; (with_reducible refine (HA.out _).mono ?_); rintro e w2 ⟨rfl, hb2⟩; obtain ⟨hc2, hf2⟩ := bcell hb2; have hz2 := hb2.size; (try simp at hz2); (try have hy2 := Nat.lt_of_succ_le hz2); (try have hv2 := Nat.lt_of_succ_lt hy2); (try have hw20 : w.heap.size < w2.heap.size := by omega); (try have hw21 : w.heap.size + 1 < w2.heap.size := by omega); (try have hw22 : w.heap.size + 1 + 1 < w2.heap.size := by omega); (try have hw23 : w.heap.size + 1 + 1 + 1 < w2.heap.size := by omega); (try have hx2_0 : w1.heap.size < w2.heap.size := by omega)) | (go_at_call 25; (with_reducible refine (HB.out _).mono ?_); rintro e w3 ⟨rfl, hb3⟩; obtain ⟨hc3, hf3⟩ := bcell hb3; have hz3 := hb3.size; (try simp at hz3); (try have hy3 := Nat.lt_of_succ_le hz3); (try have hv3 := Nat.lt_of_succ_lt hy3); (try have hw30 : w.heap.size < w3.heap.size := by omega); (try have hw31 : w.heap.size + 1 < w3.heap.size := by omega); (try have hw32 : w.heap.size + 1 + 1 < w3.heap.size := by omega); (try have hw33 : w.heap.size + 1 + 1 + 1 < w3.heap.size := by omega); (try have hx3_0 : w1.heap.size < w3.heap.size := by omega)) | (go_at_call 18; (with_reducible refine (HS.out _).mono ?_); rintro e w4 ⟨rfl, hb4⟩; obtain ⟨hc4, hf4⟩ := bcell hb4; have hz4 := hb4.size; (try simp at hz4); (try have hy4 := Nat.lt_of_succ_le hz4); (try have hv4 := Nat.lt_of_succ_lt hy4); (try have hw40 : w.heap.size < w4.heap.size := by omega); (try have hw41 : w.heap.size + 1 < w4.heap.size := by omega); (try have hw42 : w.heap.size + 1 + 1 < w4.heap.size := by omega); (try have hw43 : w.heap.size + 1 + 1 + 1 < w4.heap.size := by omega); (try have hx4_0 : w1.heap.size < w4.heap.size := by omega)) | (go_at_call 29; (with_reducible refine (HC.out _).mono ?_); rintro e w5 ⟨rfl, hb5⟩; obtain ⟨hc5, hf5⟩ := bcell hb5; have hz5 := hb5.size; (try simp at hz5); (try have hy5 := Nat.lt_of_succ_le hz5); (try have hv5 := Nat.lt_of_succ_lt hy5); (try have hw50 : w.heap.size < w5.heap.size := by omega); (try have hw51 : w.heap.size + 1 < w5.heap.size := by omega); (try have hw52 : w.heap.size + 1 + 1 < w5.heap.size := by omega); (try have hw53 : w.heap.size + 1 + 1 + 1 < w5.heap.size := by omega); (try have hx5_0 : w1.heap.size < w5.heap.size := by omega)) | (go_at_call 62; refine (r2_one _ _).mono ?_; rintro e w6 ⟨rfl, rfl⟩))
  go_ret2
  exact ⟨rfl, (by repeat (first | (with_reducible assumption) | (with_reducible exact Below.refl _ _) | (with_reducible refine Below.alloc ?_ (by first | omega | (simp; omega) | (simp; done) | (dsimp only; omega)) _) | (with_reducible refine Below.setCell ?_ (by first | omega | (simp; omega) | (simp; done) | (dsimp only; omega)) _) | (with_reducible refine Below.drew ?_) | (with_reducible refine Below.trans ?_ (Below.mono (by assumption) (by first | omega | (simp; omega) | (simp; done) | (dsimp only; omega))))))⟩

set_option maxHeartbeats 2000000 in
theorem r2_do_16_ff (a b : Int) (ha : I64 a) (hb : I64 b) (h1 : (a != 0) = false) (_h2 : (b != 0) = false) (w : World) :
    Calls Try.prog 37 #[.int .i64 16, .int .i64 a, .int .i64 b] w fun e w' =>
      e = .returned (.tuple #[.int .i64 0, .int .i64 0]) ∧ Below w.heap.size w w' := by
  have HX := Lib.hid (r2_exact_no 16 a b (by omega) (by omega) (by omega))
  have HA := Lib.hid (r_of a ha)
  have HB := Lib.hid (r_of b hb)
  have hs := fun w => r_sub (hiW a) (loW a) (hiW b) (loW b) (U64.lo _) (U64.lo _) w
  rw [wv_hilo, wv_hilo, wrap128_id (sub_I128 ha hb)] at hs
  have HS := Lib.hid hs
  have hc := fun w => r_cmp (hiW (a - b)) (loW (a - b)) 0 0 (I64_hi (sub_I128 ha hb)) (U64.lo _) (by unfold I64; omega) U64_0 w
  rw [wv_hilo, wv00] at hc
  generalize cmpI (a - b) 0 = c at *
  have HC := Lib.hid hc
  clear hs hc ha hb
  go_enter Try.func37, Try.ntmps37
  go_wp2_with (first | (go_at_call 42; (with_reducible refine (HX.out _).mono ?_); rintro e w1 ⟨rfl, hb1⟩; obtain ⟨hc1, hf1⟩ := bcell hb1; have hz1 := hb1.size; (try simp at hz1); (try have hy1 := Nat.lt_of_succ_le hz1); (try have hv1 := Nat.lt_of_succ_lt hy1); (try have hw10 : w.heap.size < w1.heap.size := by omega); (try have hw11 : w.heap.size + 1 < w1.heap.size := by omega); (try have hw12 : w.heap.size + 1 + 1 < w1.heap.size := by omega); (try have hw13 : w.heap.size + 1 + 1 + 1 < w1.heap.size := by omega)) | (go_at_call 25; (with_reducible refine (HA.out _).mono ?_); rintro e w2 ⟨rfl, hb2⟩; obtain ⟨hc2, hf2⟩ := bcell hb2; have hz2 := hb2.size; (try simp at hz2); (try have hy2 := Nat.lt_of_succ_le hz2); (try have hv2 := Nat.lt_of_succ_lt hy2); (try have hw20 : w.heap.size < w2.heap.size := by omega); (try have hw21 : w.heap.size + 1 < w2.heap.size := by omega); (try have hw22 : w.heap.size + 1 + 1 < w2.heap.size := by omega); (try have hw23 : w.heap.size + 1 + 1 + 1 < w2.heap.size := by omega); (try have hx2_0 : w1.heap.size < w2.heap.size := by omega)) | (go_at_call 25; (with_reducible refine (HB.out _).mono ?_); rintro e w3 ⟨rfl, hb3⟩; obtain ⟨hc3, hf3⟩ := bcell hb3; have hz3 := hb3.size; (try simp at hz3); (try have hy3 := Nat.lt_of_succ_le hz3); (try have hv3 := Nat.lt_of_succ_lt hy3); (try have hw30 : w.heap.size < w3.heap.size := by omega); (try have hw31 : w.heap.size + 1 < w3.heap.size := by omega); (try have hw32 : w.heap.size + 1 + 1 < w3.heap.size := by omega); (try have hw33 : w.heap.size + 1 + 1 + 1 < w3.heap.size := by omega); (try have hx3_0 : w1.heap.size < w3.heap.size := by omega)) | (go_at_call 18; (with_reducible refine (HS.out _).mono ?_); rintro e w4 ⟨rfl, hb4⟩; obtain ⟨hc4, hf4⟩ := bcell hb4; have hz4 := hb4.size; (try simp at hz4); (try have hy4 := Nat.lt_of_succ_le hz4); (try have hv4 := Nat.lt_of_succ_lt hy4); (try have hw40 : w.heap.size < w4.heap.size := by omega); (try have hw41 : w.heap.size + 1 < w4.heap.size := by omega); (try have hw42 : w.heap.size + 1 + 1 < w4.heap.size := by omega); (try have hw43 : w.heap.size + 1 + 1 + 1 < w4.heap.size := by omega); (try have hx4_0 : w1.heap.size < w4.heap.size := by omega)) | (go_at_call 29; (with_reducible refine (HC.out _).mono ?_); rintro e w5 ⟨rfl, hb5⟩; obtain ⟨hc5, hf5⟩ := bcell hb5; have hz5 := hb5.size; (try simp at hz5); (try have hy5 := Nat.lt_of_succ_le hz5); (try have hv5 := Nat.lt_of_succ_lt hy5); (try have hw50 : w.heap.size < w5.heap.size := by omega); (try have hw51 : w.heap.size + 1 < w5.heap.size := by omega); (try have hw52 : w.heap.size + 1 + 1 < w5.heap.size := by omega); (try have hw53 : w.heap.size + 1 + 1 + 1 < w5.heap.size := by omega); (try have hx5_0 : w1.heap.size < w5.heap.size := by omega)) | (go_at_call 62; refine (r2_one _ _).mono ?_; rintro e w6 ⟨rfl, rfl⟩))
  go_ret2
  exact ⟨rfl, (by repeat (first | (with_reducible assumption) | (with_reducible exact Below.refl _ _) | (with_reducible refine Below.alloc ?_ (by first | omega | (simp; omega) | (simp; done) | (dsimp only; omega)) _) | (with_reducible refine Below.setCell ?_ (by first | omega | (simp; omega) | (simp; done) | (dsimp only; omega)) _) | (with_reducible refine Below.drew ?_) | (with_reducible refine Below.trans ?_ (Below.mono (by assumption) (by first | omega | (simp; omega) | (simp; done) | (dsimp only; omega))))))⟩

set_option maxHeartbeats 2000000 in
theorem r2_do_17_ff (a b : Int) (ha : I64 a) (hb : I64 b) (h1 : (a != 0) = false) (h2 : (b != 0) = false) (w : World) :
    Calls Try.prog 37 #[.int .i64 17, .int .i64 a, .int .i64 b] w fun e w' =>
      e = .returned (.tuple #[.int .i64 0, .int .i64 0]) ∧ Below w.heap.size w w' := by
  have HX := Lib.hid (r2_exact_no 17 a b (by omega) (by omega) (by omega))
  have HA := Lib.hid (r_of a ha)
  have HB := Lib.hid (r_of b hb)
  have hs := fun w => r_sub (hiW a) (loW a) (hiW b) (loW b) (U64.lo _) (U64.lo _) w
  rw [wv_hilo, wv_hilo, wrap128_id (sub_I128 ha hb)] at hs
  have HS := Lib.hid hs
  have hc := fun w => r_cmp (hiW (a - b)) (loW (a - b)) 0 0 (I64_hi (sub_I128 ha hb)) (U64.lo _) (by unfold I64; omega) U64_0 w
  rw [wv_hilo, wv00] at hc
  generalize cmpI (a - b) 0 = c at *
  have HC := Lib.hid hc
  clear hs hc ha hb
  go_enter Try.func37, Try.ntmps37
  go_wp2_with (first | (go_at_call 42; (with_reducible refine (HX.out _).mono ?_); rintro e w1 ⟨rfl, hb1⟩; obtain ⟨hc1, hf1⟩ := bcell hb1; have hz1 := hb1.size; (try simp at hz1); (try have hy1 := Nat.lt_of_succ_le hz1); (try have hv1 := Nat.lt_of_succ_lt hy1); (try have hw10 : w.heap.size < w1.heap.size := by omega); (try have hw11 : w.heap.size + 1 < w1.heap.size := by omega); (try have hw12 : w.heap.size + 1 + 1 < w1.heap.size := by omega); (try have hw13 : w.heap.size + 1 + 1 + 1 < w1.heap.size := by omega)) | (go_at_call 25; (with_reducible refine (HA.out _).mono ?_); rintro e w2 ⟨rfl, hb2⟩; obtain ⟨hc2, hf2⟩ := bcell hb2; have hz2 := hb2.size; (try simp at hz2); (try have hy2 := Nat.lt_of_succ_le hz2); (try have hv2 := Nat.lt_of_succ_lt hy2); (try have hw20 : w.heap.size < w2.heap.size := by omega); (try have hw21 : w.heap.size + 1 < w2.heap.size := by omega); (try have hw22 : w.heap.size + 1 + 1 < w2.heap.size := by omega); (try have hw23 : w.heap.size + 1 + 1 + 1 < w2.heap.size := by omega); (try have hx2_0 : w1.heap.size < w2.heap.size := by omega)) | (go_at_call 25; (with_reducible refine (HB.out _).mono ?_); rintro e w3 ⟨rfl, hb3⟩; obtain ⟨hc3, hf3⟩ := bcell hb3; have hz3 := hb3.size; (try simp at hz3); (try have hy3 := Nat.lt_of_succ_le hz3); (try have hv3 := Nat.lt_of_succ_lt hy3); (try have hw30 : w.heap.size < w3.heap.size := by omega); (try have hw31 : w.heap.size + 1 < w3.heap.size := by omega); (try have hw32 : w.heap.size + 1 + 1 < w3.heap.size := by omega); (try have hw33 : w.heap.size + 1 + 1 + 1 < w3.heap.size := by omega); (try have hx3_0 : w1.heap.size < w3.heap.size := by omega)) | (go_at_call 18; (with_reducible refine (HS.out _).mono ?_); rintro e w4 ⟨rfl, hb4⟩; obtain ⟨hc4, hf4⟩ := bcell hb4; have hz4 := hb4.size; (try simp at hz4); (try have hy4 := Nat.lt_of_succ_le hz4); (try have hv4 := Nat.lt_of_succ_lt hy4); (try have hw40 : w.heap.size < w4.heap.size := by omega); (try have hw41 : w.heap.size + 1 < w4.heap.size := by omega); (try have hw42 : w.heap.size + 1 + 1 < w4.heap.size := by omega); (try have hw43 : w.heap.size + 1 + 1 + 1 < w4.heap.size := by omega); (try have hx4_0 : w1.heap.size < w4.heap.size := by omega)) | (go_at_call 29; (with_reducible refine (HC.out _).mono ?_); rintro e w5 ⟨rfl, hb5⟩; obtain ⟨hc5, hf5⟩ := bcell hb5; have hz5 := hb5.size; (try simp at hz5); (try have hy5 := Nat.lt_of_succ_le hz5); (try have hv5 := Nat.lt_of_succ_lt hy5); (try have hw50 : w.heap.size < w5.heap.size := by omega); (try have hw51 : w.heap.size + 1 < w5.heap.size := by omega); (try have hw52 : w.heap.size + 1 + 1 < w5.heap.size := by omega); (try have hw53 : w.heap.size + 1 + 1 + 1 < w5.heap.size := by omega); (try have hx5_0 : w1.heap.size < w5.heap.size := by omega)) | (go_at_call 62; refine (r2_one _ _).mono ?_; rintro e w6 ⟨rfl, rfl⟩))
  go_ret2
  exact ⟨rfl, (by repeat (first | (with_reducible assumption) | (with_reducible exact Below.refl _ _) | (with_reducible refine Below.alloc ?_ (by first | omega | (simp; omega) | (simp; done) | (dsimp only; omega)) _) | (with_reducible refine Below.setCell ?_ (by first | omega | (simp; omega) | (simp; done) | (dsimp only; omega)) _) | (with_reducible refine Below.drew ?_) | (with_reducible refine Below.trans ?_ (Below.mono (by assumption) (by first | omega | (simp; omega) | (simp; done) | (dsimp only; omega))))))⟩

set_option maxHeartbeats 2000000 in
theorem r2_do_16_ft (a b : Int) (ha : I64 a) (hb : I64 b) (h1 : (a != 0) = false) (_h2 : (b != 0) = true) (w : World) :
    Calls Try.prog 37 #[.int .i64 16, .int .i64 a, .int .i64 b] w fun e w' =>
      e = .returned (.tuple #[.int .i64 0, .int .i64 0]) ∧ Below w.heap.size w w' := by
  have HX := Lib.hid (r2_exact_no 16 a b (by omega) (by omega) (by omega))
  have HA := Lib.hid (r_of a ha)
  have HB := Lib.hid (r_of b hb)
  have hs := fun w => r_sub (hiW a) (loW a) (hiW b) (loW b) (U64.lo _) (U64.lo _) w
  rw [wv_hilo, wv_hilo, wrap128_id (sub_I128 ha hb)] at hs
  have HS := Lib.hid hs
  have hc := fun w => r_cmp (hiW (a - b)) (loW (a - b)) 0 0 (I64_hi (sub_I128 ha hb)) (U64.lo _) (by unfold I64; omega) U64_0 w
  rw [wv_hilo, wv00] at hc
  generalize cmpI (a - b) 0 = c at *
  have HC := Lib.hid hc
  clear hs hc ha hb
  go_enter Try.func37, Try.ntmps37
  go_wp2_with (first | (go_at_call 42; (with_reducible refine (HX.out _).mono ?_); rintro e w1 ⟨rfl, hb1⟩; obtain ⟨hc1, hf1⟩ := bcell hb1; have hz1 := hb1.size; (try simp at hz1); (try have hy1 := Nat.lt_of_succ_le hz1); (try have hv1 := Nat.lt_of_succ_lt hy1); (try have hw10 : w.heap.size < w1.heap.size := by omega); (try have hw11 : w.heap.size + 1 < w1.heap.size := by omega); (try have hw12 : w.heap.size + 1 + 1 < w1.heap.size := by omega); (try have hw13 : w.heap.size + 1 + 1 + 1 < w1.heap.size := by omega)) | (go_at_call 25; (with_reducible refine (HA.out _).mono ?_); rintro e w2 ⟨rfl, hb2⟩; obtain ⟨hc2, hf2⟩ := bcell hb2; have hz2 := hb2.size; (try simp at hz2); (try have hy2 := Nat.lt_of_succ_le hz2); (try have hv2 := Nat.lt_of_succ_lt hy2); (try have hw20 : w.heap.size < w2.heap.size := by omega); (try have hw21 : w.heap.size + 1 < w2.heap.size := by omega); (try have hw22 : w.heap.size + 1 + 1 < w2.heap.size := by omega); (try have hw23 : w.heap.size + 1 + 1 + 1 < w2.heap.size := by omega); (try have hx2_0 : w1.heap.size < w2.heap.size := by omega)) | (go_at_call 25; (with_reducible refine (HB.out _).mono ?_); rintro e w3 ⟨rfl, hb3⟩; obtain ⟨hc3, hf3⟩ := bcell hb3; have hz3 := hb3.size; (try simp at hz3); (try have hy3 := Nat.lt_of_succ_le hz3); (try have hv3 := Nat.lt_of_succ_lt hy3); (try have hw30 : w.heap.size < w3.heap.size := by omega); (try have hw31 : w.heap.size + 1 < w3.heap.size := by omega); (try have hw32 : w.heap.size + 1 + 1 < w3.heap.size := by omega); (try have hw33 : w.heap.size + 1 + 1 + 1 < w3.heap.size := by omega); (try have hx3_0 : w1.heap.size < w3.heap.size := by omega)) | (go_at_call 18; (with_reducible refine (HS.out _).mono ?_); rintro e w4 ⟨rfl, hb4⟩; obtain ⟨hc4, hf4⟩ := bcell hb4; have hz4 := hb4.size; (try simp at hz4); (try have hy4 := Nat.lt_of_succ_le hz4); (try have hv4 := Nat.lt_of_succ_lt hy4); (try have hw40 : w.heap.size < w4.heap.size := by omega); (try have hw41 : w.heap.size + 1 < w4.heap.size := by omega); (try have hw42 : w.heap.size + 1 + 1 < w4.heap.size := by omega); (try have hw43 : w.heap.size + 1 + 1 + 1 < w4.heap.size := by omega); (try have hx4_0 : w1.heap.size < w4.heap.size := by omega)) | (go_at_call 29; (with_reducible refine (HC.out _).mono ?_); rintro e w5 ⟨rfl, hb5⟩; obtain ⟨hc5, hf5⟩ := bcell hb5; have hz5 := hb5.size; (try simp at hz5); (try have hy5 := Nat.lt_of_succ_le hz5); (try have hv5 := Nat.lt_of_succ_lt hy5); (try have hw50 : w.heap.size < w5.heap.size := by omega); (try have hw51 : w.heap.size + 1 < w5.heap.size := by omega); (try have hw52 : w.heap.size + 1 + 1 < w5.heap.size := by omega); (try have hw53 : w.heap.size + 1 + 1 + 1 < w5.heap.size := by omega); (try have hx5_0 : w1.heap.size < w5.heap.size := by omega)) | (go_at_call 62; refine (r2_one _ _).mono ?_; rintro e w6 ⟨rfl, rfl⟩))
  go_ret2
  exact ⟨rfl, (by repeat (first | (with_reducible assumption) | (with_reducible exact Below.refl _ _) | (with_reducible refine Below.alloc ?_ (by first | omega | (simp; omega) | (simp; done) | (dsimp only; omega)) _) | (with_reducible refine Below.setCell ?_ (by first | omega | (simp; omega) | (simp; done) | (dsimp only; omega)) _) | (with_reducible refine Below.drew ?_) | (with_reducible refine Below.trans ?_ (Below.mono (by assumption) (by first | omega | (simp; omega) | (simp; done) | (dsimp only; omega))))))⟩

set_option maxHeartbeats 2000000 in
theorem r2_do_17_ft (a b : Int) (ha : I64 a) (hb : I64 b) (h1 : (a != 0) = false) (h2 : (b != 0) = true) (w : World) :
    Calls Try.prog 37 #[.int .i64 17, .int .i64 a, .int .i64 b] w fun e w' =>
      e = .returned (.tuple #[.int .i64 1, .int .i64 0]) ∧ Below w.heap.size w w' := by
  have HX := Lib.hid (r2_exact_no 17 a b (by omega) (by omega) (by omega))
  have HA := Lib.hid (r_of a ha)
  have HB := Lib.hid (r_of b hb)
  have hs := fun w => r_sub (hiW a) (loW a) (hiW b) (loW b) (U64.lo _) (U64.lo _) w
  rw [wv_hilo, wv_hilo, wrap128_id (sub_I128 ha hb)] at hs
  have HS := Lib.hid hs
  have hc := fun w => r_cmp (hiW (a - b)) (loW (a - b)) 0 0 (I64_hi (sub_I128 ha hb)) (U64.lo _) (by unfold I64; omega) U64_0 w
  rw [wv_hilo, wv00] at hc
  generalize cmpI (a - b) 0 = c at *
  have HC := Lib.hid hc
  clear hs hc ha hb
  go_enter Try.func37, Try.ntmps37
  go_wp2_with (first | (go_at_call 42; (with_reducible refine (HX.out _).mono ?_); rintro e w1 ⟨rfl, hb1⟩; obtain ⟨hc1, hf1⟩ := bcell hb1; have hz1 := hb1.size; (try simp at hz1); (try have hy1 := Nat.lt_of_succ_le hz1); (try have hv1 := Nat.lt_of_succ_lt hy1); (try have hw10 : w.heap.size < w1.heap.size := by omega); (try have hw11 : w.heap.size + 1 < w1.heap.size := by omega); (try have hw12 : w.heap.size + 1 + 1 < w1.heap.size := by omega); (try have hw13 : w.heap.size + 1 + 1 + 1 < w1.heap.size := by omega)) | (go_at_call 25; (with_reducible refine (HA.out _).mono ?_); rintro e w2 ⟨rfl, hb2⟩; obtain ⟨hc2, hf2⟩ := bcell hb2; have hz2 := hb2.size; (try simp at hz2); (try have hy2 := Nat.lt_of_succ_le hz2); (try have hv2 := Nat.lt_of_succ_lt hy2); (try have hw20 : w.heap.size < w2.heap.size := by omega); (try have hw21 : w.heap.size + 1 < w2.heap.size := by omega); (try have hw22 : w.heap.size + 1 + 1 < w2.heap.size := by omega); (try have hw23 : w.heap.size + 1 + 1 + 1 < w2.heap.size := by omega); (try have hx2_0 : w1.heap.size < w2.heap.size := by omega)) | (go_at_call 25; (with_reducible refine (HB.out _).mono ?_); rintro e w3 ⟨rfl, hb3⟩; obtain ⟨hc3, hf3⟩ := bcell hb3; have hz3 := hb3.size; (try simp at hz3); (try have hy3 := Nat.lt_of_succ_le hz3); (try have hv3 := Nat.lt_of_succ_lt hy3); (try have hw30 : w.heap.size < w3.heap.size := by omega); (try have hw31 : w.heap.size + 1 < w3.heap.size := by omega); (try have hw32 : w.heap.size + 1 + 1 < w3.heap.size := by omega); (try have hw33 : w.heap.size + 1 + 1 + 1 < w3.heap.size := by omega); (try have hx3_0 : w1.heap.size < w3.heap.size := by omega)) | (go_at_call 18; (with_reducible refine (HS.out _).mono ?_); rintro e w4 ⟨rfl, hb4⟩; obtain ⟨hc4, hf4⟩ := bcell hb4; have hz4 := hb4.size; (try simp at hz4); (try have hy4 := Nat.lt_of_succ_le hz4); (try have hv4 := Nat.lt_of_succ_lt hy4); (try have hw40 : w.heap.size < w4.heap.size := by omega); (try have hw41 : w.heap.size + 1 < w4.heap.size := by omega); (try have hw42 : w.heap.size + 1 + 1 < w4.heap.size := by omega); (try have hw43 : w.heap.size + 1 + 1 + 1 < w4.heap.size := by omega); (try have hx4_0 : w1.heap.size < w4.heap.size := by omega)) | (go_at_call 29; (with_reducible refine (HC.out _).mono ?_); rintro e w5 ⟨rfl, hb5⟩; obtain ⟨hc5, hf5⟩ := bcell hb5; have hz5 := hb5.size; (try simp at hz5); (try have hy5 := Nat.lt_of_succ_le hz5); (try have hv5 := Nat.lt_of_succ_lt hy5); (try have hw50 : w.heap.size < w5.heap.size := by omega); (try have hw51 : w.heap.size + 1 < w5.heap.size := by omega); (try have hw52 : w.heap.size + 1 + 1 < w5.heap.size := by omega); (try have hw53 : w.heap.size + 1 + 1 + 1 < w5.heap.size := by omega); (try have hx5_0 : w1.heap.size < w5.heap.size := by omega)) | (go_at_call 62; refine (r2_one _ _).mono ?_; rintro e w6 ⟨rfl, rfl⟩))
  go_ret2
  exact ⟨rfl, (by repeat (first | (with_reducible assumption) | (with_reducible exact Below.refl _ _) | (with_reducible refine Below.alloc ?_ (by first | omega | (simp; omega) | (simp; done) | (dsimp only; omega)) _) | (with_reducible refine Below.setCell ?_ (by first | omega | (simp; omega) | (simp; done) | (dsimp only; omega)) _) | (with_reducible refine Below.drew ?_) | (with_reducible refine Below.trans ?_ (Below.mono (by assumption) (by first | omega | (simp; omega) | (simp; done) | (dsimp only; omega))))))⟩

set_option maxHeartbeats 2000000 in
theorem r2_do_16_tf (a b : Int) (ha : I64 a) (hb : I64 b) (h1 : (a != 0) = true) (h2 : (b != 0) = false) (w : World) :
    Calls Try.prog 37 #[.int .i64 16, .int .i64 a, .int .i64 b] w fun e w' =>
      e = .returned (.tuple #[.int .i64 0, .int .i64 0]) ∧ Below w.heap.size w w' := by
  have HX := Lib.hid (r2_exact_no 16 a b (by omega) (by omega) (by omega))
  have HA := Lib.hid (r_of a ha)
  have HB := Lib.hid (r_of b hb)
  have hs := fun w => r_sub (hiW a) (loW a) (hiW b) (loW b) (U64.lo _) (U64.lo _) w
  rw [wv_hilo, wv_hilo, wrap128_id (sub_I128 ha hb)] at hs
  have HS := Lib.hid hs
  have hc := fun w => r_cmp (hiW (a - b)) (loW (a - b)) 0 0 (I64_hi (sub_I128 ha hb)) (U64.lo _) (by unfold I64; omega) U64_0 w
  rw [wv_hilo, wv00] at hc
  generalize cmpI (a - b) 0 = c at *
  have HC := Lib.hid hc
  clear hs hc ha hb
  go_enter Try.func37, Try.ntmps37
  go_wp2_with (first | (go_at_call 42; (with_reducible refine (HX.out _).mono ?_); rintro e w1 ⟨rfl, hb1⟩; obtain ⟨hc1, hf1⟩ := bcell hb1; have hz1 := hb1.size; (try simp at hz1); (try have hy1 := Nat.lt_of_succ_le hz1); (try have hv1 := Nat.lt_of_succ_lt hy1); (try have hw10 : w.heap.size < w1.heap.size := by omega); (try have hw11 : w.heap.size + 1 < w1.heap.size := by omega); (try have hw12 : w.heap.size + 1 + 1 < w1.heap.size := by omega); (try have hw13 : w.heap.size + 1 + 1 + 1 < w1.heap.size := by omega)) | (go_at_call 25; (with_reducible refine (HA.out _).mono ?_); rintro e w2 ⟨rfl, hb2⟩; obtain ⟨hc2, hf2⟩ := bcell hb2; have hz2 := hb2.size; (try simp at hz2); (try have hy2 := Nat.lt_of_succ_le hz2); (try have hv2 := Nat.lt_of_succ_lt hy2); (try have hw20 : w.heap.size < w2.heap.size := by omega); (try have hw21 : w.heap.size + 1 < w2.heap.size := by omega); (try have hw22 : w.heap.size + 1 + 1 < w2.heap.size := by omega); (try have hw23 : w.heap.size + 1 + 1 + 1 < w2.heap.size := by omega); (try have hx2_0 : w1.heap.size < w2.heap.size := by omega)) | (go_at_call 25; (with_reducible refine (HB.out _).mono ?_); rintro e w3 ⟨rfl, hb3⟩; obtain ⟨hc3, hf3⟩ := bcell hb3; have hz3 := hb3.size; (try simp at hz3); (try have hy3 := Nat.lt_of_succ_le hz3); (try have hv3 := Nat.lt_of_succ_lt hy3); (try have hw30 : w.heap.size < w3.heap.size := by omega); (try have hw31 : w.heap.size + 1 < w3.heap.size := by omega); (try have hw32 : w.heap.size + 1 + 1 < w3.heap.size := by omega); (try have hw33 : w.heap.size + 1 + 1 + 1 < w3.heap.size := by omega); (try have hx3_0 : w1.heap.size < w3.heap.size := by omega)) | (go_at_call 18; (with_reducible refine (HS.out _).mono ?_); rintro e w4 ⟨rfl, hb4⟩; obtain ⟨hc4, hf4⟩ := bcell hb4; have hz4 := hb4.size; (try simp at hz4); (try have hy4 := Nat.lt_of_succ_le hz4); (try have hv4 := Nat.lt_of_succ_lt hy4); (try have hw40 : w.heap.size < w4.heap.size := by omega); (try have hw41 : w.heap.size + 1 < w4.heap.size := by omega); (try have hw42 : w.heap.size + 1 + 1 < w4.heap.size := by omega); (try have hw43 : w.heap.size + 1 + 1 + 1 < w4.heap.size := by omega); (try have hx4_0 : w1.heap.size < w4.heap.size := by omega)) | (go_at_call 29; (with_reducible refine (HC.out _).mono ?_); rintro e w5 ⟨rfl, hb5⟩; obtain ⟨hc5, hf5⟩ := bcell hb5; have hz5 := hb5.size; (try simp at hz5); (try have hy5 := Nat.lt_of_succ_le hz5); (try have hv5 := Nat.lt_of_succ_lt hy5); (try have hw50 : w.heap.size < w5.heap.size := by omega); (try have hw51 : w.heap.size + 1 < w5.heap.size := by omega); (try have hw52 : w.heap.size + 1 + 1 < w5.heap.size := by omega); (try have hw53 : w.heap.size + 1 + 1 + 1 < w5.heap.size := by omega); (try have hx5_0 : w1.heap.size < w5.heap.size := by omega)) | (go_at_call 62; refine (r2_one _ _).mono ?_; rintro e w6 ⟨rfl, rfl⟩))
  go_ret2
  exact ⟨rfl, (by repeat (first | (with_reducible assumption) | (with_reducible exact Below.refl _ _) | (with_reducible refine Below.alloc ?_ (by first | omega | (simp; omega) | (simp; done) | (dsimp only; omega)) _) | (with_reducible refine Below.setCell ?_ (by first | omega | (simp; omega) | (simp; done) | (dsimp only; omega)) _) | (with_reducible refine Below.drew ?_) | (with_reducible refine Below.trans ?_ (Below.mono (by assumption) (by first | omega | (simp; omega) | (simp; done) | (dsimp only; omega))))))⟩

set_option maxHeartbeats 2000000 in
theorem r2_do_17_tf (a b : Int) (ha : I64 a) (hb : I64 b) (h1 : (a != 0) = true) (_h2 : (b != 0) = false) (w : World) :
    Calls Try.prog 37 #[.int .i64 17, .int .i64 a, .int .i64 b] w fun e w' =>
      e = .returned (.tuple #[.int .i64 1, .int .i64 0]) ∧ Below w.heap.size w w' := by
  have HX := Lib.hid (r2_exact_no 17 a b (by omega) (by omega) (by omega))
  have HA := Lib.hid (r_of a ha)
  have HB := Lib.hid (r_of b hb)
  have hs := fun w => r_sub (hiW a) (loW a) (hiW b) (loW b) (U64.lo _) (U64.lo _) w
  rw [wv_hilo, wv_hilo, wrap128_id (sub_I128 ha hb)] at hs
  have HS := Lib.hid hs
  have hc := fun w => r_cmp (hiW (a - b)) (loW (a - b)) 0 0 (I64_hi (sub_I128 ha hb)) (U64.lo _) (by unfold I64; omega) U64_0 w
  rw [wv_hilo, wv00] at hc
  generalize cmpI (a - b) 0 = c at *
  have HC := Lib.hid hc
  clear hs hc ha hb
  go_enter Try.func37, Try.ntmps37
  go_wp2_with (first | (go_at_call 42; (with_reducible refine (HX.out _).mono ?_); rintro e w1 ⟨rfl, hb1⟩; obtain ⟨hc1, hf1⟩ := bcell hb1; have hz1 := hb1.size; (try simp at hz1); (try have hy1 := Nat.lt_of_succ_le hz1); (try have hv1 := Nat.lt_of_succ_lt hy1); (try have hw10 : w.heap.size < w1.heap.size := by omega); (try have hw11 : w.heap.size + 1 < w1.heap.size := by omega); (try have hw12 : w.heap.size + 1 + 1 < w1.heap.size := by omega); (try have hw13 : w.heap.size + 1 + 1 + 1 < w1.heap.size := by omega)) | (go_at_call 25; (with_reducible refine (HA.out _).mono ?_); rintro e w2 ⟨rfl, hb2⟩; obtain ⟨hc2, hf2⟩ := bcell hb2; have hz2 := hb2.size; (try simp at hz2); (try have hy2 := Nat.lt_of_succ_le hz2); (try have hv2 := Nat.lt_of_succ_lt hy2); (try have hw20 : w.heap.size < w2.heap.size := by omega); (try have hw21 : w.heap.size + 1 < w2.heap.size := by omega); (try have hw22 : w.heap.size + 1 + 1 < w2.heap.size := by omega); (try have hw23 : w.heap.size + 1 + 1 + 1 < w2.heap.size := by omega); (try have hx2_0 : w1.heap.size < w2.heap.size := by omega)) | (go_at_call 25; (with_reducible refine (HB.out _).mono ?_); rintro e w3 ⟨rfl, hb3⟩; obtain ⟨hc3, hf3⟩ := bcell hb3; have hz3 := hb3.size; (try simp at hz3); (try have hy3 := Nat.lt_of_succ_le hz3); (try have hv3 := Nat.lt_of_succ_lt hy3); (try have hw30 : w.heap.size < w3.heap.size := by omega); (try have hw31 : w.heap.size + 1 < w3.heap.size := by omega); (try have hw32 : w.heap.size + 1 + 1 < w3.heap.size := by omega); (try have hw33 : w.heap.size + 1 + 1 + 1 < w3.heap.size := by omega); (try have hx3_0 : w1.heap.size < w3.heap.size := by omega)) | (go_at_call 18; (with_reducible refine (HS.out _).mono ?_); rintro e w4 ⟨rfl, hb4⟩; obtain ⟨hc4, hf4⟩ := bcell hb4; have hz4 := hb4.size; (try simp at hz4); (try have hy4 := Nat.lt_of_succ_le hz4); (try have hv4 := Nat.lt_of_succ_lt hy4); (try have hw40 : w.heap.size < w4.heap.size := by omega); (try have hw41 : w.heap.size + 1 < w4.heap.size := by omega); (try have hw42 : w.heap.size + 1 + 1 < w4.heap.size := by omega); (try have hw43 : w.heap.size + 1 + 1 + 1 < w4.heap.size := by omega); (try have hx4_0 : w1.heap.size < w4.heap.size := by omega)) | (go_at_call 29; (with_reducible refine (HC.out _).mono ?_); rintro e w5 ⟨rfl, hb5⟩; obtain ⟨hc5, hf5⟩ := bcell hb5; have hz5 := hb5.size; (try simp at hz5); (try have hy5 := Nat.lt_of_succ_le hz5); (try have hv5 := Nat.lt_of_succ_lt hy5); (try have hw50 : w.heap.size < w5.heap.size := by omega); (try have hw51 : w.heap.size + 1 < w5.heap.size := by omega); (try have hw52 : w.heap.size + 1 + 1 < w5.heap.size := by omega); (try have hw53 : w.heap.size + 1 + 1 + 1 < w5.heap.size := by omega); (try have hx5_0 : w1.heap.size < w5.heap.size := by omega)) | (go_at_call 62; refine (r2_one _ _).mono ?_; rintro e w6 ⟨rfl, rfl⟩))
  go_ret2
  exact ⟨rfl, (by repeat (first | (with_reducible assumption) | (with_reducible exact Below.refl _ _) | (with_reducible refine Below.alloc ?_ (by first | omega | (simp; omega) | (simp; done) | (dsimp only; omega)) _) | (with_reducible refine Below.setCell ?_ (by first | omega | (simp; omega) | (simp; done) | (dsimp only; omega)) _) | (with_reducible refine Below.drew ?_) | (with_reducible refine Below.trans ?_ (Below.mono (by assumption) (by first | omega | (simp; omega) | (simp; done) | (dsimp only; omega))))))⟩

set_option maxHeartbeats 2000000 in
theorem r2_do_16_tt (a b : Int) (ha : I64 a) (hb : I64 b) (h1 : (a != 0) = true) (h2 : (b != 0) = true) (w : World) :
    Calls Try.prog 37 #[.int .i64 16, .int .i64 a, .int .i64 b] w fun e w' =>
      e = .returned (.tuple #[.int .i64 1, .int .i64 0]) ∧ Below w.heap.size w w' := by
  have HX := Lib.hid (r2_exact_no 16 a b (by omega) (by omega) (by omega))
  have HA := Lib.hid (r_of a ha)
  have HB := Lib.hid (r_of b hb)
  have hs := fun w => r_sub (hiW a) (loW a) (hiW b) (loW b) (U64.lo _) (U64.lo _) w
  rw [wv_hilo, wv_hilo, wrap128_id (sub_I128 ha hb)] at hs
  have HS := Lib.hid hs
  have hc := fun w => r_cmp (hiW (a - b)) (loW (a - b)) 0 0 (I64_hi (sub_I128 ha hb)) (U64.lo _) (by unfold I64; omega) U64_0 w
  rw [wv_hilo, wv00] at hc
  generalize cmpI (a - b) 0 = c at *
  have HC := Lib.hid hc
  clear hs hc ha hb
  go_enter Try.func37, Try.ntmps37
  go_wp2_with (first | (go_at_call 42; (with_reducible refine (HX.out _).mono ?_); rintro e w1 ⟨rfl, hb1⟩; obtain ⟨hc1, hf1⟩ := bcell hb1; have hz1 := hb1.size; (try simp at hz1); (try have hy1 := Nat.lt_of_succ_le hz1); (try have hv1 := Nat.lt_of_succ_lt hy1); (try have hw10 : w.heap.size < w1.heap.size := by omega); (try have hw11 : w.heap.size + 1 < w1.heap.size := by omega); (try have hw12 : w.heap.size + 1 + 1 < w1.heap.size := by omega); (try have hw13 : w.heap.size + 1 + 1 + 1 < w1.heap.size := by omega)) | (go_at_call 25; (with_reducible refine (HA.out _).mono ?_); rintro e w2 ⟨rfl, hb2⟩; obtain ⟨hc2, hf2⟩ := bcell hb2; have hz2 := hb2.size; (try simp at hz2); (try have hy2 := Nat.lt_of_succ_le hz2); (try have hv2 := Nat.lt_of_succ_lt hy2); (try have hw20 : w.heap.size < w2.heap.size := by omega); (try have hw21 : w.heap.size + 1 < w2.heap.size := by omega); (try have hw22 : w.heap.size + 1 + 1 < w2.heap.size := by omega); (try have hw23 : w.heap.size + 1 + 1 + 1 < w2.heap.size := by omega); (try have hx2_0 : w1.heap.size < w2.heap.size := by omega)) | (go_at_call 25; (with_reducible refine (HB.out _).mono ?_); rintro e w3 ⟨rfl, hb3⟩; obtain ⟨hc3, hf3⟩ := bcell hb3; have hz3 := hb3.size; (try simp at hz3); (try have hy3 := Nat.lt_of_succ_le hz3); (try have hv3 := Nat.lt_of_succ_lt hy3); (try have hw30 : w.heap.size < w3.heap.size := by omega); (try have hw31 : w.heap.size + 1 < w3.heap.size := by omega); (try have hw32 : w.heap.size + 1 + 1 < w3.heap.size := by omega); (try have hw33 : w.heap.size + 1 + 1 + 1 < w3.heap.size := by omega); (try have hx3_0 : w1.heap.size < w3.heap.size := by omega)) | (go_at_call 18; (with_reducible refine (HS.out _).mono ?_); rintro e w4 ⟨rfl, hb4⟩; obtain ⟨hc4, hf4⟩ := bcell hb4; have hz4 := hb4.size; (try simp at hz4); (try have hy4 := Nat.lt_of_succ_le hz4); (try have hv4 := Nat.lt_of_succ_lt hy4); (try have hw40 : w.heap.size < w4.heap.size := by omega); (try have hw41 : w.heap.size + 1 < w4.heap.size := by omega); (try have hw42 : w.heap.size + 1 + 1 < w4.heap.size := by omega); (try have hw43 : w.heap.size + 1 + 1 + 1 < w4.heap.size := by omega); (try have hx4_0 : w1.heap.size < w4.heap.size := by omega)) | (go_at_call 29; (with_reducible refine (HC.out _).mono ?_); rintro e w5 ⟨rfl, hb5⟩; obtain ⟨hc5, hf5⟩ := bcell hb5; have hz5 := hb5.size; (try simp at hz5); (try have hy5 := Nat.lt_of_succ_le hz5); (try have hv5 := Nat.lt_of_succ_lt hy5); (try have hw50 : w.heap.size < w5.heap.size := by omega); (try have hw51 : w.heap.size + 1 < w5.heap.size := by omega); (try have hw52 : w.heap.size + 1 + 1 < w5.heap.size := by omega); (try have hw53 : w.heap.size + 1 + 1 + 1 < w5.heap.size := by omega); (try have hx5_0 : w1.heap.size < w5.heap.size := by omega)) | (go_at_call 62; refine (r2_one _ _).mono ?_; rintro e w6 ⟨rfl, rfl⟩))
  go_ret2
  exact ⟨rfl, (by repeat (first | (with_reducible assumption) | (with_reducible exact Below.refl _ _) | (with_reducible refine Below.alloc ?_ (by first | omega | (simp; omega) | (simp; done) | (dsimp only; omega)) _) | (with_reducible refine Below.setCell ?_ (by first | omega | (simp; omega) | (simp; done) | (dsimp only; omega)) _) | (with_reducible refine Below.drew ?_) | (with_reducible refine Below.trans ?_ (Below.mono (by assumption) (by first | omega | (simp; omega) | (simp; done) | (dsimp only; omega))))))⟩

set_option maxHeartbeats 2000000 in
theorem r2_do_17_tt (a b : Int) (ha : I64 a) (hb : I64 b) (h1 : (a != 0) = true) (_h2 : (b != 0) = true) (w : World) :
    Calls Try.prog 37 #[.int .i64 17, .int .i64 a, .int .i64 b] w fun e w' =>
      e = .returned (.tuple #[.int .i64 1, .int .i64 0]) ∧ Below w.heap.size w w' := by
  have HX := Lib.hid (r2_exact_no 17 a b (by omega) (by omega) (by omega))
  have HA := Lib.hid (r_of a ha)
  have HB := Lib.hid (r_of b hb)
  have hs := fun w => r_sub (hiW a) (loW a) (hiW b) (loW b) (U64.lo _) (U64.lo _) w
  rw [wv_hilo, wv_hilo, wrap128_id (sub_I128 ha hb)] at hs
  have HS := Lib.hid hs
  have hc := fun w => r_cmp (hiW (a - b)) (loW (a - b)) 0 0 (I64_hi (sub_I128 ha hb)) (U64.lo _) (by unfold I64; omega) U64_0 w
  rw [wv_hilo, wv00] at hc
  generalize cmpI (a - b) 0 = c at *
  have HC := Lib.hid hc
  clear hs hc ha hb
  go_enter Try.func37, Try.ntmps37
  go_wp2_with (first | (go_at_call 42; (with_reducible refine (HX.out _).mono ?_); rintro e w1 ⟨rfl, hb1⟩; obtain ⟨hc1, hf1⟩ := bcell hb1; have hz1 := hb1.size; (try simp at hz1); (try have hy1 := Nat.lt_of_succ_le hz1); (try have hv1 := Nat.lt_of_succ_lt hy1); (try have hw10 : w.heap.size < w1.heap.size := by omega); (try have hw11 : w.heap.size + 1 < w1.heap.size := by omega); (try have hw12 : w.heap.size + 1 + 1 < w1.heap.size := by omega); (try have hw13 : w.heap.size + 1 + 1 + 1 < w1.heap.size := by omega)) | (go_at_call 25; (with_reducible refine (HA.out _).mono ?_); rintro e w2 ⟨rfl, hb2⟩; obtain ⟨hc2, hf2⟩ := bcell hb2; have hz2 := hb2.size; (try simp at hz2); (try have hy2 := Nat.lt_of_succ_le hz2); (try have hv2 := Nat.lt_of_succ_lt hy2); (try have hw20 : w.heap.size < w2.heap.size := by omega); (try have hw21 : w.heap.size + 1 < w2.heap.size := by omega); (try have hw22 : w.heap.size + 1 + 1 < w2.heap.size := by omega); (try have hw23 : w.heap.size + 1 + 1 + 1 < w2.heap.size := by omega); (try have hx2_0 : w1.heap.size < w2.heap.size := by omega)) | (go_at_call 25; (with_reducible refine (HB.out _).mono ?_); rintro e w3 ⟨rfl, hb3⟩; obtain ⟨hc3, hf3⟩ := bcell hb3; have hz3 := hb3.size; (try simp at hz3); (try have hy3 := Nat.lt_of_succ_le hz3); (try have hv3 := Nat.lt_of_succ_lt hy3); (try have hw30 : w.heap.size < w3.heap.size := by omega); (try have hw31 : w.heap.size + 1 < w3.heap.size := by omega); (try have hw32 : w.heap.size + 1 + 1 < w3.heap.size := by omega); (try have hw33 : w.heap.size + 1 + 1 + 1 < w3.heap.size := by omega); (try have hx3_0 : w1.heap.size < w3.heap.size := by omega)) | (go_at_call 18; (with_reducible refine (HS.out _).mono ?_); rintro e w4 ⟨rfl, hb4⟩; obtain ⟨hc4, hf4⟩ := bcell hb4; have hz4 := hb4.size; (try simp at hz4); (try have hy4 := Nat.lt_of_succ_le hz4); (try have hv4 := Nat.lt_of_succ_lt hy4); (try have hw40 : w.heap.size < w4.heap.size := by omega); (try have hw41 : w.heap.size + 1 < w4.heap.size := by omega); (try have hw42 : w.heap.size + 1 + 1 < w4.heap.size := by omega); (try have hw43 : w.heap.size + 1 + 1 + 1 < w4.heap.size := by omega); (try have hx4_0 : w1.heap.size < w4.heap.size := by omega)) | (go_at_call 29; (with_reducible refine (HC.out _).mono ?_); rintro e w5 ⟨rfl, hb5⟩; obtain ⟨hc5, hf5⟩ := bcell hb5; have hz5 := hb5.size; (try simp at hz5); (try have hy5 := Nat.lt_of_succ_le hz5); (try have hv5 := Nat.lt_of_succ_lt hy5); (try have hw50 : w.heap.size < w5.heap.size := by omega); (try have hw51 : w.heap.size + 1 < w5.heap.size := by omega); (try have hw52 : w.heap.size + 1 + 1 < w5.heap.size := by omega); (try have hw53 : w.heap.size + 1 + 1 + 1 < w5.heap.size := by omega); (try have hx5_0 : w1.heap.size < w5.heap.size := by omega)) | (go_at_call 62; refine (r2_one _ _).mono ?_; rintro e w6 ⟨rfl, rfl⟩))
  go_ret2
  exact ⟨rfl, (by repeat (first | (with_reducible assumption) | (with_reducible exact Below.refl _ _) | (with_reducible refine Below.alloc ?_ (by first | omega | (simp; omega) | (simp; done) | (dsimp only; omega)) _) | (with_reducible refine Below.setCell ?_ (by first | omega | (simp; omega) | (simp; done) | (dsimp only; omega)) _) | (with_reducible refine Below.drew ?_) | (with_reducible refine Below.trans ?_ (Below.mono (by assumption) (by first | omega | (simp; omega) | (simp; done) | (dsimp only; omega))))))⟩

set_option maxHeartbeats 2000000 in
theorem r2_do_other (op a b : Int) (ha : I64 a) (hb : I64 b) (h7 : ¬ op = 7) (h8 : ¬ op = 8) (h9 : ¬ op = 9) (h10 : ¬ op = 10) (h11 : ¬ op = 11) (h12 : ¬ op = 12) (h13 : ¬ op = 13) (h14 : ¬ op = 14) (h15 : ¬ op = 15) (h16 : ¬ op = 16) (h17 : ¬ op = 17) (w : World) :
    Calls Try.prog 37 #[.int .i64 op, .int .i64 a, .int .i64 b] w fun e w' =>
      e = .returned (.tuple #[.int .i64 0, .int .i64 2]) ∧ Below w.heap.size w w' := by
  have HX := Lib.hid (r2_exact_no op a b h10 h11 h7)
  have HA := Lib.hid (r_of a ha)
  have HB := Lib.hid (r_of b hb)
  have hs := fun w => r_sub (hiW a) (loW a) (hiW b) (loW b) (U64.lo _) (U64.lo _) w
  rw [wv_hilo, wv_hilo, wrap128_id (sub_I128 ha hb)] at hs
  have HS := Lib.hid hs
  have hc := fun w => r_cmp (hiW (a - b)) (loW (a - b)) 0 0 (I64_hi (sub_I128 ha hb)) (U64.lo _) (by unfold I64; omega) U64_0 w
  rw [wv_hilo, wv00] at hc
  generalize cmpI (a - b) 0 = c at *
  have HC := Lib.hid hc
  clear hs hc ha hb
  go_enter Try.func37, Try.ntmps37
  go_wp2_with (first | (go_at_call 42; (with_reducible refine (HX.out _).mono ?_); rintro e w1 ⟨rfl, hb1⟩; obtain ⟨hc1, hf1⟩ := bcell hb1; have hz1 := hb1.size; (try simp at hz1); (try have hy1 := Nat.lt_of_succ_le hz1); (try have hv1 := Nat.lt_of_succ_lt hy1); (try have hw10 : w.heap.size < w1.heap.size := by omega); (try have hw11 : w.heap.size + 1 < w1.heap.size := by omega); (try have hw12 : w.heap.size + 1 + 1 < w1.heap.size := by omega); (try have hw13 : w.heap.size + 1 + 1 + 1 < w1.heap.size := by omega)) | (go_at_call 25; (with_reducible refine (HA.out _).mono ?_); rintro e w2 ⟨rfl, hb2⟩; obtain ⟨hc2, hf2⟩ := bcell hb2; have hz2 := hb2.size; (try simp at hz2); (try have hy2 := Nat.lt_of_succ_le hz2); (try have hv2 := Nat.lt_of_succ_lt hy2); (try have hw20 : w.heap.size < w2.heap.size := by omega); (try have hw21 : w.heap.size + 1 < w2.heap.size := by omega); (try have hw22 : w.heap.size + 1 + 1 < w2.heap.size := by omega); (try have hw23 : w.heap.size + 1 + 1 + 1 < w2.heap.size := by omega); (try have hx2_0 : w1.heap.size < w2.heap.size := by omega)) | (go_at_call 25; (with_reducible refine (HB.out _).mono ?_); rintro e w3 ⟨rfl, hb3⟩; obtain ⟨hc3, hf3⟩ := bcell hb3; have hz3 := hb3.size; (try simp at hz3); (try have hy3 := Nat.lt_of_succ_le hz3); (try have hv3 := Nat.lt_of_succ_lt hy3); (try have hw30 : w.heap.size < w3.heap.size := by omega); (try have hw31 : w.heap.size + 1 < w3.heap.size := by omega); (try have hw32 : w.heap.size + 1 + 1 < w3.heap.size := by omega); (try have hw33 : w.heap.size + 1 + 1 + 1 < w3.heap.size := by omega); (try have hx3_0 : w1.heap.size < w3.heap.size := by omega)) | (go_at_call 18; (with_reducible refine (HS.out _).mono ?_); rintro e w4 ⟨rfl, hb4⟩; obtain ⟨hc4, hf4⟩ := bcell hb4; have hz4 := hb4.size; (try simp at hz4); (try have hy4 := Nat.lt_of_succ_le hz4); (try have hv4 := Nat.lt_of_succ_lt hy4); (try have hw40 : w.heap.size < w4.heap.size := by omega); (try have hw41 : w.heap.size + 1 < w4.heap.size := by omega); (try have hw42 : w.heap.size + 1 + 1 < w4.heap.size := by omega); (try have hw43 : w.heap.size + 1 + 1 + 1 < w4.heap.size := by omega); (try have hx4_0 : w1.heap.size < w4.heap.size := by omega)) | (go_at_call 29; (with_reducible refine (HC.out _).mono ?_); rintro e w5 ⟨rfl, hb5⟩; obtain ⟨hc5, hf5⟩ := bcell hb5; have hz5 := hb5.size; (try simp at hz5); (try have hy5 := Nat.lt_of_succ_le hz5); (try have hv5 := Nat.lt_of_succ_lt hy5); (try have hw50 : w.heap.size < w5.heap.size := by omega); (try have hw51 : w.heap.size + 1 < w5.heap.size := by omega); (try have hw52 : w.heap.size + 1 + 1 < w5.heap.size := by omega); (try have hw53 : w.heap.size + 1 + 1 + 1 < w5.heap.size := by omega); (try have hx5_0 : w1.heap.size < w5.heap.size := by omega)))
  go_ret2
  exact ⟨rfl, (by repeat (first | (with_reducible assumption) | (with_reducible exact Below.refl _ _) | (with_reducible refine Below.alloc ?_ (by first | omega | (simp; omega) | (simp; done) | (dsimp only; omega)) _) | (with_reducible refine Below.setCell ?_ (by first | omega | (simp; omega) | (simp; done) | (dsimp only; omega)) _) | (with_reducible refine Below.drew ?_) | (with_reducible refine Below.trans ?_ (Below.mono (by assumption) (by first | omega | (simp; omega) | (simp; done) | (dsimp only; omega))))))⟩

/-- The two answers are one: 'n' and 'x' on both sides. -/
theorem law_wrapDoes_of (op a b n x : Int) (h1 : ∀ w, Calls Try.prog 36 #[.int .i64 op, .int .i64 a, .int .i64 b] w fun e w' => e = .returned (.tuple #[.int .i64 n, .int .i64 x]) ∧ Below w.heap.size w w')
    (h2 : ∀ w, Calls Try.prog 37 #[.int .i64 op, .int .i64 a, .int .i64 b] w fun e w' => e = .returned (.tuple #[.int .i64 n, .int .i64 x]) ∧ Below w.heap.size w w') (w : World) :
    Calls Try.prog 8 #[.int .i64 op, .int .i64 a, .int .i64 b] w fun e w' => e = .returned (.bool true) ∧ Below w.heap.size w w' := by
  have H1 := Lib.hid h1
  have H2 := Lib.hid h2
  have H3 := Lib.hid law02_lives
  clear h1 h2
  go_enter Try.func8, Try.ntmps8
  go_wp2_with (first | (go_at_call 36; (with_reducible refine (H1.out _).mono ?_); rintro e w1 ⟨rfl, hb1⟩; obtain ⟨hc1, hf1⟩ := bcell hb1; have hz1 := hb1.size; (try simp at hz1); (try have hy1 := Nat.lt_of_succ_le hz1); (try have hv1 := Nat.lt_of_succ_lt hy1); (try have hw10 : w.heap.size < w1.heap.size := by omega); (try have hw11 : w.heap.size + 1 < w1.heap.size := by omega); (try have hw12 : w.heap.size + 1 + 1 < w1.heap.size := by omega); (try have hw13 : w.heap.size + 1 + 1 + 1 < w1.heap.size := by omega)) | (go_at_call 37; (with_reducible refine (H2.out _).mono ?_); rintro e w2 ⟨rfl, hb2⟩; obtain ⟨hc2, hf2⟩ := bcell hb2; have hz2 := hb2.size; (try simp at hz2); (try have hy2 := Nat.lt_of_succ_le hz2); (try have hv2 := Nat.lt_of_succ_lt hy2); (try have hw20 : w.heap.size < w2.heap.size := by omega); (try have hw21 : w.heap.size + 1 < w2.heap.size := by omega); (try have hw22 : w.heap.size + 1 + 1 < w2.heap.size := by omega); (try have hw23 : w.heap.size + 1 + 1 + 1 < w2.heap.size := by omega)) | (go_at_call 38; (with_reducible refine (H3.out _).mono ?_); rintro e w3 ⟨rfl, hb3⟩; obtain ⟨hc3, hf3⟩ := bcell hb3; have hz3 := hb3.size; (try simp at hz3); (try have hy3 := Nat.lt_of_succ_le hz3); (try have hv3 := Nat.lt_of_succ_lt hy3); (try have hw30 : w.heap.size < w3.heap.size := by omega); (try have hw31 : w.heap.size + 1 < w3.heap.size := by omega); (try have hw32 : w.heap.size + 1 + 1 < w3.heap.size := by omega); (try have hw33 : w.heap.size + 1 + 1 + 1 < w3.heap.size := by omega)))
  go_ret
  exact ⟨rfl, (by repeat (first | (with_reducible assumption) | (with_reducible exact Below.refl _ _) | (with_reducible refine Below.alloc ?_ (by first | omega | (simp; omega) | (simp; done) | (dsimp only; omega)) _) | (with_reducible refine Below.setCell ?_ (by first | omega | (simp; omega) | (simp; done) | (dsimp only; omega)) _) | (with_reducible refine Below.drew ?_) | (with_reducible refine Below.trans ?_ (Below.mono (by assumption) (by first | omega | (simp; omega) | (simp; done) | (dsimp only; omega))))))⟩

theorem law_wrapDoes (op a b : Int) (ha : I64 a) (hb : I64 b) (w : World) :
    Calls Try.prog 8 #[.int .i64 op, .int .i64 a, .int .i64 b] w fun e w' => e = .returned (.bool true) ∧ Below w.heap.size w w' := by
  by_cases hx : exB op = true
  · exact law_wrapDoes_of op a b _ _ (wrap_do_exact op a b ha hb hx) (r2_do_exact op a b ha hb hx) w
  have h10 : ¬ op = 10 := fun h => hx (by subst h; rfl)
  have h11 : ¬ op = 11 := fun h => hx (by subst h; rfl)
  have h7 : ¬ op = 7 := fun h => hx (by subst h; rfl)
  by_cases h8 : op = 8
  · subst h8
    by_cases h0 : b = 0
    · subst h0; exact law_wrapDoes_of 8 a 0 _ _ (wrap_do_8_0 a) (r2_do_8_0 a) w
    · have h0' : (b == 0) = false := by simpa using h0
      exact law_wrapDoes_of 8 a b _ _ (wrap_do_8 a b h0' h0) (r2_do_8 a b ha hb h0' h0) w
  by_cases h9 : op = 9
  · subst h9
    by_cases h0 : b = 0
    · subst h0; exact law_wrapDoes_of 9 a 0 _ _ (wrap_do_9_0 a) (r2_do_9_0 a) w
    · have h0' : (b == 0) = false := by simpa using h0
      exact law_wrapDoes_of 9 a b _ _ (wrap_do_9 a b h0' h0) (r2_do_9 a b ha hb h0' h0) w
  by_cases h12 : op = 12
  · subst h12
    rcases Int.lt_trichotomy a b with h | h | h
    · exact law_wrapDoes_of 12 a b _ _ (wrap_do_12_yes a b (by simpa using h)) (r2_do_12_lt a b ha hb h) w
    · exact law_wrapDoes_of 12 a b _ _ (wrap_do_12_no a b (by simp; omega)) (r2_do_12_eq a b ha hb h) w
    · exact law_wrapDoes_of 12 a b _ _ (wrap_do_12_no a b (by simp; omega)) (r2_do_12_gt a b ha hb h) w
  by_cases h13 : op = 13
  · subst h13
    rcases Int.lt_trichotomy a b with h | h | h
    · exact law_wrapDoes_of 13 a b _ _ (wrap_do_13_yes a b (by simp; omega)) (r2_do_13_lt a b ha hb h) w
    · exact law_wrapDoes_of 13 a b _ _ (wrap_do_13_yes a b (by simp; omega)) (r2_do_13_eq a b ha hb h) w
    · exact law_wrapDoes_of 13 a b _ _ (wrap_do_13_no a b (by simp; omega)) (r2_do_13_gt a b ha hb h) w
  by_cases h14 : op = 14
  · subst h14
    rcases Int.lt_trichotomy a b with h | h | h
    · exact law_wrapDoes_of 14 a b _ _ (wrap_do_14_no a b (by simp; omega)) (r2_do_14_lt a b ha hb h) w
    · exact law_wrapDoes_of 14 a b _ _ (by subst h; exact wrap_do_14_yes a) (r2_do_14_eq a b ha hb h) w
    · exact law_wrapDoes_of 14 a b _ _ (wrap_do_14_no a b (by simp; omega)) (r2_do_14_gt a b ha hb h) w
  by_cases h15 : op = 15
  · subst h15
    rcases Int.lt_trichotomy a b with h | h | h
    · exact law_wrapDoes_of 15 a b _ _ (wrap_do_15_yes a b (by simp; omega)) (r2_do_15_lt a b ha hb h) w
    · exact law_wrapDoes_of 15 a b _ _ (by subst h; exact wrap_do_15_no a) (r2_do_15_eq a b ha hb h) w
    · exact law_wrapDoes_of 15 a b _ _ (wrap_do_15_yes a b (by simp; omega)) (r2_do_15_gt a b ha hb h) w
  by_cases h16 : op = 16
  · subst h16
    cases h1 : a != 0 <;> cases h2 : b != 0
    · exact law_wrapDoes_of 16 a b _ _ (wrap_do_16_ff a b h1 h2) (r2_do_16_ff a b ha hb h1 h2) w
    · exact law_wrapDoes_of 16 a b _ _ (wrap_do_16_ft a b h1 h2) (r2_do_16_ft a b ha hb h1 h2) w
    · exact law_wrapDoes_of 16 a b _ _ (wrap_do_16_tf a b h1 h2) (r2_do_16_tf a b ha hb h1 h2) w
    · exact law_wrapDoes_of 16 a b _ _ (wrap_do_16_tt a b h1 h2) (r2_do_16_tt a b ha hb h1 h2) w
  by_cases h17 : op = 17
  · subst h17
    cases h1 : a != 0 <;> cases h2 : b != 0
    · exact law_wrapDoes_of 17 a b _ _ (wrap_do_17_ff a b h1 h2) (r2_do_17_ff a b ha hb h1 h2) w
    · exact law_wrapDoes_of 17 a b _ _ (wrap_do_17_ft a b h1 h2) (r2_do_17_ft a b ha hb h1 h2) w
    · exact law_wrapDoes_of 17 a b _ _ (wrap_do_17_tf a b h1 h2) (r2_do_17_tf a b ha hb h1 h2) w
    · exact law_wrapDoes_of 17 a b _ _ (wrap_do_17_tt a b h1 h2) (r2_do_17_tt a b ha hb h1 h2) w
  · exact law_wrapDoes_of op a b _ _ (wrap_do_other op a b h7 h8 h9 h10 h11 h12 h13 h14 h15 h16 h17) (r2_do_other op a b ha hb h7 h8 h9 h10 h11 h12 h13 h14 h15 h16 h17) w
end Go.Proofs.Ytphicgdllhmgdaa
