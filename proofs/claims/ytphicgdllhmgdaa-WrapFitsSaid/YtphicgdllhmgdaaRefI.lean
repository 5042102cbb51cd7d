/- wrap.Fits, and the law WrapFits, walked. -/
import Derived.Test.YtphicgdllhmgdaaRefH
namespace Go.Proofs.Ytphicgdllhmgdaa
open Go.RowKit

theorem do_any (op a b : Int) (ha : I64 a) (hb : I64 b) : ∃ n x : Int,
    (∀ w, Calls Try.prog 36 #[.int .i64 op, .int .i64 a, .int .i64 b] w fun e w' => e = .returned (.tuple #[.int .i64 n, .int .i64 x]) ∧ Below w.heap.size w w') := by
  have h : ∃ n x : Int, (∀ w, Calls Try.prog 36 #[.int .i64 op, .int .i64 a, .int .i64 b] w fun e w' => e = .returned (.tuple #[.int .i64 n, .int .i64 x]) ∧ Below w.heap.size w w')
      ∧ (∀ w, Calls Try.prog 37 #[.int .i64 op, .int .i64 a, .int .i64 b] w fun e w' => e = .returned (.tuple #[.int .i64 n, .int .i64 x]) ∧ Below w.heap.size w w') := by
    by_cases hx : exB op = true
    · exact ⟨_, _, (wrap_do_exact op a b ha hb hx), (r2_do_exact op a b ha hb hx)⟩
    have h10 : ¬ op = 10 := fun h => hx (by subst h; rfl)
    have h11 : ¬ op = 11 := fun h => hx (by subst h; rfl)
    have h7 : ¬ op = 7 := fun h => hx (by subst h; rfl)
    by_cases h8 : op = 8
    · subst h8
      by_cases h0 : b = 0
      · subst h0; exact ⟨_, _, (wrap_do_8_0 a), (r2_do_8_0 a)⟩
      · have h0' : (b == 0) = false := by simpa using h0
        exact ⟨_, _, (wrap_do_8 a b h0' h0), (r2_do_8 a b ha hb h0' h0)⟩
    by_cases h9 : op = 9
    · subst h9
      by_cases h0 : b = 0
      · subst h0; exact ⟨_, _, (wrap_do_9_0 a), (r2_do_9_0 a)⟩
      · have h0' : (b == 0) = false := by simpa using h0
        exact ⟨_, _, (wrap_do_9 a b h0' h0), (r2_do_9 a b ha hb h0' h0)⟩
    by_cases h12 : op = 12
    · subst h12
      rcases Int.lt_trichotomy a b with h | h | h
      · exact ⟨_, _, (wrap_do_12_yes a b (by simpa using h)), (r2_do_12_lt a b ha hb h)⟩
      · exact ⟨_, _, (wrap_do_12_no a b (by simp; omega)), (r2_do_12_eq a b ha hb h)⟩
      · exact ⟨_, _, (wrap_do_12_no a b (by simp; omega)), (r2_do_12_gt a b ha hb h)⟩
    by_cases h13 : op = 13
    · subst h13
      rcases Int.lt_trichotomy a b with h | h | h
      · exact ⟨_, _, (wrap_do_13_yes a b (by simp; omega)), (r2_do_13_lt a b ha hb h)⟩
      · exact ⟨_, _, (wrap_do_13_yes a b (by simp; omega)), (r2_do_13_eq a b ha hb h)⟩
      · exact ⟨_, _, (wrap_do_13_no a b (by simp; omega)), (r2_do_13_gt a b ha hb h)⟩
    by_cases h14 : op = 14
    · subst h14
      rcases Int.lt_trichotomy a b with h | h | h
      · exact ⟨_, _, (wrap_do_14_no a b (by simp; omega)), (r2_do_14_lt a b ha hb h)⟩
      · exact ⟨_, _, (by subst h; exact wrap_do_14_yes a), (r2_do_14_eq a b ha hb h)⟩
      · exact ⟨_, _, (wrap_do_14_no a b (by simp; omega)), (r2_do_14_gt a b ha hb h)⟩
    by_cases h15 : op = 15
    · subst h15
      rcases Int.lt_trichotomy a b with h | h | h
      · exact ⟨_, _, (wrap_do_15_yes a b (by simp; omega)), (r2_do_15_lt a b ha hb h)⟩
      · exact ⟨_, _, (by subst h; exact wrap_do_15_no a), (r2_do_15_eq a b ha hb h)⟩
      · exact ⟨_, _, (wrap_do_15_yes a b (by simp; omega)), (r2_do_15_gt a b ha hb h)⟩
    by_cases h16 : op = 16
    · subst h16
      cases h1 : a != 0 <;> cases h2 : b != 0
      · exact ⟨_, _, (wrap_do_16_ff a b h1 h2), (r2_do_16_ff a b ha hb h1 h2)⟩
      · exact ⟨_, _, (wrap_do_16_ft a b h1 h2), (r2_do_16_ft a b ha hb h1 h2)⟩
      · exact ⟨_, _, (wrap_do_16_tf a b h1 h2), (r2_do_16_tf a b ha hb h1 h2)⟩
      · exact ⟨_, _, (wrap_do_16_tt a b h1 h2), (r2_do_16_tt a b ha hb h1 h2)⟩
    by_cases h17 : op = 17
    · subst h17
      cases h1 : a != 0 <;> cases h2 : b != 0
      · exact ⟨_, _, (wrap_do_17_ff a b h1 h2), (r2_do_17_ff a b ha hb h1 h2)⟩
      · exact ⟨_, _, (wrap_do_17_ft a b h1 h2), (r2_do_17_ft a b ha hb h1 h2)⟩
      · exact ⟨_, _, (wrap_do_17_tf a b h1 h2), (r2_do_17_tf a b ha hb h1 h2)⟩
      · exact ⟨_, _, (wrap_do_17_tt a b h1 h2), (r2_do_17_tt a b ha hb h1 h2)⟩
    · exact ⟨_, _, (wrap_do_other op a b h7 h8 h9 h10 h11 h12 h13 h14 h15 h16 h17), (r2_do_other op a b ha hb h7 h8 h9 h10 h11 h12 h13 h14 h15 h16 h17)⟩

  obtain ⟨n, x, h1, _⟩ := h
  exact ⟨n, x, h1⟩

set_option maxHeartbeats 1000000 in
theorem wrap_fits (op a b : Int) (ha : I64 a) (hb : I64 b) (w : World) :
    Calls Try.prog 43 #[.int .i64 op, .int .i64 a, .int .i64 b] w fun e w' => e = .returned (.bool (exB op && isI (exV op a b))) ∧ Below w.heap.size w w' := by
  have hx := fun w => wrap_exact op a b ha hb w
  have hi := fun w => wide_int (hiW (exV op a b)) (loW (exV op a b)) (I64_hi (exV_I128 ha hb)) (U64.lo _) w
  rw [wv_hilo] at hi
  have HI := Lib.hid hi
  cases h : exB op
  · rw [h] at hx
    have HX := Lib.hid hx
    clear hx hi h
    go_enter Try.func43, Try.ntmps43
    go_wp2_with (first | (go_at_call 41; (with_reducible refine (HX.out _).mono ?_); rintro e w1 ⟨rfl, hb1⟩; obtain ⟨hc1, hf1⟩ := bcell hb1; have hz1 := hb1.size; (try simp at hz1); (try have hy1 := Nat.lt_of_succ_le hz1); (try have hv1 := Nat.lt_of_succ_lt hy1); (try have hw10 : w.heap.size < w1.heap.size := by omega); (try have hw11 : w.heap.size + 1 < w1.heap.size := by omega); (try have hw12 : w.heap.size + 1 + 1 < w1.heap.size := by omega); (try have hw13 : w.heap.size + 1 + 1 + 1 < w1.heap.size := by omega)) | (go_at_call 26; (with_reducible refine (HI.out _).mono ?_); rintro e w2 ⟨rfl, hb2⟩; obtain ⟨hc2, hf2⟩ := bcell hb2; have hz2 := hb2.size; (try simp at hz2); (try have hy2 := Nat.lt_of_succ_le hz2); (try have hv2 := Nat.lt_of_succ_lt hy2); (try have hw20 : w.heap.size < w2.heap.size := by omega); (try have hw21 : w.heap.size + 1 < w2.heap.size := by omega); (try have hw22 : w.heap.size + 1 + 1 < w2.heap.size := by omega); (try have hw23 : w.heap.size + 1 + 1 + 1 < w2.heap.size := by omega)))
    go_ret
    exact ⟨rfl, (by repeat (first | (with_reducible assumption) | (with_reducible exact Below.refl _ _) | (with_reducible refine Below.alloc ?_ (by first | omega | (simp; omega) | (simp; done) | (dsimp only; omega)) _) | (with_reducible refine Below.setCell ?_ (by first | omega | (simp; omega) | (simp; done) | (dsimp only; omega)) _) | (with_reducible refine Below.drew ?_) | (with_reducible refine Below.trans ?_ (Below.mono (by assumption) (by first | omega | (simp; omega) | (simp; done) | (dsimp only; omega))))))⟩
  · rw [h] at hx
    have HX := Lib.hid hx
    clear hx hi h
    go_enter Try.func43, Try.ntmps43
    go_wp2_with (first | (go_at_call 41; (with_reducible refine (HX.out _).mono ?_); rintro e w1 ⟨rfl, hb1⟩; obtain ⟨hc1, hf1⟩ := bcell hb1; have hz1 := hb1.size; (try simp at hz1); (try have hy1 := Nat.lt_of_succ_le hz1); (try have hv1 := Nat.lt_of_succ_lt hy1); (try have hw10 : w.heap.size < w1.heap.size := by omega); (try have hw11 : w.heap.size + 1 < w1.heap.size := by omega); (try have hw12 : w.heap.size + 1 + 1 < w1.heap.size := by omega); (try have hw13 : w.heap.size + 1 + 1 + 1 < w1.heap.size := by omega)) | (go_at_call 26; (with_reducible refine (HI.out _).mono ?_); rintro e w2 ⟨rfl, hb2⟩; obtain ⟨hc2, hf2⟩ := bcell hb2; have hz2 := hb2.size; (try simp at hz2); (try have hy2 := Nat.lt_of_succ_le hz2); (try have hv2 := Nat.lt_of_succ_lt hy2); (try have hw20 : w.heap.size < w2.heap.size := by omega); (try have hw21 : w.heap.size + 1 < w2.heap.size := by omega); (try have hw22 : w.heap.size + 1 + 1 < w2.heap.size := by omega); (try have hw23 : w.heap.size + 1 + 1 + 1 < w2.heap.size := by omega)))
    go_ret
    exact ⟨by simp, (by repeat (first | (with_reducible assumption) | (with_reducible exact Below.refl _ _) | (with_reducible refine Below.alloc ?_ (by first | omega | (simp; omega) | (simp; done) | (dsimp only; omega)) _) | (with_reducible refine Below.setCell ?_ (by first | omega | (simp; omega) | (simp; done) | (dsimp only; omega)) _) | (with_reducible refine Below.drew ?_) | (with_reducible refine Below.trans ?_ (Below.mono (by assumption) (by first | omega | (simp; omega) | (simp; done) | (dsimp only; omega))))))⟩

set_option maxRecDepth 100000 in
set_option maxHeartbeats 4000000 in
theorem law_wrapFits (op a b : Int) (ha : I64 a) (hb : I64 b) (w : World) :
    Calls Try.prog 10 #[.int .i64 op, .int .i64 a, .int .i64 b] w fun e w' => e = .returned (.bool true) ∧ Below w.heap.size w w' := by
  have h1 := fun w => wrap_exact op a b ha hb w
  have h2 := fun w => r2_exact op a b ha hb w
  have h3 := fun w => r_int (hiW (exV op a b)) (loW (exV op a b)) (I64_hi (exV_I128 ha hb)) (U64.lo _) w
  rw [wv_hilo] at h3
  have h4 := fun w => wrap_fits op a b ha hb w
  have H6 := Lib.hid law02_lives
  cases hx : exB op
  · obtain ⟨n, x, h5⟩ := do_any op a b ha hb
    rw [hx] at h1 h2 h4
    rw [Bool.false_and] at h4
    have H1 := Lib.hid h1
    have H2 := Lib.hid h2
    have H3 := Lib.hid h3
    have H4 := Lib.hid h4
    have H5 := Lib.hid h5
    clear h1 h2 h3 h4 h5 hx ha hb
    go_enter Try.func10, Try.ntmps10
    go_wp2_with (first | (go_at_call 41; (with_reducible refine (H1.out _).mono ?_); rintro e w1 ⟨rfl, hb1⟩; obtain ⟨hc1, hf1⟩ := bcell hb1; have hz1 := hb1.size; (try simp at hz1); (try have hy1 := Nat.lt_of_succ_le hz1); (try have hv1 := Nat.lt_of_succ_lt hy1); (try have hw10 : w.heap.size < w1.heap.size := by omega); (try have hw11 : w.heap.size + 1 < w1.heap.size := by omega); (try have hw12 : w.heap.size + 1 + 1 < w1.heap.size := by omega); (try have hw13 : w.heap.size + 1 + 1 + 1 < w1.heap.size := by omega)) | (go_at_call 42; (with_reducible refine (H2.out _).mono ?_); rintro e w2 ⟨rfl, hb2⟩; obtain ⟨hc2, hf2⟩ := bcell hb2; have hz2 := hb2.size; (try simp at hz2); (try have hy2 := Nat.lt_of_succ_le hz2); (try have hv2 := Nat.lt_of_succ_lt hy2); (try have hw20 : w.heap.size < w2.heap.size := by omega); (try have hw21 : w.heap.size + 1 < w2.heap.size := by omega); (try have hw22 : w.heap.size + 1 + 1 < w2.heap.size := by omega); (try have hw23 : w.heap.size + 1 + 1 + 1 < w2.heap.size := by omega); (try have hx2_0 : w1.heap.size < w2.heap.size := by omega)) | (go_at_call 27; (with_reducible refine (H3.out _).mono ?_); rintro e w3 ⟨rfl, hb3⟩; obtain ⟨hc3, hf3⟩ := bcell hb3; have hz3 := hb3.size; (try simp at hz3); (try have hy3 := Nat.lt_of_succ_le hz3); (try have hv3 := Nat.lt_of_succ_lt hy3); (try have hw30 : w.heap.size < w3.heap.size := by omega); (try have hw31 : w.heap.size + 1 < w3.heap.size := by omega); (try have hw32 : w.heap.size + 1 + 1 < w3.heap.size := by omega); (try have hw33 : w.heap.size + 1 + 1 + 1 < w3.heap.size := by omega); (try have hx3_0 : w1.heap.size < w3.heap.size := by omega); (try have hx3_1 : w2.heap.size < w3.heap.size := by omega)) | (go_at_call 43; (with_reducible refine (H4.out _).mono ?_); rintro e w4 ⟨rfl, hb4⟩; obtain ⟨hc4, hf4⟩ := bcell hb4; have hz4 := hb4.size; (try simp at hz4); (try have hy4 := Nat.lt_of_succ_le hz4); (try have hv4 := Nat.lt_of_succ_lt hy4); (try have hw40 : w.heap.size < w4.heap.size := by omega); (try have hw41 : w.heap.size + 1 < w4.heap.size := by omega); (try have hw42 : w.heap.size + 1 + 1 < w4.heap.size := by omega); (try have hw43 : w.heap.size + 1 + 1 + 1 < w4.heap.size := by omega)) | (go_at_call 36; (with_reducible refine (H5.out _).mono ?_); rintro e w5 ⟨rfl, hb5⟩; obtain ⟨hc5, hf5⟩ := bcell hb5; have hz5 := hb5.size; (try simp at hz5); (try have hy5 := Nat.lt_of_succ_le hz5); (try have hv5 := Nat.lt_of_succ_lt hy5); (try have hw50 : w.heap.size < w5.heap.size := by omega); (try have hw51 : w.heap.size + 1 < w5.heap.size := by omega); (try have hw52 : w.heap.size + 1 + 1 < w5.heap.size := by omega); (try have hw53 : w.heap.size + 1 + 1 + 1 < w5.heap.size := by omega)) | (go_at_call 38; (with_reducible refine (H6.out _).mono ?_); rintro e w6 ⟨rfl, hb6⟩; obtain ⟨hc6, hf6⟩ := bcell hb6; have hz6 := hb6.size; (try simp at hz6); (try have hy6 := Nat.lt_of_succ_le hz6); (try have hv6 := Nat.lt_of_succ_lt hy6); (try have hw60 : w.heap.size < w6.heap.size := by omega); (try have hw61 : w.heap.size + 1 < w6.heap.size := by omega); (try have hw62 : w.heap.size + 1 + 1 < w6.heap.size := by omega); (try have hw63 : w.heap.size + 1 + 1 + 1 < w6.heap.size := by omega)))
    go_ret
    exact ⟨rfl, (by repeat (first | (with_reducible assumption) | (with_reducible exact Below.refl _ _) | (with_reducible refine Below.alloc ?_ (by first | omega | (simp; omega) | (simp; done) | (dsimp only; omega)) _) | (with_reducible refine Below.setCell ?_ (by first | omega | (simp; omega) | (simp; done) | (dsimp only; omega)) _) | (with_reducible refine Below.drew ?_) | (with_reducible refine Below.trans ?_ (Below.mono (by assumption) (by first | omega | (simp; omega) | (simp; done) | (dsimp only; omega))))))⟩
  · have h5 := fun w => wrap_do_exact op a b ha hb hx w
    rw [hx] at h1 h2 h4
    rw [Bool.true_and] at h4
    cases hi : isI (exV op a b)
    · rw [hi] at h3 h4
      have H1 := Lib.hid h1
      have H2 := Lib.hid h2
      have H3 := Lib.hid h3
      have H4 := Lib.hid h4
      have H5 := Lib.hid h5
      clear h1 h2 h3 h4 h5 hx hi ha hb
      go_enter Try.func10, Try.ntmps10
      go_wp2_with (first | (go_at_call 41; (with_reducible refine (H1.out _).mono ?_); rintro e w1 ⟨rfl, hb1⟩; obtain ⟨hc1, hf1⟩ := bcell hb1; have hz1 := hb1.size; (try simp at hz1); (try have hy1 := Nat.lt_of_succ_le hz1); (try have hv1 := Nat.lt_of_succ_lt hy1); (try have hw10 : w.heap.size < w1.heap.size := by omega); (try have hw11 : w.heap.size + 1 < w1.heap.size := by omega); (try have hw12 : w.heap.size + 1 + 1 < w1.heap.size := by omega); (try have hw13 : w.heap.size + 1 + 1 + 1 < w1.heap.size := by omega)) | (go_at_call 42; (with_reducible refine (H2.out _).mono ?_); rintro e w2 ⟨rfl, hb2⟩; obtain ⟨hc2, hf2⟩ := bcell hb2; have hz2 := hb2.size; (try simp at hz2); (try have hy2 := Nat.lt_of_succ_le hz2); (try have hv2 := Nat.lt_of_succ_lt hy2); (try have hw20 : w.heap.size < w2.heap.size := by omega); (try have hw21 : w.heap.size + 1 < w2.heap.size := by omega); (try have hw22 : w.heap.size + 1 + 1 < w2.heap.size := by omega); (try have hw23 : w.heap.size + 1 + 1 + 1 < w2.heap.size := by omega); (try have hx2_0 : w1.heap.size < w2.heap.size := by omega)) | (go_at_call 27; (with_reducible refine (H3.out _).mono ?_); rintro e w3 ⟨rfl, hb3⟩; obtain ⟨hc3, hf3⟩ := bcell hb3; have hz3 := hb3.size; (try simp at hz3); (try have hy3 := Nat.lt_of_succ_le hz3); (try have hv3 := Nat.lt_of_succ_lt hy3); (try have hw30 : w.heap.size < w3.heap.size := by omega); (try have hw31 : w.heap.size + 1 < w3.heap.size := by omega); (try have hw32 : w.heap.size + 1 + 1 < w3.heap.size := by omega); (try have hw33 : w.heap.size + 1 + 1 + 1 < w3.heap.size := by omega); (try have hx3_0 : w1.heap.size < w3.heap.size := by omega); (try have hx3_1 : w2.heap.size < w3.heap.size := by omega)) | (go_at_call 43; (with_reducible refine (H4.out _).mono ?_); rintro e w4 ⟨rfl, hb4⟩; obtain ⟨hc4, hf4⟩ := bcell hb4; have hz4 := hb4.size; (try simp at hz4); (try have hy4 := Nat.lt_of_succ_le hz4); (try have hv4 := Nat.lt_of_succ_lt hy4); (try have hw40 : w.heap.size < w4.heap.size := by omega); (try have hw41 : w.heap.size + 1 < w4.heap.size := by omega); (try have hw42 : w.heap.size + 1 + 1 < w4.heap.size := by omega); (try have hw43 : w.heap.size + 1 + 1 + 1 < w4.heap.size := by omega)) | (go_at_call 36; (with_reducible refine (H5.out _).mono ?_); rintro e w5 ⟨rfl, hb5⟩; obtain ⟨hc5, hf5⟩ := bcell hb5; have hz5 := hb5.size; (try simp at hz5); (try have hy5 := Nat.lt_of_succ_le hz5); (try have hv5 := Nat.lt_of_succ_lt hy5); (try have hw50 : w.heap.size < w5.heap.size := by omega); (try have hw51 : w.heap.size + 1 < w5.heap.size := by omega); (try have hw52 : w.heap.size + 1 + 1 < w5.heap.size := by omega); (try have hw53 : w.heap.size + 1 + 1 + 1 < w5.heap.size := by omega)) | (go_at_call 38; (with_reducible refine (H6.out _).mono ?_); rintro e w6 ⟨rfl, hb6⟩; obtain ⟨hc6, hf6⟩ := bcell hb6; have hz6 := hb6.size; (try simp at hz6); (try have hy6 := Nat.lt_of_succ_le hz6); (try have hv6 := Nat.lt_of_succ_lt hy6); (try have hw60 : w.heap.size < w6.heap.size := by omega); (try have hw61 : w.heap.size + 1 < w6.heap.size := by omega); (try have hw62 : w.heap.size + 1 + 1 < w6.heap.size := by omega); (try have hw63 : w.heap.size + 1 + 1 + 1 < w6.heap.size := by omega)))
      go_ret
      exact ⟨rfl, (by repeat (first | (with_reducible assumption) | (with_reducible exact Below.refl _ _) | (with_reducible refine Below.alloc ?_ (by first | omega | (simp; omega) | (simp; done) | (dsimp only; omega)) _) | (with_reducible refine Below.setCell ?_ (by first | omega | (simp; omega) | (simp; done) | (dsimp only; omega)) _) | (with_reducible refine Below.drew ?_) | (with_reducible refine Below.trans ?_ (Below.mono (by assumption) (by first | omega | (simp; omega) | (simp; done) | (dsimp only; omega))))))⟩
    · rw [low_in ((isI_iff _).1 hi)] at h5
      rw [hi, show intI (exV op a b) = exV op a b by unfold intI; rw [if_pos hi]] at h3
      rw [hi] at h4
      have H1 := Lib.hid h1
      have H2 := Lib.hid h2
      have H3 := Lib.hid h3
      have H4 := Lib.hid h4
      have H5 := Lib.hid h5
      clear h1 h2 h3 h4 h5 hx hi ha hb
      go_enter Try.func10, Try.ntmps10
      go_wp2_with (first | (go_at_call 41; (with_reducible refine (H1.out _).mono ?_); rintro e w1 ⟨rfl, hb1⟩; obtain ⟨hc1, hf1⟩ := bcell hb1; have hz1 := hb1.size; (try simp at hz1); (try have hy1 := Nat.lt_of_succ_le hz1); (try have hv1 := Nat.lt_of_succ_lt hy1); (try have hw10 : w.heap.size < w1.heap.size := by omega); (try have hw11 : w.heap.size + 1 < w1.heap.size := by omega); (try have hw12 : w.heap.size + 1 + 1 < w1.heap.size := by omega); (try have hw13 : w.heap.size + 1 + 1 + 1 < w1.heap.size := by omega)) | (go_at_call 42; (with_reducible refine (H2.out _).mono ?_); rintro e w2 ⟨rfl, hb2⟩; obtain ⟨hc2, hf2⟩ := bcell hb2; have hz2 := hb2.size; (try simp at hz2); (try have hy2 := Nat.lt_of_succ_le hz2); (try have hv2 := Nat.lt_of_succ_lt hy2); (try have hw20 : w.heap.size < w2.heap.size := by omega); (try have hw21 : w.heap.size + 1 < w2.heap.size := by omega); (try have hw22 : w.heap.size + 1 + 1 < w2.heap.size := by omega); (try have hw23 : w.heap.size + 1 + 1 + 1 < w2.heap.size := by omega); (try have hx2_0 : w1.heap.size < w2.heap.size := by omega)) | (go_at_call 27; (with_reducible refine (H3.out _).mono ?_); rintro e w3 ⟨rfl, hb3⟩; obtain ⟨hc3, hf3⟩ := bcell hb3; have hz3 := hb3.size; (try simp at hz3); (try have hy3 := Nat.lt_of_succ_le hz3); (try have hv3 := Nat.lt_of_succ_lt hy3); (try have hw30 : w.heap.size < w3.heap.size := by omega); (try have hw31 : w.heap.size + 1 < w3.heap.size := by omega); (try have hw32 : w.heap.size + 1 + 1 < w3.heap.size := by omega); (try have hw33 : w.heap.size + 1 + 1 + 1 < w3.heap.size := by omega); (try have hx3_0 : w1.heap.size < w3.heap.size := by omega); (try have hx3_1 : w2.heap.size < w3.heap.size := by omega)) | (go_at_call 43; (with_reducible refine (H4.out _).mono ?_); rintro e w4 ⟨rfl, hb4⟩; obtain ⟨hc4, hf4⟩ := bcell hb4; have hz4 := hb4.size; (try simp at hz4); (try have hy4 := Nat.lt_of_succ_le hz4); (try have hv4 := Nat.lt_of_succ_lt hy4); (try have hw40 : w.heap.size < w4.heap.size := by omega); (try have hw41 : w.heap.size + 1 < w4.heap.size := by omega); (try have hw42 : w.heap.size + 1 + 1 < w4.heap.size := by omega); (try have hw43 : w.heap.size + 1 + 1 + 1 < w4.heap.size := by omega)) | (go_at_call 36; (with_reducible refine (H5.out _).mono ?_); rintro e w5 ⟨rfl, hb5⟩; obtain ⟨hc5, hf5⟩ := bcell hb5; have hz5 := hb5.size; (try simp at hz5); (try have hy5 := Nat.lt_of_succ_le hz5); (try have hv5 := Nat.lt_of_succ_lt hy5); (try have hw50 : w.heap.size < w5.heap.size := by omega); (try have hw51 : w.heap.size + 1 < w5.heap.size := by omega); (try have hw52 : w.heap.size + 1 + 1 < w5.heap.size := by omega); (try have hw53 : w.heap.size + 1 + 1 + 1 < w5.heap.size := by omega)) | (go_at_call 38; (with_reducible refine (H6.out _).mono ?_); rintro e w6 ⟨rfl, hb6⟩; obtain ⟨hc6, hf6⟩ := bcell hb6; have hz6 := hb6.size; (try simp at hz6); (try have hy6 := Nat.lt_of_succ_le hz6); (try have hv6 := Nat.lt_of_succ_lt hy6); (try have hw60 : w.heap.size < w6.heap.size := by omega); (try have hw61 : w.heap.size + 1 < w6.heap.size := by omega); (try have hw62 : w.heap.size + 1 + 1 < w6.heap.size := by omega); (try have hw63 : w.heap.size + 1 + 1 + 1 < w6.heap.size := by omega)))
      go_ret
      exact ⟨rfl, (by repeat (first | (with_reducible assumption) | (with_reducible exact Below.refl _ _) | (with_reducible refine Below.alloc ?_ (by first | omega | (simp; omega) | (simp; done) | (dsimp only; omega)) _) | (with_reducible refine Below.setCell ?_ (by first | omega | (simp; omega) | (simp; done) | (dsimp only; omega)) _) | (with_reducible refine Below.drew ?_) | (with_reducible refine Below.trans ?_ (Below.mono (by assumption) (by first | omega | (simp; omega) | (simp; done) | (dsimp only; omega))))))⟩
end Go.Proofs.Ytphicgdllhmgdaa
