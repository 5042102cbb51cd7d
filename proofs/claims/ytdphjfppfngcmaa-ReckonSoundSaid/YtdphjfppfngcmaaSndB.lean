/- The law ReckonExact, walked. -/
import Derived.Test.YtdphjfppfngcmaaSndA
import Derived.Test.YtdphjfppfngcmaaReckW
namespace Go.Proofs.Ytdphjfppfngcmaa
open Go.RowKit

theorem lowI_wrap (v : Int) : lowI (wrap128 v) = wrap64 v := by unfold lowI wrap64 wrap128; omega
theorem exB_iff {op : Int} : exB op = true ↔ op = 7 ∨ op = 10 ∨ op = 11 := by
  unfold exB
  simp only [Bool.or_eq_true, beq_iff_eq]; omega
theorem r2_do_any (op x y : Int) (hx : I64 x) (hy : I64 y) : ∃ n e, DR op x y n e ∧ ∀ w, Calls Try.prog 18 #[.int .i64 op, .int .i64 x, .int .i64 y] w fun r w' => r = .returned (.tuple #[.int .i64 n, .int .i64 e]) ∧ Below w.heap.size w w' := by
  by_cases hb : exB op = true
  · have ho := exB_iff.1 hb
    refine ⟨_, _, Or.inl ⟨ho, rfl, ?_⟩, r2_do_exact op x y hx hy hb⟩
    unfold ex4 lowI
    rw [if_neg (by omega)]
  have ho : ¬ (op = 7 ∨ op = 10 ∨ op = 11) := fun h => hb (exB_iff.2 h)
  by_cases h8 : op = 8
  · subst h8
    by_cases h0 : y = 0
    · subst h0; exact ⟨_, _, Or.inr (Or.inr (Or.inr (Or.inl ⟨Or.inl rfl, rfl, by decide⟩))), r2_do_8_0 x⟩
    · exact ⟨_, _, Or.inr (Or.inl ⟨rfl, h0, rfl, rfl⟩), r2_do_8 x y hx hy (by simpa using h0) h0⟩
  by_cases h9 : op = 9
  · subst h9
    by_cases h0 : y = 0
    · subst h0; exact ⟨_, _, Or.inr (Or.inr (Or.inr (Or.inl ⟨Or.inr rfl, rfl, by decide⟩))), r2_do_9_0 x⟩
    · exact ⟨_, _, Or.inr (Or.inr (Or.inl ⟨rfl, h0, rfl, rfl⟩)), r2_do_9 x y hx hy (by simpa using h0) h0⟩
  have mk : ∀ n, (op = 12 ∨ op = 13 ∨ op = 14 ∨ op = 15 ∨ op = 16 ∨ op = 17) → n = b2i (tst op x y) → DR op x y n 0 := fun n h1 h2 => Or.inr (Or.inr (Or.inr (Or.inr (Or.inl ⟨h1, rfl, h2⟩))))
  by_cases h12 : op = 12
  · subst h12
    have e : tst 12 x y = decide (x < y) := rfl
    rcases Int.lt_trichotomy x y with h | h | h
    · exact ⟨_, _, mk 1 (by omega) (by rw [e, decide_eq_true h]; rfl), r2_do_12_lt x y hx hy h⟩
    · exact ⟨_, _, mk 0 (by omega) (by rw [e, decide_eq_false (by omega)]; rfl), r2_do_12_eq x y hx hy h⟩
    · exact ⟨_, _, mk 0 (by omega) (by rw [e, decide_eq_false (by omega)]; rfl), r2_do_12_gt x y hx hy h⟩
  by_cases h13 : op = 13
  · subst h13
    have e : tst 13 x y = decide (x ≤ y) := rfl
    rcases Int.lt_trichotomy x y with h | h | h
    · exact ⟨_, _, mk 1 (by omega) (by rw [e, decide_eq_true (by omega)]; rfl), r2_do_13_lt x y hx hy h⟩
    · exact ⟨_, _, mk 1 (by omega) (by rw [e, decide_eq_true (by omega)]; rfl), r2_do_13_eq x y hx hy h⟩
    · exact ⟨_, _, mk 0 (by omega) (by rw [e, decide_eq_false (by omega)]; rfl), r2_do_13_gt x y hx hy h⟩
  by_cases h14 : op = 14
  · subst h14
    have e : tst 14 x y = (x == y) := rfl
    rcases Int.lt_trichotomy x y with h | h | h
    · exact ⟨_, _, mk 0 (by omega) (by rw [e, beq_eq_false_iff_ne.2 (by omega)]; rfl), r2_do_14_lt x y hx hy h⟩
    · exact ⟨_, _, mk 1 (by omega) (by rw [e, beq_iff_eq.2 h]; rfl), r2_do_14_eq x y hx hy h⟩
    · exact ⟨_, _, mk 0 (by omega) (by rw [e, beq_eq_false_iff_ne.2 (by omega)]; rfl), r2_do_14_gt x y hx hy h⟩
  by_cases h15 : op = 15
  · subst h15
    have e : tst 15 x y = (x != y) := rfl
    rcases Int.lt_trichotomy x y with h | h | h
    · exact ⟨_, _, mk 1 (by omega) (by rw [e, bne_iff_ne.2 (by omega)]; rfl), r2_do_15_lt x y hx hy h⟩
    · exact ⟨_, _, mk 0 (by omega) (by rw [e, bne_eq_false_iff_eq.2 h]; rfl), r2_do_15_eq x y hx hy h⟩
    · exact ⟨_, _, mk 1 (by omega) (by rw [e, bne_iff_ne.2 (by omega)]; rfl), r2_do_15_gt x y hx hy h⟩
  by_cases h16 : op = 16
  · subst h16
    have e : tst 16 x y = (x != 0 && y != 0) := rfl
    cases h1 : x != 0 <;> cases h2 : y != 0
    · exact ⟨_, _, mk 0 (by omega) (by rw [e, h1, h2]; rfl), r2_do_16_ff x y hx hy h1 h2⟩
    · exact ⟨_, _, mk 0 (by omega) (by rw [e, h1, h2]; rfl), r2_do_16_ft x y hx hy h1 h2⟩
    · exact ⟨_, _, mk 0 (by omega) (by rw [e, h1, h2]; rfl), r2_do_16_tf x y hx hy h1 h2⟩
    · exact ⟨_, _, mk 1 (by omega) (by rw [e, h1, h2]; rfl), r2_do_16_tt x y hx hy h1 h2⟩
  by_cases h17 : op = 17
  · subst h17
    have e : tst 17 x y = (x != 0 || y != 0) := rfl
    cases h1 : x != 0 <;> cases h2 : y != 0
    · exact ⟨_, _, mk 0 (by omega) (by rw [e, h1, h2]; rfl), r2_do_17_ff x y hx hy h1 h2⟩
    · exact ⟨_, _, mk 1 (by omega) (by rw [e, h1, h2]; rfl), r2_do_17_ft x y hx hy h1 h2⟩
    · exact ⟨_, _, mk 1 (by omega) (by rw [e, h1, h2]; rfl), r2_do_17_tf x y hx hy h1 h2⟩
    · exact ⟨_, _, mk 1 (by omega) (by rw [e, h1, h2]; rfl), r2_do_17_tt x y hx hy h1 h2⟩
  · exact ⟨_, _, Or.inr (Or.inr (Or.inr (Or.inr (Or.inr ⟨by omega, by decide⟩)))), r2_do_other op x y hx hy (by omega) (by omega) (by omega) (by omega) (by omega) (by omega) (by omega) (by omega) (by omega) (by omega) (by omega)⟩

/-- What the document's operators of one operand come to. -/
def OR1 (op x m f : Int) : Prop := (op = 5 ∧ f = 0 ∧ m = wrap64 (0 - x)) ∨ (op = 6 ∧ f = 0 ∧ m = b2i (x == 0)) ∨ (op ≠ 5 ∧ op ≠ 6 ∧ f ≠ 0)
theorem r2_one_any (op x : Int) (hx : I64 x) : ∃ m f, OR1 op x m f ∧ ∀ w, Calls Try.prog 19 #[.int .i64 op, .int .i64 x] w fun r w' => r = .returned (.tuple #[.int .i64 m, .int .i64 f]) ∧ Below w.heap.size w w' := by
  by_cases h5 : op = 5
  · subst h5
    exact ⟨_, _, Or.inl ⟨rfl, rfl, by rw [lowI_wrap, show -x = 0 - x by omega]⟩, r2_one_5 x hx⟩
  by_cases h6 : op = 6
  · subst h6
    cases h : x == 0
    · exact ⟨_, _, Or.inr (Or.inl ⟨rfl, rfl, by rw [h]; rfl⟩), r2_one_6_no x h⟩
    · exact ⟨_, _, Or.inr (Or.inl ⟨rfl, rfl, by rw [h]; rfl⟩), r2_one_6_yes x h⟩
  · exact ⟨_, _, Or.inr (Or.inr ⟨h5, h6, by decide⟩), r2_one_other op x h5 h6⟩

theorem z_none : (Sp.of 0 0).none = false := rfl
theorem z_I64 : I64 (Sp.of 0 0).lo ∧ I64 (Sp.of 0 0).hi := by
  have e : Sp.of 0 0 = ⟨true, 0, 0⟩ := rfl
  rw [e]; unfold I64; dsimp only; omega
theorem or1_dr {op x m f : Int} (h : OR1 op x m f) (hf : f = 0) : (op = 5 ∧ DR 11 0 x m 0) ∨ (op = 6 ∧ DR 14 x 0 m 0) := by
  rcases h with ⟨ho, _, h⟩ | ⟨ho, _, h⟩ | ⟨_, _, h⟩
  · exact Or.inl ⟨ho, Or.inl ⟨by omega, rfl, h⟩⟩
  · exact Or.inr ⟨ho, Or.inr (Or.inr (Or.inr (Or.inr (Or.inl ⟨by omega, rfl, h⟩))))⟩
  · exact absurd hf h
theorem one_has {op x m f : Int} {a : Sp} (h : OR1 op x m f) (hf : f = 0) (ha : a.none = false) (ia : I64 a.lo ∧ I64 a.hi) (h1 : a.lo ≤ x) (h2 : x ≤ a.hi) : (oneS op a).has m = true := by
  rcases or1_dr h hf with ⟨rfl, d⟩ | ⟨rfl, d⟩
  · rw [oneS_5 ha]
    exact do_has d rfl z_none ha z_I64 ia (Int.le_refl 0) (Int.le_refl 0) h1 h2
  · rw [oneS_6 ha, ← doS_t (op := 14) (a := a) (b := Sp.of 0 0) (by rw [ha]; rfl) (by omega)]
    exact do_has d rfl ha z_none ia z_I64 h1 h2 (Int.le_refl 0) (Int.le_refl 0)
theorem one_leq (op : Int) {A a : Sp} (hA : A.none = false) (ha : a.none = false) (iA : I64 A.lo ∧ I64 A.hi) (ia : I64 a.lo ∧ I64 a.hi) (h1 : a.lo ≤ A.lo) (h2 : A.hi ≤ a.hi) : (oneS op A).leq (oneS op a) = true := by
  by_cases h5 : op = 5
  · subst h5
    rw [oneS_5 hA, oneS_5 ha]
    exact do_leq 11 z_none hA z_none ha z_I64 iA z_I64 ia (Int.le_refl _) (Int.le_refl _) h1 h2
  by_cases h6 : op = 6
  · subst h6
    rw [oneS_6 hA, oneS_6 ha, ← doS_t (op := 14) (a := a) (b := Sp.of 0 0) (by rw [ha]; rfl) (by omega), ← doS_t (op := 14) (a := A) (b := Sp.of 0 0) (by rw [hA]; rfl) (by omega)]
    exact do_leq 14 hA z_none ha z_none iA z_I64 ia z_I64 h1 h2 (Int.le_refl _) (Int.le_refl _)
  · rw [oneS_other h5 h6]; rfl
theorem one_one {op x m f : Int} (hx : I64 x) (h : OR1 op x m f) (hf : f = 0) : oneS op (Sp.of x x) = Sp.of m m := by
  have hn : (Sp.of x x).none = false := by rw [of_none]; exact decide_eq_false (by omega)
  have z64 : I64 0 := by unfold I64; omega
  rcases or1_dr h hf with ⟨rfl, d⟩ | ⟨rfl, d⟩
  · rw [oneS_5 hn]
    exact (do_one z64 hx d).1 rfl
  · rw [oneS_6 hn, ← doS_t (op := 14) (a := Sp.of x x) (b := Sp.of 0 0) (by rw [hn]; rfl) (by omega)]
    exact (do_one hx z64 d).1 rfl

set_option maxRecDepth 100000 in
set_option maxHeartbeats 4000000 in
theorem law_reckonExact_of (op x y n e m f : Int) (o1 o2 r s1 : Sp) (H1 : Hid (∀ w, Calls Try.prog 23 #[.int .i64 x] w fun e w' => e = .returned (.agg #[.bool o1.s, .int .i64 o1.lo, .int .i64 o1.hi]) ∧ Below w.heap.size w w'))
    (H2 : Hid (∀ w, Calls Try.prog 23 #[.int .i64 y] w fun e w' => e = .returned (.agg #[.bool o2.s, .int .i64 o2.lo, .int .i64 o2.hi]) ∧ Below w.heap.size w w'))
    (H3 : Hid (∀ w, Calls Try.prog 7 #[.int .i64 op, .agg #[.bool o1.s, .int .i64 o1.lo, .int .i64 o1.hi], .agg #[.bool o2.s, .int .i64 o2.lo, .int .i64 o2.hi]] w fun e w' => e = .returned (.agg #[.bool r.s, .int .i64 r.lo, .int .i64 r.hi]) ∧ Below w.heap.size w w'))
    (H4 : Hid (∀ w, Calls Try.prog 18 #[.int .i64 op, .int .i64 x, .int .i64 y] w fun q w' => q = .returned (.tuple #[.int .i64 n, .int .i64 e]) ∧ Below w.heap.size w w'))
    (H5 : Hid (∀ w, Calls Try.prog 19 #[.int .i64 op, .int .i64 x] w fun q w' => q = .returned (.tuple #[.int .i64 m, .int .i64 f]) ∧ Below w.heap.size w w'))
    (H6 : e = 0 → Hid (∀ w, Calls Try.prog 24 #[.int .i64 n, .int .i64 n] w fun e w' => e = .returned (.agg #[.bool r.s, .int .i64 r.lo, .int .i64 r.hi]) ∧ Below w.heap.size w w'))
    (H7 : Hid (∀ w, Calls Try.prog 12 #[.int .i64 op, .agg #[.bool o1.s, .int .i64 o1.lo, .int .i64 o1.hi]] w fun e w' => e = .returned (.agg #[.bool s1.s, .int .i64 s1.lo, .int .i64 s1.hi]) ∧ Below w.heap.size w w'))
    (H8 : f = 0 → Hid (∀ w, Calls Try.prog 24 #[.int .i64 m, .int .i64 m] w fun e w' => e = .returned (.agg #[.bool s1.s, .int .i64 s1.lo, .int .i64 s1.hi]) ∧ Below w.heap.size w w'))
    (hz : e ≠ 0 → r = ⟨false, 0, 0⟩) (w : World) :
    Calls Try.prog 6 #[.int .i64 op, .int .i64 x, .int .i64 y] w fun e w' => e = .returned (.bool true) ∧ Below w.heap.size w w' := by
  have HL := Lib.hid law04_lives
  by_cases he : e = 0
  · have H6' := H6 he
    subst he
    clear H6 hz
    by_cases hf : f = 0
    · have H8' := H8 hf
      subst hf
      clear H8
      go_enter Try.func6, Try.ntmps6
      go_upto_region 2 with (first | (go_at_call 23; (with_reducible refine (H1.out _).mono ?_); rintro e w1 ⟨rfl, hb1⟩; obtain ⟨hc1, hf1⟩ := bcell hb1; have hz1 := hb1.size; (try simp at hz1); (try have hy1 := Nat.lt_of_succ_le hz1); (try have hv1 := Nat.lt_of_succ_lt hy1); (try have hw10 : w.heap.size < w1.heap.size := by omega); (try have hw11 : w.heap.size + 1 < w1.heap.size := by omega); (try have hw12 : w.heap.size + 1 + 1 < w1.heap.size := by omega); (try have hw13 : w.heap.size + 1 + 1 + 1 < w1.heap.size := by omega)) | (go_at_call 23; (with_reducible refine (H2.out _).mono ?_); rintro e w2 ⟨rfl, hb2⟩; obtain ⟨hc2, hf2⟩ := bcell hb2; have hz2 := hb2.size; (try simp at hz2); (try have hy2 := Nat.lt_of_succ_le hz2); (try have hv2 := Nat.lt_of_succ_lt hy2); (try have hw20 : w.heap.size < w2.heap.size := by omega); (try have hw21 : w.heap.size + 1 < w2.heap.size := by omega); (try have hw22 : w.heap.size + 1 + 1 < w2.heap.size := by omega); (try have hw23 : w.heap.size + 1 + 1 + 1 < w2.heap.size := by omega)) | (go_at_call 7; (with_reducible refine (H3.out _).mono ?_); rintro e w3 ⟨rfl, hb3⟩; obtain ⟨hc3, hf3⟩ := bcell hb3; have hz3 := hb3.size; (try simp at hz3); (try have hy3 := Nat.lt_of_succ_le hz3); (try have hv3 := Nat.lt_of_succ_lt hy3); (try have hw30 : w.heap.size < w3.heap.size := by omega); (try have hw31 : w.heap.size + 1 < w3.heap.size := by omega); (try have hw32 : w.heap.size + 1 + 1 < w3.heap.size := by omega); (try have hw33 : w.heap.size + 1 + 1 + 1 < w3.heap.size := by omega)))
      have hY := hb1.trans ((hb2.mono hb1.size).trans (hb3.mono (by omega)))
      generalize hV : (w3.alloc (.cells #[.bool r.s, .int .i64 r.lo, .int .i64 r.hi] 23)) = V
      have p0_0 : V.cell? ⟨w3.heap.size, 0, none⟩ = some (.bool r.s) := by rw [← hV]; simp [go_sem]
      have p0_1 : V.cell? ⟨w3.heap.size, 1, none⟩ = some (.int .i64 r.lo) := by rw [← hV]; simp [go_sem]
      have p0_2 : V.cell? ⟨w3.heap.size, 2, none⟩ = some (.int .i64 r.hi) := by rw [← hV]; simp [go_sem]
      have fp0 : ∀ o, V.frozen? ⟨w3.heap.size, o, none⟩ = false := by intro o; rw [← hV]; simp [go_sem]
      have zp0 : w3.heap.size < V.heap.size := by rw [← hV]; first | (simp; done) | (simp; omega)
      have HV : Below w3.heap.size w3 V := by rw [← hV]; exact (by repeat (first | (with_reducible assumption) | (with_reducible exact Below.refl _ _) | (with_reducible refine Below.alloc ?_ (by first | omega | (simp; omega) | (simp; done) | (dsimp only; omega)) _) | (with_reducible refine Below.setCell ?_ (by first | omega | (simp; omega) | (simp; done) | (dsimp only; omega)) _) | (with_reducible refine Below.drew ?_) | (with_reducible refine Below.trans ?_ (Below.mono (by assumption) (by first | omega | (simp; omega) | (simp; done) | (dsimp only; omega))))))
      clear hV
      have HWV := hY.trans (HV.mono hY.size)
      clear hc1 hf1 hb1 hz1 hc2 hf2 hb2 hz2 hc3 hf3 hb3 hz3 HV hY
      generalize w3.heap.size = B at *
      go_upto_region 6 with (first | (go_at_call 18; (with_reducible refine (H4.out _).mono ?_); rintro e w4 ⟨rfl, hb4⟩; obtain ⟨hc4, hf4⟩ := bcell hb4; have hz4 := hb4.size; (try simp at hz4); (try have hy4 := Nat.lt_of_succ_le hz4); (try have hv4 := Nat.lt_of_succ_lt hy4); (try have hw40 : w.heap.size < w4.heap.size := by omega); (try have hw41 : w.heap.size + 1 < w4.heap.size := by omega); (try have hw42 : w.heap.size + 1 + 1 < w4.heap.size := by omega); (try have hw43 : w.heap.size + 1 + 1 + 1 < w4.heap.size := by omega); (try have hx4_0 : B < w4.heap.size := by omega)) | (go_at_call 19; (with_reducible refine (H5.out _).mono ?_); rintro e w5 ⟨rfl, hb5⟩; obtain ⟨hc5, hf5⟩ := bcell hb5; have hz5 := hb5.size; (try simp at hz5); (try have hy5 := Nat.lt_of_succ_le hz5); (try have hv5 := Nat.lt_of_succ_lt hy5); (try have hw50 : w.heap.size < w5.heap.size := by omega); (try have hw51 : w.heap.size + 1 < w5.heap.size := by omega); (try have hw52 : w.heap.size + 1 + 1 < w5.heap.size := by omega); (try have hw53 : w.heap.size + 1 + 1 + 1 < w5.heap.size := by omega); (try have hx5_0 : B < w5.heap.size := by omega)))
      have HY2 := hb4.trans (hb5.mono hz4)
      have HWE := HWV.trans (HY2.mono HWV.size)
      replace p0_0 := (HY2.cell (p := ⟨B, 0, none⟩) zp0).trans p0_0
      replace p0_1 := (HY2.cell (p := ⟨B, 1, none⟩) zp0).trans p0_1
      replace p0_2 := (HY2.cell (p := ⟨B, 2, none⟩) zp0).trans p0_2
      replace zp0 := Nat.lt_of_lt_of_le zp0 HY2.size
      clear hc4 hf4 hb4 hz4 hc5 hf5 hb5 hz5 HY2 HWV fp0
      generalize w5 = wE at *
      refine region_seq (S := fun w' => Below wE.heap.size wE w') rfl (by kernel_rfl) (by kernel_rfl) (by repeat (first | (with_reducible assumption) | (with_reducible exact Below.refl _ _) | (with_reducible refine Below.alloc ?_ (by first | omega | (simp; omega) | (simp; done) | (dsimp only; omega)) _) | (with_reducible refine Below.setCell ?_ (by first | omega | (simp; omega) | (simp; done) | (dsimp only; omega)) _) | (with_reducible refine Below.drew ?_) | (with_reducible refine Below.trans ?_ (Below.mono (by assumption) (by first | omega | (simp; omega) | (simp; done) | (dsimp only; omega)))))) (fun fin hfin => ?_)
      iterate 23
        first
          | (refine SeqL.yes (v := ?_) (A' := ?_) rfl (by rfl) ?_ ?_ ?_
             rotate_left 2
             · intro w' K hS hK
               obtain ⟨hc, hf⟩ := bcell hS
               have hz := hS.size
               go_simp
               first
                 | exact hK.out _ hS
                 | (go_at_call 24; (with_reducible refine (H6'.out _).mono ?_); rintro e w1 ⟨rfl, hb1⟩; exact hK.out _ (hS.trans (hb1.mono hz)))
                 | (go_at_call 23; (with_reducible refine (H1.out _).mono ?_); rintro e w1 ⟨rfl, hb1⟩; exact hK.out _ (hS.trans (hb1.mono hz)))
                 | (go_at_call 12; (with_reducible refine (H7.out _).mono ?_); rintro e w1 ⟨rfl, hb1⟩; exact hK.out _ (hS.trans (hb1.mono hz)))
                 | (go_at_call 24; (with_reducible refine (H8'.out _).mono ?_); rintro e w1 ⟨rfl, hb1⟩; exact hK.out _ (hS.trans (hb1.mono hz)))
                 | (go_at_call 11; (with_reducible refine (HL.out _).mono ?_); rintro e w1 ⟨rfl, hb1⟩; exact hK.out _ (hS.trans (hb1.mono hz)))
                 | trace_state
             · simp only [Act.put, List.setIfInBounds_toArray, List.set_cons_zero, List.set_cons_succ]; exact rfl)
          | (refine SeqL.no (A' := ?_) rfl (by rfl) ?_ ?_
             rotate_left
             · simp only [Act.put, List.setIfInBounds_toArray, List.set_cons_zero, List.set_cons_succ]; exact rfl)
      refine SeqL.nil (hfin.out _ ?_)
      clear hfin fin
      intro w1 hS1
      go_wp2
      go_ret
      exact ⟨rfl, HWE.trans (hS1.mono HWE.size)⟩
    · have kf : (f != 0) = true := by simpa using hf
      clear H8
      go_enter Try.func6, Try.ntmps6
      go_upto_region 2 with (first | (go_at_call 23; (with_reducible refine (H1.out _).mono ?_); rintro e w1 ⟨rfl, hb1⟩; obtain ⟨hc1, hf1⟩ := bcell hb1; have hz1 := hb1.size; (try simp at hz1); (try have hy1 := Nat.lt_of_succ_le hz1); (try have hv1 := Nat.lt_of_succ_lt hy1); (try have hw10 : w.heap.size < w1.heap.size := by omega); (try have hw11 : w.heap.size + 1 < w1.heap.size := by omega); (try have hw12 : w.heap.size + 1 + 1 < w1.heap.size := by omega); (try have hw13 : w.heap.size + 1 + 1 + 1 < w1.heap.size := by omega)) | (go_at_call 23; (with_reducible refine (H2.out _).mono ?_); rintro e w2 ⟨rfl, hb2⟩; obtain ⟨hc2, hf2⟩ := bcell hb2; have hz2 := hb2.size; (try simp at hz2); (try have hy2 := Nat.lt_of_succ_le hz2); (try have hv2 := Nat.lt_of_succ_lt hy2); (try have hw20 : w.heap.size < w2.heap.size := by omega); (try have hw21 : w.heap.size + 1 < w2.heap.size := by omega); (try have hw22 : w.heap.size + 1 + 1 < w2.heap.size := by omega); (try have hw23 : w.heap.size + 1 + 1 + 1 < w2.heap.size := by omega)) | (go_at_call 7; (with_reducible refine (H3.out _).mono ?_); rintro e w3 ⟨rfl, hb3⟩; obtain ⟨hc3, hf3⟩ := bcell hb3; have hz3 := hb3.size; (try simp at hz3); (try have hy3 := Nat.lt_of_succ_le hz3); (try have hv3 := Nat.lt_of_succ_lt hy3); (try have hw30 : w.heap.size < w3.heap.size := by omega); (try have hw31 : w.heap.size + 1 < w3.heap.size := by omega); (try have hw32 : w.heap.size + 1 + 1 < w3.heap.size := by omega); (try have hw33 : w.heap.size + 1 + 1 + 1 < w3.heap.size := by omega)))
      have hY := hb1.trans ((hb2.mono hb1.size).trans (hb3.mono (by omega)))
      generalize hV : (w3.alloc (.cells #[.bool r.s, .int .i64 r.lo, .int .i64 r.hi] 23)) = V
      have p0_0 : V.cell? ⟨w3.heap.size, 0, none⟩ = some (.bool r.s) := by rw [← hV]; simp [go_sem]
      have p0_1 : V.cell? ⟨w3.heap.size, 1, none⟩ = some (.int .i64 r.lo) := by rw [← hV]; simp [go_sem]
      have p0_2 : V.cell? ⟨w3.heap.size, 2, none⟩ = some (.int .i64 r.hi) := by rw [← hV]; simp [go_sem]
      have fp0 : ∀ o, V.frozen? ⟨w3.heap.size, o, none⟩ = false := by intro o; rw [← hV]; simp [go_sem]
      have zp0 : w3.heap.size < V.heap.size := by rw [← hV]; first | (simp; done) | (simp; omega)
      have HV : Below w3.heap.size w3 V := by rw [← hV]; exact (by repeat (first | (with_reducible assumption) | (with_reducible exact Below.refl _ _) | (with_reducible refine Below.alloc ?_ (by first | omega | (simp; omega) | (simp; done) | (dsimp only; omega)) _) | (with_reducible refine Below.setCell ?_ (by first | omega | (simp; omega) | (simp; done) | (dsimp only; omega)) _) | (with_reducible refine Below.drew ?_) | (with_reducible refine Below.trans ?_ (Below.mono (by assumption) (by first | omega | (simp; omega) | (simp; done) | (dsimp only; omega))))))
      clear hV
      have HWV := hY.trans (HV.mono hY.size)
      clear hc1 hf1 hb1 hz1 hc2 hf2 hb2 hz2 hc3 hf3 hb3 hz3 HV hY
      generalize w3.heap.size = B at *
      go_upto_region 6 with (first | (go_at_call 18; (with_reducible refine (H4.out _).mono ?_); rintro e w4 ⟨rfl, hb4⟩; obtain ⟨hc4, hf4⟩ := bcell hb4; have hz4 := hb4.size; (try simp at hz4); (try have hy4 := Nat.lt_of_succ_le hz4); (try have hv4 := Nat.lt_of_succ_lt hy4); (try have hw40 : w.heap.size < w4.heap.size := by omega); (try have hw41 : w.heap.size + 1 < w4.heap.size := by omega); (try have hw42 : w.heap.size + 1 + 1 < w4.heap.size := by omega); (try have hw43 : w.heap.size + 1 + 1 + 1 < w4.heap.size := by omega); (try have hx4_0 : B < w4.heap.size := by omega)) | (go_at_call 19; (with_reducible refine (H5.out _).mono ?_); rintro e w5 ⟨rfl, hb5⟩; obtain ⟨hc5, hf5⟩ := bcell hb5; have hz5 := hb5.size; (try simp at hz5); (try have hy5 := Nat.lt_of_succ_le hz5); (try have hv5 := Nat.lt_of_succ_lt hy5); (try have hw50 : w.heap.size < w5.heap.size := by omega); (try have hw51 : w.heap.size + 1 < w5.heap.size := by omega); (try have hw52 : w.heap.size + 1 + 1 < w5.heap.size := by omega); (try have hw53 : w.heap.size + 1 + 1 + 1 < w5.heap.size := by omega); (try have hx5_0 : B < w5.heap.size := by omega)))
      have HY2 := hb4.trans (hb5.mono hz4)
      have HWE := HWV.trans (HY2.mono HWV.size)
      replace p0_0 := (HY2.cell (p := ⟨B, 0, none⟩) zp0).trans p0_0
      replace p0_1 := (HY2.cell (p := ⟨B, 1, none⟩) zp0).trans p0_1
      replace p0_2 := (HY2.cell (p := ⟨B, 2, none⟩) zp0).trans p0_2
      replace zp0 := Nat.lt_of_lt_of_le zp0 HY2.size
      clear hc4 hf4 hb4 hz4 hc5 hf5 hb5 hz5 HY2 HWV fp0
      generalize w5 = wE at *
      refine region_seq (S := fun w' => Below wE.heap.size wE w') rfl (by kernel_rfl) (by kernel_rfl) (by repeat (first | (with_reducible assumption) | (with_reducible exact Below.refl _ _) | (with_reducible refine Below.alloc ?_ (by first | omega | (simp; omega) | (simp; done) | (dsimp only; omega)) _) | (with_reducible refine Below.setCell ?_ (by first | omega | (simp; omega) | (simp; done) | (dsimp only; omega)) _) | (with_reducible refine Below.drew ?_) | (with_reducible refine Below.trans ?_ (Below.mono (by assumption) (by first | omega | (simp; omega) | (simp; done) | (dsimp only; omega)))))) (fun fin hfin => ?_)
      iterate 23
        first
          | (refine SeqL.yes (v := ?_) (A' := ?_) rfl (by rfl) ?_ ?_ ?_
             rotate_left 2
             · intro w' K hS hK
               obtain ⟨hc, hf⟩ := bcell hS
               have hz := hS.size
               go_simp
               first
                 | exact hK.out _ hS
                 | (go_at_call 24; (with_reducible refine (H6'.out _).mono ?_); rintro e w1 ⟨rfl, hb1⟩; exact hK.out _ (hS.trans (hb1.mono hz)))
                 | (go_at_call 23; (with_reducible refine (H1.out _).mono ?_); rintro e w1 ⟨rfl, hb1⟩; exact hK.out _ (hS.trans (hb1.mono hz)))
                 | (go_at_call 12; (with_reducible refine (H7.out _).mono ?_); rintro e w1 ⟨rfl, hb1⟩; exact hK.out _ (hS.trans (hb1.mono hz)))
                 | (go_at_call 11; (with_reducible refine (HL.out _).mono ?_); rintro e w1 ⟨rfl, hb1⟩; exact hK.out _ (hS.trans (hb1.mono hz)))
                 | trace_state
             · simp only [Act.put, List.setIfInBounds_toArray, List.set_cons_zero, List.set_cons_succ]; exact rfl)
          | (refine SeqL.no (A' := ?_) rfl (by rfl) ?_ ?_
             rotate_left
             · simp only [Act.put, List.setIfInBounds_toArray, List.set_cons_zero, List.set_cons_succ]; exact rfl)
      refine SeqL.nil (hfin.out _ ?_)
      clear hfin fin
      intro w1 hS1
      go_wp2
      go_ret
      exact ⟨rfl, HWE.trans (hS1.mono HWE.size)⟩
  · have ke : (e != 0) = true := by simpa using he
    have e0 := hz he
    subst e0
    clear H6 H8 hz
    go_enter Try.func6, Try.ntmps6
    go_upto_region 2 with (first | (go_at_call 23; (with_reducible refine (H1.out _).mono ?_); rintro e w1 ⟨rfl, hb1⟩; obtain ⟨hc1, hf1⟩ := bcell hb1; have hz1 := hb1.size; (try simp at hz1); (try have hy1 := Nat.lt_of_succ_le hz1); (try have hv1 := Nat.lt_of_succ_lt hy1); (try have hw10 : w.heap.size < w1.heap.size := by omega); (try have hw11 : w.heap.size + 1 < w1.heap.size := by omega); (try have hw12 : w.heap.size + 1 + 1 < w1.heap.size := by omega); (try have hw13 : w.heap.size + 1 + 1 + 1 < w1.heap.size := by omega)) | (go_at_call 23; (with_reducible refine (H2.out _).mono ?_); rintro e w2 ⟨rfl, hb2⟩; obtain ⟨hc2, hf2⟩ := bcell hb2; have hz2 := hb2.size; (try simp at hz2); (try have hy2 := Nat.lt_of_succ_le hz2); (try have hv2 := Nat.lt_of_succ_lt hy2); (try have hw20 : w.heap.size < w2.heap.size := by omega); (try have hw21 : w.heap.size + 1 < w2.heap.size := by omega); (try have hw22 : w.heap.size + 1 + 1 < w2.heap.size := by omega); (try have hw23 : w.heap.size + 1 + 1 + 1 < w2.heap.size := by omega)) | (go_at_call 7; (with_reducible refine (H3.out _).mono ?_); rintro e w3 ⟨rfl, hb3⟩; obtain ⟨hc3, hf3⟩ := bcell hb3; have hz3 := hb3.size; (try simp at hz3); (try have hy3 := Nat.lt_of_succ_le hz3); (try have hv3 := Nat.lt_of_succ_lt hy3); (try have hw30 : w.heap.size < w3.heap.size := by omega); (try have hw31 : w.heap.size + 1 < w3.heap.size := by omega); (try have hw32 : w.heap.size + 1 + 1 < w3.heap.size := by omega); (try have hw33 : w.heap.size + 1 + 1 + 1 < w3.heap.size := by omega)))
    have hY := hb1.trans ((hb2.mono hb1.size).trans (hb3.mono (by omega)))
    generalize hV : (w3.alloc (.cells #[.bool false, .int .i64 0, .int .i64 0] 23)) = V
    have p0_0 : V.cell? ⟨w3.heap.size, 0, none⟩ = some (.bool false) := by rw [← hV]; simp [go_sem]
    have p0_1 : V.cell? ⟨w3.heap.size, 1, none⟩ = some (.int .i64 0) := by rw [← hV]; simp [go_sem]
    have p0_2 : V.cell? ⟨w3.heap.size, 2, none⟩ = some (.int .i64 0) := by rw [← hV]; simp [go_sem]
    have fp0 : ∀ o, V.frozen? ⟨w3.heap.size, o, none⟩ = false := by intro o; rw [← hV]; simp [go_sem]
    have zp0 : w3.heap.size < V.heap.size := by rw [← hV]; first | (simp; done) | (simp; omega)
    have HV : Below w3.heap.size w3 V := by rw [← hV]; exact (by repeat (first | (with_reducible assumption) | (with_reducible exact Below.refl _ _) | (with_reducible refine Below.alloc ?_ (by first | omega | (simp; omega) | (simp; done) | (dsimp only; omega)) _) | (with_reducible refine Below.setCell ?_ (by first | omega | (simp; omega) | (simp; done) | (dsimp only; omega)) _) | (with_reducible refine Below.drew ?_) | (with_reducible refine Below.trans ?_ (Below.mono (by assumption) (by first | omega | (simp; omega) | (simp; done) | (dsimp only; omega))))))
    clear hV
    have HWV := hY.trans (HV.mono hY.size)
    clear hc1 hf1 hb1 hz1 hc2 hf2 hb2 hz2 hc3 hf3 hb3 hz3 HV hY
    generalize w3.heap.size = B at *
    go_wp2_with (first | (go_at_call 18; (with_reducible refine (H4.out _).mono ?_); rintro e w4 ⟨rfl, hb4⟩; obtain ⟨hc4, hf4⟩ := bcell hb4; have hz4 := hb4.size; (try simp at hz4); (try have hy4 := Nat.lt_of_succ_le hz4); (try have hv4 := Nat.lt_of_succ_lt hy4); (try have hw40 : w.heap.size < w4.heap.size := by omega); (try have hw41 : w.heap.size + 1 < w4.heap.size := by omega); (try have hw42 : w.heap.size + 1 + 1 < w4.heap.size := by omega); (try have hw43 : w.heap.size + 1 + 1 + 1 < w4.heap.size := by omega); (try have hx4_0 : B < w4.heap.size := by omega)) | (go_at_call 11; (with_reducible refine (HL.out _).mono ?_); rintro e w5 ⟨rfl, hb5⟩; obtain ⟨hc5, hf5⟩ := bcell hb5; have hz5 := hb5.size; (try simp at hz5); (try have hy5 := Nat.lt_of_succ_le hz5); (try have hv5 := Nat.lt_of_succ_lt hy5); (try have hw50 : w.heap.size < w5.heap.size := by omega); (try have hw51 : w.heap.size + 1 < w5.heap.size := by omega); (try have hw52 : w.heap.size + 1 + 1 < w5.heap.size := by omega); (try have hw53 : w.heap.size + 1 + 1 + 1 < w5.heap.size := by omega)))
    go_ret
    exact ⟨rfl, HWV.trans ((hb4.trans (hb5.mono hz4)).mono HWV.size)⟩

theorem law_reckonExact (op x y : Int) (hx : I64 x) (hy : I64 y) (w : World) :
    Calls Try.prog 6 #[.int .i64 op, .int .i64 x, .int .i64 y] w fun e w' => e = .returned (.bool true) ∧ Below w.heap.size w w' := by
  obtain ⟨n, e, hd, hD⟩ := r2_do_any op x y hx hy
  obtain ⟨m, f, ho, hO⟩ := r2_one_any op x hx
  have k := do_one hx hy hd
  have ix : I64 (Sp.of x x).lo ∧ I64 (Sp.of x x).hi := by rw [Sp.of_f (by omega)]; exact ⟨hx, hx⟩
  have iy : I64 (Sp.of y y).lo ∧ I64 (Sp.of y y).hi := by rw [Sp.of_f (by omega)]; exact ⟨hy, hy⟩
  exact law_reckonExact_of op x y n e m f _ _ _ _ (Lib.hid (span_one x)) (Lib.hid (span_one y)) (Lib.hid (reckon_do op _ _ ix iy)) (Lib.hid hD) (Lib.hid hO) (fun h => Lib.hid (by rw [k.1 h]; exact r3_make n n)) (Lib.hid (reckon_one op _ ix)) (fun h => Lib.hid (by rw [one_one hx ho h]; exact r3_make m m)) k.2 w
end Go.Proofs.Ytdphjfppfngcmaa
