/- The laws of layer 3 that speak of which ints spans have, walked. -/
import Derived.Test.YtbjdiaakhlgcgaaSpanE
import Derived.Test.YtbjdiaakhlgcgaaSeq
namespace Go.Proofs.Ytbjdiaakhlgcgaa
open Go.RowKit

theorem Sp.same_leq (a b : Sp) : a.same b = (a.leq b && b.leq a) := by
  cases h : a.none <;> cases h' : b.none
  · rw [Sp.leq_some h h', Sp.leq_some h' h]
    have ea : a.clean = a := if_neg (by rw [h]; decide)
    have eb : b.clean = b := if_neg (by rw [h']; decide)
    unfold Sp.same; rw [ea, eb]
    unfold Sp.none at h h'; simp at h h'
    rw [h.1, h'.1, Bool.eq_iff_iff]; simp; omega
  · rw [Sp.leq_none2 h h', Sp.leq_none a h']
    have ea : a.clean = a := if_neg (by rw [h]; decide)
    have eb : b.clean = Sp.zero := if_pos h'
    unfold Sp.same; rw [ea, eb]
    unfold Sp.none at h; simp at h
    rw [h.1]; rfl
  · rw [Sp.leq_none2 h' h, Sp.leq_none b h]
    have ea : a.clean = Sp.zero := if_pos h
    have eb : b.clean = b := if_neg (by rw [h']; decide)
    unfold Sp.same; rw [ea, eb]
    unfold Sp.none at h'; simp at h'
    rw [h'.1]; rfl
  · rw [Sp.leq_none b h, Sp.leq_none a h']
    have ea : a.clean = Sp.zero := if_pos h
    have eb : b.clean = Sp.zero := if_pos h'
    unfold Sp.same; rw [ea, eb]; rfl

set_option maxHeartbeats 1000000 in
theorem law03_lives (w : World) : Calls Try.prog 24 #[] w fun e w' => e = .returned (.bool true) ∧ Below w.heap.size w w' := by
  have O1 : Hid (∀ w, Calls Try.prog 25 #[.int .i64 0, .int .i64 1] w fun e w' => e = .returned (.agg #[.bool true, .int .i64 0, .int .i64 1]) ∧ Below w.heap.size w w') := Lib.hid (fun w => span_of 0 1 w)
  have O2 : Hid (∀ w, Calls Try.prog 25 #[.int .i64 0, .int .i64 5] w fun e w' => e = .returned (.agg #[.bool true, .int .i64 0, .int .i64 5]) ∧ Below w.heap.size w w') := Lib.hid (fun w => span_of 0 5 w)
  have O3 : Hid (∀ A w, IRow w A [3, 10] → Calls Try.prog 30 #[.agg #[.bool true, .int .i64 0, .int .i64 1], .agg #[.bool true, .int .i64 0, .int .i64 5], .slice A 2 2] w fun e w' => e = .returned (.agg #[.bool true, .int .i64 0, .int .i64 10]) ∧ Below w.heap.size w w') :=
    Lib.hid (fun A w h => span_widen ⟨true, 0, 1⟩ ⟨true, 0, 5⟩ [3, 10] A 2 w (by decide) h)
  have O4 : Hid (∀ w, Calls Try.prog 28 #[] w fun e w' => e = .returned (.agg #[.bool true, .int .i64 (-9223372036854775808), .int .i64 9223372036854775807]) ∧ Below w.heap.size w w') := Lib.hid (fun w => span_all w)
  have O5 : Hid (∀ w, Calls Try.prog 13 #[.agg #[.bool true, .int .i64 (-9223372036854775808), .int .i64 9223372036854775807], .int .i64 (-5)] w fun e w' => e = .returned (.bool true) ∧ Below w.heap.size w w') := Lib.hid (fun w => span_has ⟨true, _, _⟩ (-5) w)
  have O6 : Hid (∀ w, Calls Try.prog 27 #[.int .i64 3] w fun e w' => e = .returned (.agg #[.bool true, .int .i64 3, .int .i64 3]) ∧ Below w.heap.size w w') := Lib.hid (fun w => span_one 3 w)
  have O7 : Hid (∀ w, Calls Try.prog 15 #[.agg #[.bool true, .int .i64 3, .int .i64 3]] w fun e w' => e = .returned (.bool false) ∧ Below w.heap.size w w') := Lib.hid (fun w => span_none ⟨true, 3, 3⟩ w)
  go_enter Try.func24, Try.ntmps24
  go_wp2_with (first | (go_at_call 25; (with_reducible refine (O1.out _).mono ?_); rintro e w1 ⟨rfl, hb1⟩; obtain ⟨hc1, hf1⟩ := bcell hb1; have hz1 := hb1.size; (try simp at hz1); (try have hy1 := Nat.lt_of_succ_le hz1); (try have hv1 := Nat.lt_of_succ_lt hy1); (try have hw10 : w.heap.size < w1.heap.size := by omega); (try have hw11 : w.heap.size + 1 < w1.heap.size := by omega); (try have hw12 : w.heap.size + 1 + 1 < w1.heap.size := by omega); (try have hw13 : w.heap.size + 1 + 1 + 1 < w1.heap.size := by omega)) | (go_at_call 25; (with_reducible refine (O2.out _).mono ?_); rintro e w2 ⟨rfl, hb2⟩; obtain ⟨hc2, hf2⟩ := bcell hb2; have hz2 := hb2.size; (try simp at hz2); (try have hy2 := Nat.lt_of_succ_le hz2); (try have hv2 := Nat.lt_of_succ_lt hy2); (try have hw20 : w.heap.size < w2.heap.size := by omega); (try have hw21 : w.heap.size + 1 < w2.heap.size := by omega); (try have hw22 : w.heap.size + 1 + 1 < w2.heap.size := by omega); (try have hw23 : w.heap.size + 1 + 1 + 1 < w2.heap.size := by omega)))
  have hr : IRow (w2.alloc (.cells #[.int .i64 3, .int .i64 10] 3)) (some ⟨w2.heap.size, 0, none⟩) [3, 10] := by
    intro i hi
    match i, hi with
    | 0, _ => simp [Addr.add, go_sem]
    | 1, _ => simp [Addr.add, go_sem]
  go_wp2_with (first | (go_at_call 30; (with_reducible refine (O3.out _ _ hr).mono ?_); rintro e w1 ⟨rfl, hb1⟩; obtain ⟨hc1, hf1⟩ := bcell hb1; have hz1 := hb1.size; (try simp at hz1); (try have hy1 := Nat.lt_of_succ_le hz1); (try have hv1 := Nat.lt_of_succ_lt hy1); (try have hw10 : w.heap.size < w1.heap.size := by omega); (try have hw11 : w.heap.size + 1 < w1.heap.size := by omega); (try have hw12 : w.heap.size + 1 + 1 < w1.heap.size := by omega); (try have hw13 : w.heap.size + 1 + 1 + 1 < w1.heap.size := by omega)) | (go_at_call 28; (with_reducible refine (O4.out _).mono ?_); rintro e w1 ⟨rfl, hb1⟩; obtain ⟨hc1, hf1⟩ := bcell hb1; have hz1 := hb1.size; (try simp at hz1); (try have hy1 := Nat.lt_of_succ_le hz1); (try have hv1 := Nat.lt_of_succ_lt hy1); (try have hw10 : w.heap.size < w1.heap.size := by omega); (try have hw11 : w.heap.size + 1 < w1.heap.size := by omega); (try have hw12 : w.heap.size + 1 + 1 < w1.heap.size := by omega); (try have hw13 : w.heap.size + 1 + 1 + 1 < w1.heap.size := by omega)) | (go_at_call 13; (with_reducible refine (O5.out _).mono ?_); rintro e w1 ⟨rfl, hb1⟩; obtain ⟨hc1, hf1⟩ := bcell hb1; have hz1 := hb1.size; (try simp at hz1); (try have hy1 := Nat.lt_of_succ_le hz1); (try have hv1 := Nat.lt_of_succ_lt hy1); (try have hw10 : w.heap.size < w1.heap.size := by omega); (try have hw11 : w.heap.size + 1 < w1.heap.size := by omega); (try have hw12 : w.heap.size + 1 + 1 < w1.heap.size := by omega); (try have hw13 : w.heap.size + 1 + 1 + 1 < w1.heap.size := by omega)) | (go_at_call 27; (with_reducible refine (O6.out _).mono ?_); rintro e w1 ⟨rfl, hb1⟩; obtain ⟨hc1, hf1⟩ := bcell hb1; have hz1 := hb1.size; (try simp at hz1); (try have hy1 := Nat.lt_of_succ_le hz1); (try have hv1 := Nat.lt_of_succ_lt hy1); (try have hw10 : w.heap.size < w1.heap.size := by omega); (try have hw11 : w.heap.size + 1 < w1.heap.size := by omega); (try have hw12 : w.heap.size + 1 + 1 < w1.heap.size := by omega); (try have hw13 : w.heap.size + 1 + 1 + 1 < w1.heap.size := by omega)) | (go_at_call 15; (with_reducible refine (O7.out _).mono ?_); rintro e w1 ⟨rfl, hb1⟩; obtain ⟨hc1, hf1⟩ := bcell hb1; have hz1 := hb1.size; (try simp at hz1); (try have hy1 := Nat.lt_of_succ_le hz1); (try have hv1 := Nat.lt_of_succ_lt hy1); (try have hw10 : w.heap.size < w1.heap.size := by omega); (try have hw11 : w.heap.size + 1 < w1.heap.size := by omega); (try have hw12 : w.heap.size + 1 + 1 < w1.heap.size := by omega); (try have hw13 : w.heap.size + 1 + 1 + 1 < w1.heap.size := by omega)))
  go_ret
  exact ⟨rfl, (by repeat (first | (with_reducible assumption) | (with_reducible exact Below.refl _ _) | (with_reducible refine Below.alloc ?_ (by first | omega | (simp; omega) | (simp; done) | (dsimp only; omega)) _) | (with_reducible refine Below.setCell ?_ (by first | omega | (simp; omega) | (simp; done) | (dsimp only; omega)) _) | (with_reducible refine Below.drew ?_) | (with_reducible refine Below.trans ?_ (Below.mono (by assumption) (by first | omega | (simp; omega) | (simp; done) | (dsimp only; omega))))))⟩

set_option maxRecDepth 100000 in
set_option maxHeartbeats 4000000 in
theorem law_spanSets (a b : Sp) (n : Int) (w : World) :
    Calls Try.prog 3 #[.agg #[.bool a.s, .int .i64 a.lo, .int .i64 a.hi], .agg #[.bool b.s, .int .i64 b.lo, .int .i64 b.hi], .int .i64 n] w fun e w' => e = .returned (.bool true) ∧ Below w.heap.size w w' := by
  have H1 := Lib.hid (span_has a n)
  have H2 := Lib.hid (r3_has a n)
  have H3 := Lib.hid (span_none a)
  have H4 := Lib.hid (r3_None a)
  have h5 := span_leq a b
  have h6 := r3_leq a b
  have h7 := span_same a b
  rw [Sp.same_leq] at h7
  have h8 := r3_leq b a
  have H9 := Lib.hid (span_join a b)
  have H10 := Lib.hid (r3_join a b)
  have H11 := Lib.hid (span_meet a b)
  have H12 := Lib.hid (r3_meet a b)
  generalize a.leq b = x at *
  generalize b.leq a = y at *
  cases x
  all_goals
    simp only [Bool.false_and, Bool.true_and] at h7
    have H5 := Lib.hid h5
    have H6 := Lib.hid h6
    have H7 := Lib.hid h7
    have H8 := Lib.hid h8
    have H13 := Lib.hid law03_lives
    clear h5 h6 h7 h8
    go_enter Try.func3, Try.ntmps3
    go_wp2
    generalize hW : (w.alloc (.cells #[.bool a.s, .int .i64 a.lo, .int .i64 a.hi] 23)).alloc (.cells #[.bool b.s, .int .i64 b.lo, .int .i64 b.hi] 23) = W
    have q0 : W.cell? ⟨w.heap.size, 0, none⟩ = some (.bool a.s) := by rw [← hW]; simp [go_sem]
    have q1 : W.cell? ⟨w.heap.size, 1, none⟩ = some (.int .i64 a.lo) := by rw [← hW]; simp [go_sem]
    have q2 : W.cell? ⟨w.heap.size, 2, none⟩ = some (.int .i64 a.hi) := by rw [← hW]; simp [go_sem]
    have q3 : W.cell? ⟨w.heap.size + 1, 0, none⟩ = some (.bool b.s) := by rw [← hW]; simp [go_sem]
    have q4 : W.cell? ⟨w.heap.size + 1, 1, none⟩ = some (.int .i64 b.lo) := by rw [← hW]; simp [go_sem]
    have q5 : W.cell? ⟨w.heap.size + 1, 2, none⟩ = some (.int .i64 b.hi) := by rw [← hW]; simp [go_sem]
    have z1 : w.heap.size + 1 < W.heap.size := by rw [← hW]; simp
    have z0 : w.heap.size < W.heap.size := by omega
    have HW : Below w.heap.size w W := by rw [← hW]; exact (by repeat (first | (with_reducible assumption) | (with_reducible exact Below.refl _ _) | (with_reducible refine Below.alloc ?_ (by first | omega | (simp; omega) | (simp; done) | (dsimp only; omega)) _) | (with_reducible refine Below.setCell ?_ (by first | omega | (simp; omega) | (simp; done) | (dsimp only; omega)) _) | (with_reducible refine Below.drew ?_) | (with_reducible refine Below.trans ?_ (Below.mono (by assumption) (by first | omega | (simp; omega) | (simp; done) | (dsimp only; omega))))))
    clear hW
    refine region_seq (S := fun w' => Below W.heap.size W w') rfl (by kernel_rfl) (by kernel_rfl) (by repeat (first | (with_reducible assumption) | (with_reducible exact Below.refl _ _) | (with_reducible refine Below.alloc ?_ (by first | omega | (simp; omega) | (simp; done) | (dsimp only; omega)) _) | (with_reducible refine Below.setCell ?_ (by first | omega | (simp; omega) | (simp; done) | (dsimp only; omega)) _) | (with_reducible refine Below.drew ?_) | (with_reducible refine Below.trans ?_ (Below.mono (by assumption) (by first | omega | (simp; omega) | (simp; done) | (dsimp only; omega)))))) (fun fin hfin => ?_)
    iterate 59
      first
        | (refine SeqL.yes (v := ?_) (A' := ?_) rfl (by rfl) ?_ ?_ ?_
           rotate_left 2
           · intro w' K hS hK
             obtain ⟨hc, hf⟩ := bcell hS
             have hz := hS.size
             go_simp
             first
               | exact hK.out _ hS
               | (go_at_call 13; (with_reducible refine (H1.out _).mono ?_); rintro e w1 ⟨rfl, hb1⟩; exact hK.out _ (hS.trans (hb1.mono hz)))
               | (go_at_call 14; (with_reducible refine (H2.out _).mono ?_); rintro e w1 ⟨rfl, hb1⟩; exact hK.out _ (hS.trans (hb1.mono hz)))
               | (go_at_call 15; (with_reducible refine (H3.out _).mono ?_); rintro e w1 ⟨rfl, hb1⟩; exact hK.out _ (hS.trans (hb1.mono hz)))
               | (go_at_call 16; (with_reducible refine (H4.out _).mono ?_); rintro e w1 ⟨rfl, hb1⟩; exact hK.out _ (hS.trans (hb1.mono hz)))
               | (go_at_call 17; (with_reducible refine (H5.out _).mono ?_); rintro e w1 ⟨rfl, hb1⟩; exact hK.out _ (hS.trans (hb1.mono hz)))
               | (go_at_call 18; (with_reducible refine (H6.out _).mono ?_); rintro e w1 ⟨rfl, hb1⟩; exact hK.out _ (hS.trans (hb1.mono hz)))
               | (go_at_call 19; (with_reducible refine (H7.out _).mono ?_); rintro e w1 ⟨rfl, hb1⟩; exact hK.out _ (hS.trans (hb1.mono hz)))
               | (go_at_call 18; (with_reducible refine (H8.out _).mono ?_); rintro e w1 ⟨rfl, hb1⟩; exact hK.out _ (hS.trans (hb1.mono hz)))
               | (go_at_call 20; (with_reducible refine (H9.out _).mono ?_); rintro e w1 ⟨rfl, hb1⟩; exact hK.out _ (hS.trans (hb1.mono hz)))
               | (go_at_call 21; (with_reducible refine (H10.out _).mono ?_); rintro e w1 ⟨rfl, hb1⟩; exact hK.out _ (hS.trans (hb1.mono hz)))
               | (go_at_call 22; (with_reducible refine (H11.out _).mono ?_); rintro e w1 ⟨rfl, hb1⟩; exact hK.out _ (hS.trans (hb1.mono hz)))
               | (go_at_call 23; (with_reducible refine (H12.out _).mono ?_); rintro e w1 ⟨rfl, hb1⟩; exact hK.out _ (hS.trans (hb1.mono hz)))
               | (go_at_call 24; (with_reducible refine (H13.out _).mono ?_); rintro e w1 ⟨rfl, hb1⟩; exact hK.out _ (hS.trans (hb1.mono hz)))
               | trace_state
           · simp only [Act.put, List.setIfInBounds_toArray, List.set_cons_zero, List.set_cons_succ]; exact rfl)
        | (refine SeqL.no (A' := ?_) rfl (by rfl) ?_ ?_
           rotate_left
           · simp only [Act.put, List.setIfInBounds_toArray, List.set_cons_zero, List.set_cons_succ]; exact rfl)
    refine SeqL.nil (hfin.out _ ?_)
    clear hfin fin
    intro w1 hS1
    go_wp2
    go_ret
    exact ⟨rfl, (by repeat (first | (with_reducible assumption) | (with_reducible exact Below.refl _ _) | (with_reducible refine Below.alloc ?_ (by first | omega | (simp; omega) | (simp; done) | (dsimp only; omega)) _) | (with_reducible refine Below.setCell ?_ (by first | omega | (simp; omega) | (simp; done) | (dsimp only; omega)) _) | (with_reducible refine Below.drew ?_) | (with_reducible refine Below.trans ?_ (Below.mono (by assumption) (by first | omega | (simp; omega) | (simp; done) | (dsimp only; omega))))))⟩
end Go.Proofs.Ytbjdiaakhlgcgaa
