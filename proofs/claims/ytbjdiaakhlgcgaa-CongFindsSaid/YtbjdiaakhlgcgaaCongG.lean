/- The law of layer 5 that speaks of which congruences ints make, walked. -/
import Derived.Test.YtbjdiaakhlgcgaaCongF
namespace Go.Proofs.Ytbjdiaakhlgcgaa
open Go.RowKit

set_option maxHeartbeats 2000000 in
theorem law05_lives (w : World) : Calls Try.prog 41 #[] w fun e w' => e = .returned (.bool true) ∧ Below w.heap.size w w' := by
  have O1 : Hid (∀ w, Calls Try.prog 36 #[.int .i64 3] w fun e w' => e = .returned (.agg #[.bool true, .int .i64 0, .int .i64 3]) ∧ Below w.heap.size w w') := Lib.hid (fun w => cong_one 3 w)
  have O2 : Hid (∀ w, Calls Try.prog 36 #[.int .i64 11] w fun e w' => e = .returned (.agg #[.bool true, .int .i64 0, .int .i64 11]) ∧ Below w.heap.size w w') := Lib.hid (fun w => cong_one 11 w)
  have i0 : I64 0 := I64_0
  have i3 : I64 3 := by unfold I64; omega
  have i11 : I64 11 := by unfold I64; omega
  have i5 : I64 5 := by unfold I64; omega
  have hj := fun w => cong_join ⟨true, 0, 3⟩ ⟨true, 0, 11⟩ ⟨i0, i3⟩ ⟨i0, i11⟩ w
  rw [show (Cg.join ⟨true, 0, 3⟩ ⟨true, 0, 11⟩).s = true from by decide, show (Cg.join ⟨true, 0, 3⟩ ⟨true, 0, 11⟩).m = 8 from by decide, show (Cg.join ⟨true, 0, 3⟩ ⟨true, 0, 11⟩).r = 3 from by decide] at hj
  have HJ := Lib.hid hj; clear hj
  have O3 : Hid (∀ w, Calls Try.prog 35 #[.int .i64 3, .int .i64 2] w fun e w' => e = .returned (.agg #[.bool true, .int .i64 3, .int .i64 2]) ∧ Below w.heap.size w w') := Lib.hid (fun w => cong_of 3 2 i3 w)
  have O4 : Hid (∀ w, Calls Try.prog 35 #[.int .i64 5, .int .i64 3] w fun e w' => e = .returned (.agg #[.bool true, .int .i64 5, .int .i64 3]) ∧ Below w.heap.size w w') := Lib.hid (fun w => cong_of 5 3 i5 w)
  go_enter Try.func41, Try.ntmps41
  go_wp2_with (first | (go_at_call 36; (with_reducible refine (O1.out _).mono ?_); rintro e w1 ⟨rfl, hb1⟩; obtain ⟨hc1, hf1⟩ := bcell hb1; have hz1 := hb1.size; (try simp at hz1); (try have hy1 := Nat.lt_of_succ_le hz1); (try have hv1 := Nat.lt_of_succ_lt hy1); (try have hw10 : w.heap.size < w1.heap.size := by omega); (try have hw11 : w.heap.size + 1 < w1.heap.size := by omega); (try have hw12 : w.heap.size + 1 + 1 < w1.heap.size := by omega); (try have hw13 : w.heap.size + 1 + 1 + 1 < w1.heap.size := by omega)) | (go_at_call 36; (with_reducible refine (O2.out _).mono ?_); rintro e w1 ⟨rfl, hb1⟩; obtain ⟨hc1, hf1⟩ := bcell hb1; have hz1 := hb1.size; (try simp at hz1); (try have hy1 := Nat.lt_of_succ_le hz1); (try have hv1 := Nat.lt_of_succ_lt hy1); (try have hw10 : w.heap.size < w1.heap.size := by omega); (try have hw11 : w.heap.size + 1 < w1.heap.size := by omega); (try have hw12 : w.heap.size + 1 + 1 < w1.heap.size := by omega); (try have hw13 : w.heap.size + 1 + 1 + 1 < w1.heap.size := by omega)) | (go_at_call 48; (with_reducible refine (HJ.out _).mono ?_); rintro e w1 ⟨rfl, hb1⟩; obtain ⟨hc1, hf1⟩ := bcell hb1; have hz1 := hb1.size; (try simp at hz1); (try have hy1 := Nat.lt_of_succ_le hz1); (try have hv1 := Nat.lt_of_succ_lt hy1); (try have hw10 : w.heap.size < w1.heap.size := by omega); (try have hw11 : w.heap.size + 1 < w1.heap.size := by omega); (try have hw12 : w.heap.size + 1 + 1 < w1.heap.size := by omega); (try have hw13 : w.heap.size + 1 + 1 + 1 < w1.heap.size := by omega)) | (go_at_call 35; (with_reducible refine (O3.out _).mono ?_); rintro e w1 ⟨rfl, hb1⟩; obtain ⟨hc1, hf1⟩ := bcell hb1; have hz1 := hb1.size; (try simp at hz1); (try have hy1 := Nat.lt_of_succ_le hz1); (try have hv1 := Nat.lt_of_succ_lt hy1); (try have hw10 : w.heap.size < w1.heap.size := by omega); (try have hw11 : w.heap.size + 1 < w1.heap.size := by omega); (try have hw12 : w.heap.size + 1 + 1 < w1.heap.size := by omega); (try have hw13 : w.heap.size + 1 + 1 + 1 < w1.heap.size := by omega)) | (go_at_call 35; (with_reducible refine (O4.out _).mono ?_); rintro e w1 ⟨rfl, hb1⟩; obtain ⟨hc1, hf1⟩ := bcell hb1; have hz1 := hb1.size; (try simp at hz1); (try have hy1 := Nat.lt_of_succ_le hz1); (try have hv1 := Nat.lt_of_succ_lt hy1); (try have hw10 : w.heap.size < w1.heap.size := by omega); (try have hw11 : w.heap.size + 1 < w1.heap.size := by omega); (try have hw12 : w.heap.size + 1 + 1 < w1.heap.size := by omega); (try have hw13 : w.heap.size + 1 + 1 + 1 < w1.heap.size := by omega)) | (go_at_call 42; (with_reducible refine (meet_c _).mono ?_); rintro e w1 ⟨rfl, hb1⟩; obtain ⟨hc1, hf1⟩ := bcell hb1; have hz1 := hb1.size; (try simp at hz1); (try have hy1 := Nat.lt_of_succ_le hz1); (try have hv1 := Nat.lt_of_succ_lt hy1); (try have hw10 : w.heap.size < w1.heap.size := by omega); (try have hw11 : w.heap.size + 1 < w1.heap.size := by omega); (try have hw12 : w.heap.size + 1 + 1 < w1.heap.size := by omega); (try have hw13 : w.heap.size + 1 + 1 + 1 < w1.heap.size := by omega)))
  go_ret
  exact ⟨rfl, (by repeat (first | (with_reducible assumption) | (with_reducible exact Below.refl _ _) | (with_reducible refine Below.alloc ?_ (by first | omega | (simp; omega) | (simp; done) | (dsimp only; omega)) _) | (with_reducible refine Below.setCell ?_ (by first | omega | (simp; omega) | (simp; done) | (dsimp only; omega)) _) | (with_reducible refine Below.drew ?_) | (with_reducible refine Below.trans ?_ (Below.mono (by assumption) (by first | omega | (simp; omega) | (simp; done) | (dsimp only; omega))))))⟩

set_option maxRecDepth 100000 in
set_option maxHeartbeats 4000000 in
theorem law_congMakes (m r x0 x1 : Int) (hm : I64 m) (h0 : U64 x0) (h1 : U64 x1) (w : World) :
    Calls Try.prog 9 #[.int .i64 m, .int .i64 r, .agg #[.int .u64 x0, .int .u64 x1]] w fun e w' => e = .returned (.bool true) ∧ Below w.heap.size w w' := by
  have H1 : Hid (∀ w, Calls Try.prog 34 #[.agg #[.bool true, .int .i64 m, .int .i64 r]] w fun e w' => e = .returned (.agg #[.bool (Cg.of m r).s, .int .i64 (Cg.of m r).m, .int .i64 (Cg.of m r).r]) ∧ Below w.heap.size w w') := Lib.hid (fun w => r5_clean ⟨true, m, r⟩ hm w)
  have H2 := Lib.hid (cong_of m r hm)
  have H3 := Lib.hid (cong_one r)
  have H4 : Hid (∀ w, Calls Try.prog 34 #[.agg #[.bool true, .int .i64 0, .int .i64 r]] w fun e w' => e = .returned (.agg #[.bool (Cg.of 0 r).s, .int .i64 (Cg.of 0 r).m, .int .i64 (Cg.of 0 r).r]) ∧ Below w.heap.size w w') := Lib.hid (fun w => r5_clean ⟨true, 0, r⟩ I64_0 w)
  have H5 : Hid (∀ w, Calls Try.prog 37 #[] w fun e w' => e = .returned (.agg #[.bool true, .int .i64 1, .int .i64 0]) ∧ Below w.heap.size w w') := Lib.hid (fun w => cong_all w)
  have hmod := cong_mod r m hm
  have H7 := Lib.hid (cong_gcd' x0 x1 h0 h1)
  have H8 := Lib.hid (r5_gcd' x0 x1 h0 h1)
  have HL := Lib.hid law05_lives
  have key : (0 < m → modI r m = (Cg.of m r).r) ∧ (¬ 0 < m → modI r m = r) := by
    refine ⟨fun h => ?_, fun h => if_pos (by omega)⟩
    have : Cg.of m r = ⟨true, m, modI r m⟩ := Cg.clean_pos (c := ⟨true, m, r⟩) rfl (by dsimp only; omega)
    rw [this]
  generalize Cg.of m r = c at *
  generalize Cg.of 0 r = d at *
  generalize gcdI x0 x1 = g at *
  clear h0 h1
  have hw : ∀ rest : Int, ((if 0 < m then c.r else r) = rest) → modI r m = rest := by
    intro rest h
    by_cases hp : 0 < m
    · rw [key.1 hp, ← h, if_pos hp]
    · rw [key.2 hp, ← h, if_neg hp]
  by_cases hp : 0 < m
  · rw [key.1 hp] at hmod
    have H6 := Lib.hid hmod
    clear hmod key hw
    go_enter Try.func9, Try.ntmps9
    go_upto_region 1 with fail
    generalize hW : (w.alloc (.cells #[.int .u64 x0, .int .u64 x1] 43)) = W
    have q0_0 : W.cell? ⟨w.heap.size, 0, none⟩ = some (.int .u64 x0) := by rw [← hW]; simp [go_sem]
    have q0_1 : W.cell? ⟨w.heap.size, 1, none⟩ = some (.int .u64 x1) := by rw [← hW]; simp [go_sem]
    have z0 : w.heap.size < W.heap.size := by rw [← hW]; first | (simp; done) | (simp; omega)
    have HW : Below w.heap.size w W := by rw [← hW]; exact (by repeat (first | (with_reducible assumption) | (with_reducible exact Below.refl _ _) | (with_reducible refine Below.alloc ?_ (by first | omega | (simp; omega) | (simp; done) | (dsimp only; omega)) _) | (with_reducible refine Below.setCell ?_ (by first | omega | (simp; omega) | (simp; done) | (dsimp only; omega)) _) | (with_reducible refine Below.drew ?_) | (with_reducible refine Below.trans ?_ (Below.mono (by assumption) (by first | omega | (simp; omega) | (simp; done) | (dsimp only; omega))))))
    clear hW
    go_wp2_with (go_at_call 34; (with_reducible refine (H1.out _).mono ?_); rintro e w1 ⟨rfl, hb1⟩; obtain ⟨hc1, hf1⟩ := bcell hb1; have hz1 := hb1.size; (try simp at hz1); (try have hy1 := Nat.lt_of_succ_le hz1); (try have hv1 := Nat.lt_of_succ_lt hy1); (try have hw10 : w.heap.size < w1.heap.size := by omega); (try have hw11 : w.heap.size + 1 < w1.heap.size := by omega); (try have hw12 : w.heap.size + 1 + 1 < w1.heap.size := by omega); (try have hw13 : w.heap.size + 1 + 1 + 1 < w1.heap.size := by omega))
    have p7 := al_new w1 (.cells #[.bool c.s, .int .i64 c.m, .int .i64 c.r] 45) rfl
    have zx : w1.heap.size < (w1.alloc (.cells #[.bool c.s, .int .i64 c.m, .int .i64 c.r] 45)).heap.size := by rw [al_size]; omega
    have HX : Below W.heap.size W (w1.alloc (.cells #[.bool c.s, .int .i64 c.m, .int .i64 c.r] 45)) := (by repeat (first | (with_reducible assumption) | (with_reducible exact Below.refl _ _) | (with_reducible refine Below.alloc ?_ (by first | omega | (simp; omega) | (simp; done) | (dsimp only; omega)) _) | (with_reducible refine Below.setCell ?_ (by first | omega | (simp; omega) | (simp; done) | (dsimp only; omega)) _) | (with_reducible refine Below.drew ?_) | (with_reducible refine Below.trans ?_ (Below.mono (by assumption) (by first | omega | (simp; omega) | (simp; done) | (dsimp only; omega))))))
    generalize w1.alloc (.cells #[.bool c.s, .int .i64 c.m, .int .i64 c.r] 45) = X at *
    replace q0_0 := (HX.cell (p := ⟨w.heap.size, 0, none⟩) z0).trans q0_0
    replace q0_1 := (HX.cell (p := ⟨w.heap.size, 1, none⟩) z0).trans q0_1
    replace z0 := Nat.lt_of_lt_of_le z0 HX.size
    have q7_0 := blk_cell p7 0
    have q7_1 := blk_cell p7 1
    have q7_2 := blk_cell p7 2
    simp only [List.getElem?_toArray, List.getElem?_cons_zero, List.getElem?_cons_succ] at q7_0 q7_1 q7_2
    generalize w1.heap.size = b7 at *
    replace HW := HW.trans (HX.mono HW.size)
    clear p7 HX H1 hb1 hc1 hf1
    refine region_seq (S := fun w' => Below X.heap.size X w') rfl (by kernel_rfl) (by kernel_rfl) (by repeat (first | (with_reducible assumption) | (with_reducible exact Below.refl _ _) | (with_reducible refine Below.alloc ?_ (by first | omega | (simp; omega) | (simp; done) | (dsimp only; omega)) _) | (with_reducible refine Below.setCell ?_ (by first | omega | (simp; omega) | (simp; done) | (dsimp only; omega)) _) | (with_reducible refine Below.drew ?_) | (with_reducible refine Below.trans ?_ (Below.mono (by assumption) (by first | omega | (simp; omega) | (simp; done) | (dsimp only; omega)))))) (fun fin hfin => ?_)
    iterate 42
      first
        | (refine SeqL.yes (v := ?_) (A' := ?_) rfl (by rfl) ?_ ?_ ?_
           rotate_left 2
           · intro w' K hS hK
             obtain ⟨hc, hf⟩ := bcell hS
             have hz := hS.size
             go_simp
             first
               | exact hK.out _ hS
               | (go_at_call 35; (with_reducible refine (H2.out _).mono ?_); rintro e w1 ⟨rfl, hb1⟩; exact hK.out _ (hS.trans (hb1.mono hz)))
               | (go_at_call 36; (with_reducible refine (H3.out _).mono ?_); rintro e w1 ⟨rfl, hb1⟩; exact hK.out _ (hS.trans (hb1.mono hz)))
               | (go_at_call 34; (with_reducible refine (H4.out _).mono ?_); rintro e w1 ⟨rfl, hb1⟩; exact hK.out _ (hS.trans (hb1.mono hz)))
               | (go_at_call 37; (with_reducible refine (H5.out _).mono ?_); rintro e w1 ⟨rfl, hb1⟩; exact hK.out _ (hS.trans (hb1.mono hz)))
               | (go_at_call 38; (with_reducible refine (H6.out _).mono ?_); rintro e w1 ⟨rfl, rfl⟩; exact hK.out _ hS)
               | (go_at_call 39; (with_reducible refine (H7.out _).mono ?_); rintro e w1 ⟨rfl, hb1⟩; exact hK.out _ (hS.trans (hb1.mono hz)))
               | (go_at_call 40; (with_reducible refine (H8.out _).mono ?_); rintro e w1 ⟨rfl, hb1⟩; exact hK.out _ (hS.trans (hb1.mono hz)))
               | (go_at_call 41; (with_reducible refine (HL.out _).mono ?_); rintro e w1 ⟨rfl, hb1⟩; exact hK.out _ (hS.trans (hb1.mono hz)))
               | trace_state
           · simp only [Act.put, List.setIfInBounds_toArray, List.set_cons_zero, List.set_cons_succ]; exact rfl)
        | (refine SeqL.no (A' := ?_) rfl (by rfl) ?_ ?_
           rotate_left
           · simp only [Act.put, List.setIfInBounds_toArray, List.set_cons_zero, List.set_cons_succ]; exact rfl)
    refine SeqL.nil (hfin.out _ ?_)
    clear hfin fin
    intro w1 hS1
    go_wp2
    go_ret
    exact ⟨rfl, (by repeat (first | (with_reducible assumption) | (with_reducible exact Below.refl _ _) | (with_reducible refine Below.alloc ?_ (by first | omega | (simp; omega) | (simp; done) | (dsimp only; omega)) _) | (with_reducible refine Below.setCell ?_ (by first | omega | (simp; omega) | (simp; done) | (dsimp only; omega)) _) | (with_reducible refine Below.drew ?_) | (with_reducible refine Below.trans ?_ (Below.mono (by assumption) (by first | omega | (simp; omega) | (simp; done) | (dsimp only; omega))))))⟩
  · rw [key.2 hp] at hmod
    have H6 := Lib.hid hmod
    clear hmod key hw
    go_enter Try.func9, Try.ntmps9
    go_upto_region 1 with fail
    generalize hW : (w.alloc (.cells #[.int .u64 x0, .int .u64 x1] 43)) = W
    have q0_0 : W.cell? ⟨w.heap.size, 0, none⟩ = some (.int .u64 x0) := by rw [← hW]; simp [go_sem]
    have q0_1 : W.cell? ⟨w.heap.size, 1, none⟩ = some (.int .u64 x1) := by rw [← hW]; simp [go_sem]
    have z0 : w.heap.size < W.heap.size := by rw [← hW]; first | (simp; done) | (simp; omega)
    have HW : Below w.heap.size w W := by rw [← hW]; exact (by repeat (first | (with_reducible assumption) | (with_reducible exact Below.refl _ _) | (with_reducible refine Below.alloc ?_ (by first | omega | (simp; omega) | (simp; done) | (dsimp only; omega)) _) | (with_reducible refine Below.setCell ?_ (by first | omega | (simp; omega) | (simp; done) | (dsimp only; omega)) _) | (with_reducible refine Below.drew ?_) | (with_reducible refine Below.trans ?_ (Below.mono (by assumption) (by first | omega | (simp; omega) | (simp; done) | (dsimp only; omega))))))
    clear hW
    go_wp2_with (go_at_call 34; (with_reducible refine (H1.out _).mono ?_); rintro e w1 ⟨rfl, hb1⟩; obtain ⟨hc1, hf1⟩ := bcell hb1; have hz1 := hb1.size; (try simp at hz1); (try have hy1 := Nat.lt_of_succ_le hz1); (try have hv1 := Nat.lt_of_succ_lt hy1); (try have hw10 : w.heap.size < w1.heap.size := by omega); (try have hw11 : w.heap.size + 1 < w1.heap.size := by omega); (try have hw12 : w.heap.size + 1 + 1 < w1.heap.size := by omega); (try have hw13 : w.heap.size + 1 + 1 + 1 < w1.heap.size := by omega))
    have p7 := al_new w1 (.cells #[.bool c.s, .int .i64 c.m, .int .i64 c.r] 45) rfl
    have zx : w1.heap.size < (w1.alloc (.cells #[.bool c.s, .int .i64 c.m, .int .i64 c.r] 45)).heap.size := by rw [al_size]; omega
    have HX : Below W.heap.size W (w1.alloc (.cells #[.bool c.s, .int .i64 c.m, .int .i64 c.r] 45)) := (by repeat (first | (with_reducible assumption) | (with_reducible exact Below.refl _ _) | (with_reducible refine Below.alloc ?_ (by first | omega | (simp; omega) | (simp; done) | (dsimp only; omega)) _) | (with_reducible refine Below.setCell ?_ (by first | omega | (simp; omega) | (simp; done) | (dsimp only; omega)) _) | (with_reducible refine Below.drew ?_) | (with_reducible refine Below.trans ?_ (Below.mono (by assumption) (by first | omega | (simp; omega) | (simp; done) | (dsimp only; omega))))))
    generalize w1.alloc (.cells #[.bool c.s, .int .i64 c.m, .int .i64 c.r] 45) = X at *
    replace q0_0 := (HX.cell (p := ⟨w.heap.size, 0, none⟩) z0).trans q0_0
    replace q0_1 := (HX.cell (p := ⟨w.heap.size, 1, none⟩) z0).trans q0_1
    replace z0 := Nat.lt_of_lt_of_le z0 HX.size
    have q7_0 := blk_cell p7 0
    have q7_1 := blk_cell p7 1
    have q7_2 := blk_cell p7 2
    simp only [List.getElem?_toArray, List.getElem?_cons_zero, List.getElem?_cons_succ] at q7_0 q7_1 q7_2
    generalize w1.heap.size = b7 at *
    replace HW := HW.trans (HX.mono HW.size)
    clear p7 HX H1 hb1 hc1 hf1
    refine region_seq (S := fun w' => Below X.heap.size X w') rfl (by kernel_rfl) (by kernel_rfl) (by repeat (first | (with_reducible assumption) | (with_reducible exact Below.refl _ _) | (with_reducible refine Below.alloc ?_ (by first | omega | (simp; omega) | (simp; done) | (dsimp only; omega)) _) | (with_reducible refine Below.setCell ?_ (by first | omega | (simp; omega) | (simp; done) | (dsimp only; omega)) _) | (with_reducible refine Below.drew ?_) | (with_reducible refine Below.trans ?_ (Below.mono (by assumption) (by first | omega | (simp; omega) | (simp; done) | (dsimp only; omega)))))) (fun fin hfin => ?_)
    iterate 42
      first
        | (refine SeqL.yes (v := ?_) (A' := ?_) rfl (by rfl) ?_ ?_ ?_
           rotate_left 2
           · intro w' K hS hK
             obtain ⟨hc, hf⟩ := bcell hS
             have hz := hS.size
             go_simp
             first
               | exact hK.out _ hS
               | (go_at_call 35; (with_reducible refine (H2.out _).mono ?_); rintro e w1 ⟨rfl, hb1⟩; exact hK.out _ (hS.trans (hb1.mono hz)))
               | (go_at_call 36; (with_reducible refine (H3.out _).mono ?_); rintro e w1 ⟨rfl, hb1⟩; exact hK.out _ (hS.trans (hb1.mono hz)))
               | (go_at_call 34; (with_reducible refine (H4.out _).mono ?_); rintro e w1 ⟨rfl, hb1⟩; exact hK.out _ (hS.trans (hb1.mono hz)))
               | (go_at_call 37; (with_reducible refine (H5.out _).mono ?_); rintro e w1 ⟨rfl, hb1⟩; exact hK.out _ (hS.trans (hb1.mono hz)))
               | (go_at_call 38; (with_reducible refine (H6.out _).mono ?_); rintro e w1 ⟨rfl, rfl⟩; exact hK.out _ hS)
               | (go_at_call 39; (with_reducible refine (H7.out _).mono ?_); rintro e w1 ⟨rfl, hb1⟩; exact hK.out _ (hS.trans (hb1.mono hz)))
               | (go_at_call 40; (with_reducible refine (H8.out _).mono ?_); rintro e w1 ⟨rfl, hb1⟩; exact hK.out _ (hS.trans (hb1.mono hz)))
               | (go_at_call 41; (with_reducible refine (HL.out _).mono ?_); rintro e w1 ⟨rfl, hb1⟩; exact hK.out _ (hS.trans (hb1.mono hz)))
               | trace_state
           · simp only [Act.put, List.setIfInBounds_toArray, List.set_cons_zero, List.set_cons_succ]; exact rfl)
        | (refine SeqL.no (A' := ?_) rfl (by rfl) ?_ ?_
           rotate_left
           · simp only [Act.put, List.setIfInBounds_toArray, List.set_cons_zero, List.set_cons_succ]; exact rfl)
    refine SeqL.nil (hfin.out _ ?_)
    clear hfin fin
    intro w1 hS1
    go_wp2
    go_ret
    exact ⟨rfl, (by repeat (first | (with_reducible assumption) | (with_reducible exact Below.refl _ _) | (with_reducible refine Below.alloc ?_ (by first | omega | (simp; omega) | (simp; done) | (dsimp only; omega)) _) | (with_reducible refine Below.setCell ?_ (by first | omega | (simp; omega) | (simp; done) | (dsimp only; omega)) _) | (with_reducible refine Below.drew ?_) | (with_reducible refine Below.trans ?_ (Below.mono (by assumption) (by first | omega | (simp; omega) | (simp; done) | (dsimp only; omega))))))⟩
end Go.Proofs.Ytbjdiaakhlgcgaa
