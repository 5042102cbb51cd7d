/- The law's own trial of layer 5, walked. -/
import Derived.Test.YtbjdiaakhlgcgaaCongE
namespace Go.Proofs.Ytbjdiaakhlgcgaa
open Go.RowKit

set_option maxRecDepth 100000 in
set_option maxHeartbeats 2000000 in
theorem meet_c (w : World) : Calls Try.prog 42 #[.agg #[.bool true, .int .i64 3, .int .i64 2], .agg #[.bool true, .int .i64 5, .int .i64 3]] w fun e w' => e = .returned (.agg #[.bool true, .int .i64 15, .int .i64 8]) ∧ Below w.heap.size w w' := by
  have i3 : I64 3 := by unfold I64; omega
  have i5 : I64 5 := by unfold I64; omega
  have HA : Hid (∀ w, Calls Try.prog 53 #[.agg #[.bool true, .int .i64 3, .int .i64 2]] w fun e w' => e = .returned (.agg #[.bool true, .int .i64 3, .int .i64 2]) ∧ Below w.heap.size w w') := Lib.hid (fun w => cong_clean ⟨true, 3, 2⟩ i3 w)
  have HB : Hid (∀ w, Calls Try.prog 53 #[.agg #[.bool true, .int .i64 5, .int .i64 3]] w fun e w' => e = .returned (.agg #[.bool true, .int .i64 5, .int .i64 3]) ∧ Below w.heap.size w w') := Lib.hid (fun w => cong_clean ⟨true, 5, 3⟩ i5 w)
  have hc := fun w => cong_common ⟨true, 3, 2⟩ ⟨true, 5, 3⟩ i3 (by dsimp only; omega) i5 (by dsimp only; omega) w
  dsimp only at hc
  rw [show gcdI 3 5 = 1 from by decide] at hc
  have HC := Lib.hid hc; clear hc
  have hg := fun w => cong_agree ⟨true, 3, 2⟩ ⟨true, 5, 3⟩ i3 (by dsimp only; omega) i5 (by dsimp only; omega) w
  dsimp only at hg
  rw [show (modI 2 (gcdI 3 5) == modI 3 (gcdI 3 5)) = true from by decide] at hg
  have HG := Lib.hid hg; clear hg
  have hm := fun w => wide_mul 3 5 i3 i5 w
  rw [show hiW (3 * 5) = 0 from by decide, show loW (3 * 5) = 15 from by decide] at hm
  have HM := Lib.hid hm; clear hm
  have hi := fun w => wide_int 0 15 (by unfold I64; omega) (by unfold U64 M64; omega) w
  rw [show intI (wv 0 15) = 15 from by decide, show isI (wv 0 15) = true from by decide] at hi
  have HI := Lib.hid hi; clear hi
  have HO : Hid (∀ w, Calls Try.prog 35 #[.int .i64 15, .int .i64 8] w fun e w' => e = .returned (.agg #[.bool true, .int .i64 15, .int .i64 8]) ∧ Below w.heap.size w w') := Lib.hid (fun w => cong_of 15 8 (by unfold I64; omega) w)
  have kw3 : IntKind.i64.wrap 3 = 3 := IntWalk.i64_in _ (by omega)
  have kw6 : IntKind.i64.wrap 6 = 6 := IntWalk.i64_in _ (by omega)
  have kw8 : IntKind.i64.wrap 8 = 8 := IntWalk.i64_in _ (by omega)
  have hdr : ∀ w : World, w.drew.heap.size = w.heap.size := fun _ => rfl
  go_enter Try.func42, Try.ntmps42
  go_upto_region 1 with fail
  have hh0 := al3_0 w (.cells #[.bool true, .int .i64 3, .int .i64 2] 45) (.cells #[.bool true, .int .i64 5, .int .i64 3] 45) (.cells #[.bool false, .int .i64 0, .int .i64 0] 45)
  have hh1 := al3_1 w (.cells #[.bool true, .int .i64 3, .int .i64 2] 45) (.cells #[.bool true, .int .i64 5, .int .i64 3] 45) (.cells #[.bool false, .int .i64 0, .int .i64 0] 45)
  have hh2 := al3_2 w (.cells #[.bool true, .int .i64 3, .int .i64 2] 45) (.cells #[.bool true, .int .i64 5, .int .i64 3] 45) (.cells #[.bool false, .int .i64 0, .int .i64 0] 45)
  generalize hW : ((w.alloc (.cells #[.bool true, .int .i64 3, .int .i64 2] 45)).alloc (.cells #[.bool true, .int .i64 5, .int .i64 3] 45)).alloc (.cells #[.bool false, .int .i64 0, .int .i64 0] 45) = W at *
  have HW : Below w.heap.size w W := by rw [← hW]; exact (by repeat (first | (with_reducible assumption) | (with_reducible exact Below.refl _ _) | (with_reducible refine Below.alloc ?_ (by first | omega | (simp; omega) | (simp; done) | (dsimp only; omega)) _) | (with_reducible refine Below.setCell ?_ (by first | omega | (simp; omega) | (simp; done) | (dsimp only; omega)) _) | (with_reducible refine Below.drew ?_) | (with_reducible refine Below.trans ?_ (Below.mono (by assumption) (by first | omega | (simp; omega) | (simp; done) | (dsimp only; omega))))))
  clear hW
  have q0_0 := blk_cell hh0 0
  have q0_1 := blk_cell hh0 1
  have q0_2 := blk_cell hh0 2
  have q1_0 := blk_cell hh1 0
  have q1_1 := blk_cell hh1 1
  have q1_2 := blk_cell hh1 2
  simp only [List.getElem?_toArray, List.getElem?_cons_zero, List.getElem?_cons_succ] at q0_0 q0_1 q0_2 q1_0 q1_1 q1_2
  have z0 := blk_lt hh0
  have z1 := blk_lt hh1
  have z2 := blk_lt hh2
  have f0 := blk_free hh0
  have f1 := blk_free hh1
  have K0 := Lib.hid hh0; have K1 := Lib.hid hh1; have K2 := Lib.hid hh2; clear hh0 hh1 hh2
  refine region_seqg (W := W) [_, _, _, _] [_, _] rfl (by kernel_rfl) (by kernel_rfl) (by repeat (first | (with_reducible assumption) | (with_reducible exact Below.refl _ _) | (with_reducible refine Below.alloc ?_ (by first | omega | (simp; omega) | (simp; done) | (dsimp only; omega)) _) | (with_reducible refine Below.setCell ?_ (by first | omega | (simp; omega) | (simp; done) | (dsimp only; omega)) _) | (with_reducible refine Below.drew ?_) | (with_reducible refine Below.trans ?_ (Below.mono (by assumption) (by first | omega | (simp; omega) | (simp; done) | (dsimp only; omega)))))) (fun fin hfin => ?_)
  iterate 4
    first
      | (refine SeqG.yes (v := ?_) (A' := ?_) rfl (fun γ => by rfl) ?_ ?_ ?_
         rotate_left 2
         · intro γ w' K hS hK
           obtain ⟨hc, hf⟩ := bcell hS
           have hz := hS.size
           go_simp
           first
             | exact hK.out _ (Below.refl _ _)
             | (go_at_call 53; (with_reducible refine (HA.out _).mono ?_); rintro e w1 ⟨rfl, hb1⟩; exact hK.out _ hb1)
             | (go_at_call 53; (with_reducible refine (HB.out _).mono ?_); rintro e w1 ⟨rfl, hb1⟩; exact hK.out _ hb1)
             | trace_state
         · intro γ; simp only [Act.put, List.setIfInBounds_toArray, List.set_cons_zero, List.set_cons_succ]; exact rfl)
      | (refine SeqG.no (A' := ?_) rfl (fun γ => by rfl) ?_ ?_
         rotate_left
         · intro γ; simp only [Act.put, List.setIfInBounds_toArray, List.set_cons_zero, List.set_cons_succ]; exact rfl)
  refine SeqG.nil (hfin.out _ _ ?_)
  clear hfin fin
  intro γ lo hi w1 hB1 hF hD
  clear hD
  obtain ⟨hc, hf⟩ := bcell hB1
  have hz := hB1.size
  refine TailL.cons (fun K hK => ?_)
  go_simp
  refine hK.out _ _ ?_
  clear hK K
  refine TailL.cons (fun K hK => ?_)
  go_simp
  refine hK.out _ _ ?_
  clear hK K
  refine TailL.nil ?_
  generalize hX : (((((w1.setCell ⟨w.heap.size, 0, none⟩ (.bool true)).setCell ⟨w.heap.size, 1, none⟩ (.int .i64 3)).setCell ⟨w.heap.size, 2, none⟩ (.int .i64 2)).setCell ⟨w.heap.size + 1, 0, none⟩ (.bool true)).setCell ⟨w.heap.size + 1, 1, none⟩ (.int .i64 5)).setCell ⟨w.heap.size + 1, 2, none⟩ (.int .i64 3) = X
  have HX : Below w.heap.size w X := by rw [← hX]; exact (by repeat (first | (with_reducible assumption) | (with_reducible exact Below.refl _ _) | (with_reducible refine Below.alloc ?_ (by first | omega | (simp; omega) | (simp; done) | (dsimp only; omega)) _) | (with_reducible refine Below.setCell ?_ (by first | omega | (simp; omega) | (simp; done) | (dsimp only; omega)) _) | (with_reducible refine Below.drew ?_) | (with_reducible refine Below.trans ?_ (Below.mono (by assumption) (by first | omega | (simp; omega) | (simp; done) | (dsimp only; omega))))))
  have p0 : X.heap[w.heap.size]? = some (.cells #[.bool true, .int .i64 3, .int .i64 2] 45) := by
    rw [← hX]
    iterate 3 (refine (Below.heap_setCell _ _ _ _ (by dsimp only; omega)).trans ?_)
    refine blk_set3 (c0 := .bool true) (c1 := .int .i64 3) (c2 := .int .i64 2) ?_
    rw [hB1.block _ z0]; exact K0.out
  have p1 : X.heap[w.heap.size + 1]? = some (.cells #[.bool true, .int .i64 5, .int .i64 3] 45) := by
    rw [← hX]
    refine blk_set3 (c0 := .bool true) (c1 := .int .i64 5) (c2 := .int .i64 3) ?_
    iterate 3 (refine (Below.heap_setCell _ _ _ _ (by dsimp only; omega)).trans ?_)
    rw [hB1.block _ z1]; exact K1.out
  have p2 : X.heap[w.heap.size + 1 + 1]? = some (.cells #[.bool false, .int .i64 0, .int .i64 0] 45) := by
    rw [← hX]
    iterate 6 (refine (Below.heap_setCell _ _ _ _ (by dsimp only; omega)).trans ?_)
    rw [hB1.block _ z2]; exact K2.out
  clear hX hc hf hz K0 K1 K2 q0_0 q0_1 q0_2 q1_0 q1_1 q1_2 z0 z1 z2 f0 f1 hB1 HW HA HB
  have q0_0 := blk_cell p0 0
  have q0_1 := blk_cell p0 1
  have q0_2 := blk_cell p0 2
  have q1_0 := blk_cell p1 0
  have q1_1 := blk_cell p1 1
  have q1_2 := blk_cell p1 2
  have q2_0 := blk_cell p2 0
  have q2_1 := blk_cell p2 1
  have q2_2 := blk_cell p2 2
  simp only [List.getElem?_toArray, List.getElem?_cons_zero, List.getElem?_cons_succ] at q0_0 q0_1 q0_2 q1_0 q1_1 q1_2 q2_0 q2_1 q2_2
  have z0 := blk_lt p0
  have z1 := blk_lt p1
  have z2 := blk_lt p2
  have f2 := blk_free p2
  clear p0 p1 p2
  go_wp2_with (go_at_call 54; (with_reducible refine (HG.out _).mono ?_); rintro e w1 ⟨rfl, hb1⟩; obtain ⟨hc1, hf1⟩ := bcell hb1; have hz1 := hb1.size; (try simp at hz1); (try have hy1 := Nat.lt_of_succ_le hz1); (try have hv1 := Nat.lt_of_succ_lt hy1); (try have hw10 : w.heap.size < w1.heap.size := by omega); (try have hw11 : w.heap.size + 1 < w1.heap.size := by omega); (try have hw12 : w.heap.size + 1 + 1 < w1.heap.size := by omega); (try have hw13 : w.heap.size + 1 + 1 + 1 < w1.heap.size := by omega))
  obtain ⟨Y, rfl⟩ : ∃ Y : World, Y = w1 := ⟨_, rfl⟩
  have HY : Below w.heap.size w Y := (by repeat (first | (with_reducible assumption) | (with_reducible exact Below.refl _ _) | (with_reducible refine Below.alloc ?_ (by first | omega | (simp; omega) | (simp; done) | (dsimp only; omega)) _) | (with_reducible refine Below.setCell ?_ (by first | omega | (simp; omega) | (simp; done) | (dsimp only; omega)) _) | (with_reducible refine Below.drew ?_) | (with_reducible refine Below.trans ?_ (Below.mono (by assumption) (by first | omega | (simp; omega) | (simp; done) | (dsimp only; omega))))))
  replace q0_0 := (hb1.cell (p := ⟨w.heap.size, 0, none⟩) z0).trans q0_0
  replace q0_1 := (hb1.cell (p := ⟨w.heap.size, 1, none⟩) z0).trans q0_1
  replace q0_2 := (hb1.cell (p := ⟨w.heap.size, 2, none⟩) z0).trans q0_2
  replace q1_0 := (hb1.cell (p := ⟨w.heap.size + 1, 0, none⟩) z1).trans q1_0
  replace q1_1 := (hb1.cell (p := ⟨w.heap.size + 1, 1, none⟩) z1).trans q1_1
  replace q1_2 := (hb1.cell (p := ⟨w.heap.size + 1, 2, none⟩) z1).trans q1_2
  replace q2_0 := (hb1.cell (p := ⟨w.heap.size + 1 + 1, 0, none⟩) z2).trans q2_0
  replace q2_1 := (hb1.cell (p := ⟨w.heap.size + 1 + 1, 1, none⟩) z2).trans q2_1
  replace q2_2 := (hb1.cell (p := ⟨w.heap.size + 1 + 1, 2, none⟩) z2).trans q2_2
  have f2' : ∀ o, Y.frozen? ⟨w.heap.size + 1 + 1, o, none⟩ = false := fun o => (hb1.frozen (p := ⟨w.heap.size + 1 + 1, o, none⟩) z2).trans (f2 o)
  replace z0 := Nat.lt_of_lt_of_le z0 hb1.size
  replace z1 := Nat.lt_of_lt_of_le z1 hb1.size
  replace z2 := Nat.lt_of_lt_of_le z2 hb1.size
  clear hb1 hc1 hf1 f2 HX
  refine region_seqg (W := Y) [_, _, _, _, _, _, _, _, _, _] [_] rfl (by kernel_rfl) (by kernel_rfl) (by repeat (first | (with_reducible assumption) | (with_reducible exact Below.refl _ _) | (with_reducible refine Below.alloc ?_ (by first | omega | (simp; omega) | (simp; done) | (dsimp only; omega)) _) | (with_reducible refine Below.setCell ?_ (by first | omega | (simp; omega) | (simp; done) | (dsimp only; omega)) _) | (with_reducible refine Below.drew ?_) | (with_reducible refine Below.trans ?_ (Below.mono (by assumption) (by first | omega | (simp; omega) | (simp; done) | (dsimp only; omega)))))) (fun fin hfin => ?_)
  iterate 9
    first
      | (refine SeqG.yes (v := ?_) (A' := ?_) rfl (fun γ => by rfl) ?_ ?_ ?_
         rotate_left 2
         · intro γ w' K hS hK
           obtain ⟨hc, hf⟩ := bcell hS
           have hz := hS.size
           go_simp
           first
             | exact hK.out _ (Below.refl _ _)
             | (go_at_call 56; (with_reducible refine (HC.out _).mono ?_); rintro e w1 ⟨rfl, hb1⟩; exact hK.out _ hb1)
             | (go_at_call 55; (with_reducible refine (HM.out _).mono ?_); rintro e w1 ⟨rfl, hb1⟩; exact hK.out _ hb1)
             | trace_state
         · intro γ; simp only [Act.put, List.setIfInBounds_toArray, List.set_cons_zero, List.set_cons_succ]; exact rfl)
      | (refine SeqG.no (A' := ?_) rfl (fun γ => by rfl) ?_ ?_
         rotate_left
         · intro γ; simp only [Act.put, List.setIfInBounds_toArray, List.set_cons_zero, List.set_cons_succ]; exact rfl)
  refine SeqG.make (k := 9) (A' := ?_) (fun g => .pointer (some ⟨g 0, 0, none⟩)) (RCell #[.int .i64 0, .int .u64 0] 59) rfl (fun γ => by rfl) (RCell.stable _ _) ?_ ?_ ?_
  rotate_left
  · intro γ w' K hS _ hK
    have hm := RCell.made (#[.int .i64 0, .int .u64 0]) (59) w'
    have HK := Lib.hid (hK.out (fun _ => w'.heap.size) (w'.alloc (.cells #[.int .i64 0, .int .u64 0] 59)) ((Below.refl _ _).alloc (Nat.le_refl _) _) hm); clear hK hm
    go_simp
    exact HK.out
  · intro γ; simp only [Act.put, List.setIfInBounds_toArray, List.set_cons_zero, List.set_cons_succ]; exact rfl
  refine SeqG.nil (hfin.out _ _ ?_)
  clear hfin fin
  intro γ lo hi w1 hB1 hF hD
  replace hF := listF1 hF
  dsimp only at hF
  clear hD
  obtain ⟨y6, _, y7, o7, p7, h7⟩ := hF
  have hzy := hB1.size
  generalize γ 9 0 = b5 at *
  have g7 := blk_cell h7
  have f7 := blk_free h7
  have x7 := blk_lt h7
  have K7 := Lib.hid h7; clear h7
  refine TailL.cons (fun K hK => ?_)
  go_simp
  refine hK.out _ _ ?_
  clear hK K
  refine TailL.nil ?_
  generalize hX : (w1.setCell ⟨b5, 0, none⟩ (.int .i64 0)).setCell ⟨b5, 1, none⟩ (.int .u64 15) = X2
  have HX2 : Below Y.heap.size Y X2 := by rw [← hX]; exact (by repeat (first | (with_reducible assumption) | (with_reducible exact Below.refl _ _) | (with_reducible refine Below.alloc ?_ (by first | omega | (simp; omega) | (simp; done) | (dsimp only; omega)) _) | (with_reducible refine Below.setCell ?_ (by first | omega | (simp; omega) | (simp; done) | (dsimp only; omega)) _) | (with_reducible refine Below.drew ?_) | (with_reducible refine Below.trans ?_ (Below.mono (by assumption) (by first | omega | (simp; omega) | (simp; done) | (dsimp only; omega))))))
  have p7' : X2.heap[b5]? = some (.cells #[.int .i64 0, .int .u64 15] 59) := by rw [← hX]; exact blk_set2 K7.out
  clear hX
  have q7_0 := blk_cell p7' 0
  have q7_1 := blk_cell p7' 1
  simp only [List.getElem?_toArray, List.getElem?_cons_zero, List.getElem?_cons_succ] at q7_0 q7_1
  have z7 := blk_lt p7'
  obtain ⟨hcx, hfx⟩ := bcell HX2
  have hzx := HX2.size
  have v0 : w.heap.size < X2.heap.size := by omega
  have v1 : w.heap.size + 1 < X2.heap.size := by omega
  have v2 : w.heap.size + 1 + 1 < X2.heap.size := by omega
  clear hB1 K7 g7 f7 x7 o7 p7 y7 y6
  go_wp2_with (go_at_call 57; (with_reducible refine (HI.out _).mono ?_); rintro e w1 ⟨rfl, hb1⟩; obtain ⟨hc1, hf1⟩ := bcell hb1; have hz1 := hb1.size; (try simp at hz1); (try have hy1 := Nat.lt_of_succ_le hz1); (try have hv1 := Nat.lt_of_succ_lt hy1); (try have hw10 : w.heap.size < w1.heap.size := by omega); (try have hw11 : w.heap.size + 1 < w1.heap.size := by omega); (try have hw12 : w.heap.size + 1 + 1 < w1.heap.size := by omega); (try have hw13 : w.heap.size + 1 + 1 + 1 < w1.heap.size := by omega))
  obtain ⟨Z, rfl⟩ : ∃ Z : World, Z = w1 := ⟨_, rfl⟩
  have t0 : w.heap.size < Z.heap.size := by omega
  have t1 : w.heap.size + 1 < Z.heap.size := by omega
  have t2 : w.heap.size + 1 + 1 < Z.heap.size := by omega
  refine region_seqg (W := Z) [_, _, _, _, _, _, _, _, _, _, _] [_] rfl (by kernel_rfl) (by kernel_rfl) (by repeat (first | (with_reducible assumption) | (with_reducible exact Below.refl _ _) | (with_reducible refine Below.alloc ?_ (by first | omega | (simp; omega) | (simp; done) | (dsimp only; omega)) _) | (with_reducible refine Below.setCell ?_ (by first | omega | (simp; omega) | (simp; done) | (dsimp only; omega)) _) | (with_reducible refine Below.drew ?_) | (with_reducible refine Below.trans ?_ (Below.mono (by assumption) (by first | omega | (simp; omega) | (simp; done) | (dsimp only; omega)))))) (fun fin hfin => ?_)
  iterate 11
    first
      | (refine SeqG.yes (v := ?_) (A' := ?_) rfl (fun γ => by rfl) ?_ ?_ ?_
         rotate_left 2
         · intro γ w' K hS hK
           obtain ⟨hc, hf⟩ := bcell hS
           have hz := hS.size
           go_simp
           first
             | exact hK.out _ (Below.refl _ _)
             | (go_at_call 58; (with_reducible refine (steps_c _).mono ?_); rintro e w1 ⟨rfl, hb1⟩; exact hK.out _ hb1)
             | (go_at_call 35; (with_reducible refine (HO.out _).mono ?_); rintro e w1 ⟨rfl, hb1⟩; exact hK.out _ hb1)
             | trace_state
         · intro γ; simp only [Act.put, List.setIfInBounds_toArray, List.set_cons_zero, List.set_cons_succ]; exact rfl)
      | (refine SeqG.no (A' := ?_) rfl (fun γ => by rfl) ?_ ?_
         rotate_left
         · intro γ; simp only [Act.put, List.setIfInBounds_toArray, List.set_cons_zero, List.set_cons_succ]; exact rfl)
  refine SeqG.nil (hfin.out _ _ ?_)
  clear hfin fin
  intro γ lo hi w1 hB1 hF hD
  clear hD
  obtain ⟨hcz, hfz⟩ := bcell hB1
  have hzz := hB1.size
  have s2 : w.heap.size + 1 + 1 < w1.heap.size := by omega
  refine TailL.cons (fun K hK => ?_)
  go_simp
  refine hK.out _ _ ?_
  clear hK K
  refine TailL.nil ?_
  go_wp2
  refine bodyPost_ret (by simp [results, Try.results42, go_sem, *] <;> rfl) rfl ⟨rfl, (by repeat (first | (with_reducible assumption) | (with_reducible exact Below.refl _ _) | (with_reducible refine Below.alloc ?_ (by first | omega | (simp; omega) | (simp; done) | (dsimp only; omega)) _) | (with_reducible refine Below.setCell ?_ (by first | omega | (simp; omega) | (simp; done) | (dsimp only; omega)) _) | (with_reducible refine Below.drew ?_) | (with_reducible refine Below.trans ?_ (Below.mono (by assumption) (by first | omega | (simp; omega) | (simp; done) | (dsimp only; omega))))))⟩
end Go.Proofs.Ytbjdiaakhlgcgaa
