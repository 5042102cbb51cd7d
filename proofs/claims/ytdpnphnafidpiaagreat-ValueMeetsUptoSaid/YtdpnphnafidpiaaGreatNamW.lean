/- Texts NamK, NamL, NamM. -/
import Derived.Test.YtdpnphnafidpiaaGreatNamJ
import Derived.Test.YtdpnphnafidpiaaGreatTake
/- What joins and meets of sets are: layer 7. -/
namespace Go.Proofs.YtdpnphnafidpiaaGreat
open Go.RowKit

set_option maxRecDepth 100000 in
set_option maxHeartbeats 4000000 in
theorem names_Join_f (nb : Bool) (la lb : List Str) (A B : Option Addr) (ca cb : Nat) (w : World) (hm : (la.length + lb.length) * 16 ≤ 140737488355328) (hza : A = none → ca = 0) (hzb : B = none → cb = 0) (hra : SRow w A la) (hrb : SRow w B lb) :
    Calls Tryz.prog 27 #[.agg #[.bool false, .slice A la.length ca], .agg #[.bool nb, .slice B lb.length cb]] w fun e w' => (∃ v', e = .returned v' ∧ SetV (w.heap.size + 3) w' v' (false || nb) (srt (la ++ lb))) ∧ Below w.heap.size w w' := by
  go_enter Tryz.func27, Tryz.ntmps27
  go_upto_region 1 with fail
  generalize hW : (((w.alloc (.cells #[.bool false, .slice A la.length ca] 28)).alloc (.cells #[.bool nb, .slice B lb.length cb] 28)).alloc (.cells #[.bool false, .slice none 0 0] 28)) = W
  have q0_0 : W.cell? ⟨w.heap.size, 0, none⟩ = some (.bool false) := by rw [← hW]; simp [go_sem]
  have q0_1 : W.cell? ⟨w.heap.size, 1, none⟩ = some (.slice A la.length ca) := by rw [← hW]; simp [go_sem]
  have q1_0 : W.cell? ⟨w.heap.size + 1, 0, none⟩ = some (.bool nb) := by rw [← hW]; simp [go_sem]
  have q1_1 : W.cell? ⟨w.heap.size + 1, 1, none⟩ = some (.slice B lb.length cb) := by rw [← hW]; simp [go_sem]
  have q2_0 : W.cell? ⟨w.heap.size + 1 + 1, 0, none⟩ = some (.bool false) := by rw [← hW]; simp [go_sem]
  have q2_1 : W.cell? ⟨w.heap.size + 1 + 1, 1, none⟩ = some (.slice none 0 0) := by rw [← hW]; simp [go_sem]
  have f0 : ∀ o, W.frozen? ⟨w.heap.size, o, none⟩ = false := by intro o; rw [← hW]; simp [go_sem]
  have f1 : ∀ o, W.frozen? ⟨w.heap.size + 1, o, none⟩ = false := by intro o; rw [← hW]; simp [go_sem]
  have f2 : ∀ o, W.frozen? ⟨w.heap.size + 1 + 1, o, none⟩ = false := by intro o; rw [← hW]; simp [go_sem]
  have z0 : w.heap.size < W.heap.size := by rw [← hW]; first | (simp; done) | (simp; omega)
  have z1 : w.heap.size + 1 < W.heap.size := by rw [← hW]; first | (simp; done) | (simp; omega)
  have z2 : w.heap.size + 1 + 1 < W.heap.size := by rw [← hW]; first | (simp; done) | (simp; omega)
  have HW : Below w.heap.size w W := by rw [← hW]; exact (by repeat (first | (with_reducible assumption) | (with_reducible exact Below.refl _ _) | (with_reducible refine Below.alloc ?_ (by first | omega | (simp; omega) | (simp; done) | (dsimp only; omega)) _) | (with_reducible refine Below.setCell ?_ (by first | omega | (simp; omega) | (simp; done) | (dsimp only; omega)) _) | (with_reducible refine Below.drew ?_) | (with_reducible refine Below.trans ?_ (Below.mono (by assumption) (by first | omega | (simp; omega) | (simp; done) | (dsimp only; omega))))))
  clear hW
  have hraW := hra.mono HW
  have hrbW := hrb.mono HW
  go_wp2_with (at_builtin; refine wpList_append_ss rfl _ _ rfl W.heap.size (.slice none 0 0) [] la rfl (OwnS.nil _ _) A ca rfl hza hraW (by simp; omega) (Nat.le_refl _) ?_)
  intro v5 w1 hown hg hb
  have HB1 : Below W.heap.size W w1 := (Below.refl _ _).grown hg (Nat.le_refl _) (fun k e => by cases e)
  have hB1s := HB1.size
  have hrb1 := hrbW.mono HB1
  clear hg hb hraW
  go_upto_region 2 with fail
  refine wp_region_noPanic ?_
  refine wp_region_held_drew (S := fun w' => Below (w.heap.size + 1 + 1) W w') (by kernel_rfl) ((HB1.mono (by omega)).drew) (fun _ => ?_)
  refine take_first 0 9 (.pointer (some ⟨w.heap.size, 0, none⟩)) rfl rfl (by kernel_rfl) (by kernel_rfl) (by kernel_rfl) (fun _ _ _ h => h) (by rfl) (fun w' hS => ?_) (by assumption) ?_
  · have hc : ∀ b o, b < w.heap.size + 1 + 1 → w'.cell? ⟨b, o, none⟩ = W.cell? ⟨b, o, none⟩ := fun b o h => hS.cell (p := ⟨b, o, none⟩) h
    go_simp
  simp only [Act.put, List.setIfInBounds_toArray, List.set_cons_zero, List.set_cons_succ]
  refine take_first 1 10 (.bool false) rfl rfl (by kernel_rfl) (by kernel_rfl) (by kernel_rfl) (fun _ _ _ h => h) (by rfl) (fun w' hS => ?_) (by assumption) ?_
  · have hc : ∀ b o, b < w.heap.size + 1 + 1 → w'.cell? ⟨b, o, none⟩ = W.cell? ⟨b, o, none⟩ := fun b o h => hS.cell (p := ⟨b, o, none⟩) h
    go_simp
  simp only [Act.put, List.setIfInBounds_toArray, List.set_cons_zero, List.set_cons_succ]
  refine take_first 2 11 (.bool false) rfl rfl (by kernel_rfl) (by kernel_rfl) (by kernel_rfl) (fun _ _ _ h => h) (by rfl) (fun w' hS => ?_) (by assumption) ?_
  · have hc : ∀ b o, b < w.heap.size + 1 + 1 → w'.cell? ⟨b, o, none⟩ = W.cell? ⟨b, o, none⟩ := fun b o h => hS.cell (p := ⟨b, o, none⟩) h
    go_simp
  simp only [Act.put, List.setIfInBounds_toArray, List.set_cons_zero, List.set_cons_succ]
  refine take_first 3 12 (.pointer (some ⟨w.heap.size + 1, 0, none⟩)) rfl rfl (by kernel_rfl) (by kernel_rfl) (by kernel_rfl) (fun _ _ _ h => h) (by rfl) (fun w' hS => ?_) (by assumption) ?_
  · have hc : ∀ b o, b < w.heap.size + 1 + 1 → w'.cell? ⟨b, o, none⟩ = W.cell? ⟨b, o, none⟩ := fun b o h => hS.cell (p := ⟨b, o, none⟩) h
    go_simp
  simp only [Act.put, List.setIfInBounds_toArray, List.set_cons_zero, List.set_cons_succ]
  refine take_first 4 13 (.bool nb) rfl rfl (by kernel_rfl) (by kernel_rfl) (by kernel_rfl) (fun _ _ _ h => h) (by rfl) (fun w' hS => ?_) (by assumption) ?_
  · have hc : ∀ b o, b < w.heap.size + 1 + 1 → w'.cell? ⟨b, o, none⟩ = W.cell? ⟨b, o, none⟩ := fun b o h => hS.cell (p := ⟨b, o, none⟩) h
    go_simp
  simp only [Act.put, List.setIfInBounds_toArray, List.set_cons_zero, List.set_cons_succ]
  refine take_first 5 14 (.bool nb) rfl rfl (by kernel_rfl) (by kernel_rfl) (by kernel_rfl) (fun _ _ _ h => h) (by rfl) (fun w' hS => ?_) (by assumption) ?_
  · have hc : ∀ b o, b < w.heap.size + 1 + 1 → w'.cell? ⟨b, o, none⟩ = W.cell? ⟨b, o, none⟩ := fun b o h => hS.cell (p := ⟨b, o, none⟩) h
    go_simp
  simp only [Act.put, List.setIfInBounds_toArray, List.set_cons_zero, List.set_cons_succ]
  refine take_first 6 15 (v5) rfl rfl (by kernel_rfl) (by kernel_rfl) (by kernel_rfl) (fun _ _ _ h => h) (by rfl) (fun w' hS => ?_) (by assumption) ?_
  · have hc : ∀ b o, b < w.heap.size + 1 + 1 → w'.cell? ⟨b, o, none⟩ = W.cell? ⟨b, o, none⟩ := fun b o h => hS.cell (p := ⟨b, o, none⟩) h
    go_simp
  simp only [Act.put, List.setIfInBounds_toArray, List.set_cons_zero, List.set_cons_succ]
  refine take_first 7 16 (.pointer (some ⟨w.heap.size + 1, 1, none⟩)) rfl rfl (by kernel_rfl) (by kernel_rfl) (by kernel_rfl) (fun _ _ _ h => h) (by rfl) (fun w' hS => ?_) (by assumption) ?_
  · have hc : ∀ b o, b < w.heap.size + 1 + 1 → w'.cell? ⟨b, o, none⟩ = W.cell? ⟨b, o, none⟩ := fun b o h => hS.cell (p := ⟨b, o, none⟩) h
    go_simp
  simp only [Act.put, List.setIfInBounds_toArray, List.set_cons_zero, List.set_cons_succ]
  refine take_first 8 17 (.slice B lb.length cb) rfl rfl (by kernel_rfl) (by kernel_rfl) (by kernel_rfl) (fun _ _ _ h => h) (by rfl) (fun w' hS => ?_) (by assumption) ?_
  · have hc : ∀ b o, b < w.heap.size + 1 + 1 → w'.cell? ⟨b, o, none⟩ = W.cell? ⟨b, o, none⟩ := fun b o h => hS.cell (p := ⟨b, o, none⟩) h
    go_simp
  simp only [Act.put, List.setIfInBounds_toArray, List.set_cons_zero, List.set_cons_succ]
  refine wpAnyH_ready (rs := [9]) (by kernel_rfl) (by simp) ?_
  refine AllReadyH.cons rfl (fun K hK => ?_) AllReadyH.nil
  rw [if_pos (by rfl)]
  refine wp_append_ss _ _ rfl W.heap.size v5 la lb rfl (hown.mono (by repeat (first | (with_reducible assumption) | (with_reducible exact Below.refl _ _) | (with_reducible refine Below.alloc ?_ (by first | omega | (simp; omega) | (simp; done) | (dsimp only; omega)) _) | (with_reducible refine Below.setCell ?_ (by first | omega | (simp; omega) | (simp; done) | (dsimp only; omega)) _) | (with_reducible refine Below.drew ?_) | (with_reducible refine Below.trans ?_ (Below.mono (by assumption) (by first | omega | (simp; omega) | (simp; done) | (dsimp only; omega))))))) B cb rfl hzb (hrb1.mono (by repeat (first | (with_reducible assumption) | (with_reducible exact Below.refl _ _) | (with_reducible refine Below.alloc ?_ (by first | omega | (simp; omega) | (simp; done) | (dsimp only; omega)) _) | (with_reducible refine Below.setCell ?_ (by first | omega | (simp; omega) | (simp; done) | (dsimp only; omega)) _) | (with_reducible refine Below.drew ?_) | (with_reducible refine Below.trans ?_ (Below.mono (by assumption) (by first | omega | (simp; omega) | (simp; done) | (dsimp only; omega))))))) (by omega) (by simp; omega) (fun v' w2 hown2 hg2 hb2 => ?_)
  have HB2 : Below W.heap.size W w2 := Below.grown (w := w1.drew) (by repeat (first | (with_reducible assumption) | (with_reducible exact Below.refl _ _) | (with_reducible refine Below.alloc ?_ (by first | omega | (simp; omega) | (simp; done) | (dsimp only; omega)) _) | (with_reducible refine Below.setCell ?_ (by first | omega | (simp; omega) | (simp; done) | (dsimp only; omega)) _) | (with_reducible refine Below.drew ?_) | (with_reducible refine Below.trans ?_ (Below.mono (by assumption) (by first | omega | (simp; omega) | (simp; done) | (dsimp only; omega)))))) hg2 (by simp; omega) (fun k e => (hown.lt k e).1)
  refine hK.out _ _ (HB2.mono (by omega)) (fun _ => ?_)
  clear hK K hown hg2 hb2
  obtain ⟨A2, c2, rfl, k1, k2, k3, k4⟩ := hown2.row
  have HB2s := HB2.size
  have h0 := names_Of (false || nb) (la ++ lb) A2 c2 w2 (by simp; omega) k4 k3
  simp only [Bool.false_or, List.length_append] at h0
  have HO := Lib.hid h0
  clear h0 hown2 k3 k1 k2 k4
  refine wpAnyH_ready (rs := [10]) (by kernel_rfl) (by simp) ?_
  refine AllReadyH.cons rfl (fun K hK => ?_) AllReadyH.nil
  go_simp
  refine HO.out.mono ?_
  rintro e w3 ⟨⟨v3, rfl, ⟨A3, c3, rfl, j1, j2, j3, j4, j5⟩⟩, hb3⟩
  have HB3 := HB2.trans (hb3.mono HB2s)
  refine hK.out _ _ (HB3.mono (by omega)) (fun _ => ?_)
  clear hK K HO hb3
  have HB3s := HB3.size
  have HW3 := HW.trans (HB3.mono HW.size)
  obtain ⟨hc3, hf3⟩ := bcell HB3
  refine wpAnyH_ready (rs := [11]) (by kernel_rfl) (by simp) ?_
  refine AllReadyH.cons rfl (fun K hK => ?_) AllReadyH.nil
  go_simp
  refine hK.out _ _ (Below.setCell (Below.setCell (HB3.mono (by omega)) (by simp) _) (by simp) _) (fun _ => ?_)
  clear hK K
  refine wpAnyH_done (by kernel_rfl) (NoPanic.normal ?_) _
  go_wp2
  refine bodyPost_ret (by simp [results, Tryz.results27, go_sem, *] <;> rfl) rfl ⟨⟨_, rfl, ?_⟩, (by repeat (first | (with_reducible assumption) | (with_reducible exact Below.refl _ _) | (with_reducible refine Below.alloc ?_ (by first | omega | (simp; omega) | (simp; done) | (dsimp only; omega)) _) | (with_reducible refine Below.setCell ?_ (by first | omega | (simp; omega) | (simp; done) | (dsimp only; omega)) _) | (with_reducible refine Below.drew ?_) | (with_reducible refine Below.trans ?_ (Below.mono (by assumption) (by first | omega | (simp; omega) | (simp; done) | (dsimp only; omega))))))⟩
  exact SetV.store j1 j2 j3 j4 (fun a e => ⟨by have := (j5 a e).1; omega, (j5 a e).2⟩) (by omega) _ _

set_option maxRecDepth 100000 in
set_option maxHeartbeats 4000000 in
theorem names_Join_t (nb : Bool) (la lb : List Str) (A B : Option Addr) (ca cb : Nat) (w : World) (hm : (la.length + lb.length) * 16 ≤ 140737488355328) (hza : A = none → ca = 0) (hzb : B = none → cb = 0) (hra : SRow w A la) (hrb : SRow w B lb) :
    Calls Tryz.prog 27 #[.agg #[.bool true, .slice A la.length ca], .agg #[.bool nb, .slice B lb.length cb]] w fun e w' => (∃ v', e = .returned v' ∧ SetV (w.heap.size + 3) w' v' (true || nb) (srt (la ++ lb))) ∧ Below w.heap.size w w' := by
  go_enter Tryz.func27, Tryz.ntmps27
  go_upto_region 1 with fail
  generalize hW : (((w.alloc (.cells #[.bool true, .slice A la.length ca] 28)).alloc (.cells #[.bool nb, .slice B lb.length cb] 28)).alloc (.cells #[.bool false, .slice none 0 0] 28)) = W
  have q0_0 : W.cell? ⟨w.heap.size, 0, none⟩ = some (.bool true) := by rw [← hW]; simp [go_sem]
  have q0_1 : W.cell? ⟨w.heap.size, 1, none⟩ = some (.slice A la.length ca) := by rw [← hW]; simp [go_sem]
  have q1_0 : W.cell? ⟨w.heap.size + 1, 0, none⟩ = some (.bool nb) := by rw [← hW]; simp [go_sem]
  have q1_1 : W.cell? ⟨w.heap.size + 1, 1, none⟩ = some (.slice B lb.length cb) := by rw [← hW]; simp [go_sem]
  have q2_0 : W.cell? ⟨w.heap.size + 1 + 1, 0, none⟩ = some (.bool false) := by rw [← hW]; simp [go_sem]
  have q2_1 : W.cell? ⟨w.heap.size + 1 + 1, 1, none⟩ = some (.slice none 0 0) := by rw [← hW]; simp [go_sem]
  have f0 : ∀ o, W.frozen? ⟨w.heap.size, o, none⟩ = false := by intro o; rw [← hW]; simp [go_sem]
  have f1 : ∀ o, W.frozen? ⟨w.heap.size + 1, o, none⟩ = false := by intro o; rw [← hW]; simp [go_sem]
  have f2 : ∀ o, W.frozen? ⟨w.heap.size + 1 + 1, o, none⟩ = false := by intro o; rw [← hW]; simp [go_sem]
  have z0 : w.heap.size < W.heap.size := by rw [← hW]; first | (simp; done) | (simp; omega)
  have z1 : w.heap.size + 1 < W.heap.size := by rw [← hW]; first | (simp; done) | (simp; omega)
  have z2 : w.heap.size + 1 + 1 < W.heap.size := by rw [← hW]; first | (simp; done) | (simp; omega)
  have HW : Below w.heap.size w W := by rw [← hW]; exact (by repeat (first | (with_reducible assumption) | (with_reducible exact Below.refl _ _) | (with_reducible refine Below.alloc ?_ (by first | omega | (simp; omega) | (simp; done) | (dsimp only; omega)) _) | (with_reducible refine Below.setCell ?_ (by first | omega | (simp; omega) | (simp; done) | (dsimp only; omega)) _) | (with_reducible refine Below.drew ?_) | (with_reducible refine Below.trans ?_ (Below.mono (by assumption) (by first | omega | (simp; omega) | (simp; done) | (dsimp only; omega))))))
  clear hW
  have hraW := hra.mono HW
  have hrbW := hrb.mono HW
  go_wp2_with (at_builtin; refine wpList_append_ss rfl _ _ rfl W.heap.size (.slice none 0 0) [] la rfl (OwnS.nil _ _) A ca rfl hza hraW (by simp; omega) (Nat.le_refl _) ?_)
  intro v5 w1 hown hg hb
  have HB1 : Below W.heap.size W w1 := (Below.refl _ _).grown hg (Nat.le_refl _) (fun k e => by cases e)
  have hB1s := HB1.size
  have hrb1 := hrbW.mono HB1
  clear hg hb hraW
  go_upto_region 2 with fail
  refine wp_region_noPanic ?_
  refine wp_region_held_drew (S := fun w' => Below (w.heap.size + 1 + 1) W w') (by kernel_rfl) ((HB1.mono (by omega)).drew) (fun _ => ?_)
  refine take_first 0 9 (.pointer (some ⟨w.heap.size, 0, none⟩)) rfl rfl (by kernel_rfl) (by kernel_rfl) (by kernel_rfl) (fun _ _ _ h => h) (by rfl) (fun w' hS => ?_) (by assumption) ?_
  · have hc : ∀ b o, b < w.heap.size + 1 + 1 → w'.cell? ⟨b, o, none⟩ = W.cell? ⟨b, o, none⟩ := fun b o h => hS.cell (p := ⟨b, o, none⟩) h
    go_simp
  simp only [Act.put, List.setIfInBounds_toArray, List.set_cons_zero, List.set_cons_succ]
  refine take_first 1 10 (.bool true) rfl rfl (by kernel_rfl) (by kernel_rfl) (by kernel_rfl) (fun _ _ _ h => h) (by rfl) (fun w' hS => ?_) (by assumption) ?_
  · have hc : ∀ b o, b < w.heap.size + 1 + 1 → w'.cell? ⟨b, o, none⟩ = W.cell? ⟨b, o, none⟩ := fun b o h => hS.cell (p := ⟨b, o, none⟩) h
    go_simp
  simp only [Act.put, List.setIfInBounds_toArray, List.set_cons_zero, List.set_cons_succ]
  refine take_first 2 11 (.bool true) rfl rfl (by kernel_rfl) (by kernel_rfl) (by kernel_rfl) (fun _ _ _ h => h) (by rfl) (fun w' hS => ?_) (by assumption) ?_
  · have hc : ∀ b o, b < w.heap.size + 1 + 1 → w'.cell? ⟨b, o, none⟩ = W.cell? ⟨b, o, none⟩ := fun b o h => hS.cell (p := ⟨b, o, none⟩) h
    go_simp
  simp only [Act.put, List.setIfInBounds_toArray, List.set_cons_zero, List.set_cons_succ]
  refine take_none 3 12 rfl rfl (by kernel_rfl) (by kernel_rfl) (by kernel_rfl) (fun _ _ _ h => h) (by rfl) (by assumption) (fun _ => ?_)
  simp only [Act.put, List.setIfInBounds_toArray, List.set_cons_zero, List.set_cons_succ]
  refine take_none 4 13 rfl rfl (by kernel_rfl) (by kernel_rfl) (by kernel_rfl) (fun _ _ _ h => h) (by rfl) (by assumption) (fun _ => ?_)
  simp only [Act.put, List.setIfInBounds_toArray, List.set_cons_zero, List.set_cons_succ]
  refine take_first 5 14 (.bool true) rfl rfl (by kernel_rfl) (by kernel_rfl) (by kernel_rfl) (fun _ _ _ h => h) (by rfl) (fun w' hS => ?_) (by assumption) ?_
  · have hc : ∀ b o, b < w.heap.size + 1 + 1 → w'.cell? ⟨b, o, none⟩ = W.cell? ⟨b, o, none⟩ := fun b o h => hS.cell (p := ⟨b, o, none⟩) h
    go_simp
  simp only [Act.put, List.setIfInBounds_toArray, List.set_cons_zero, List.set_cons_succ]
  refine take_first 6 15 (v5) rfl rfl (by kernel_rfl) (by kernel_rfl) (by kernel_rfl) (fun _ _ _ h => h) (by rfl) (fun w' hS => ?_) (by assumption) ?_
  · have hc : ∀ b o, b < w.heap.size + 1 + 1 → w'.cell? ⟨b, o, none⟩ = W.cell? ⟨b, o, none⟩ := fun b o h => hS.cell (p := ⟨b, o, none⟩) h
    go_simp
  simp only [Act.put, List.setIfInBounds_toArray, List.set_cons_zero, List.set_cons_succ]
  refine take_first 7 16 (.pointer (some ⟨w.heap.size + 1, 1, none⟩)) rfl rfl (by kernel_rfl) (by kernel_rfl) (by kernel_rfl) (fun _ _ _ h => h) (by rfl) (fun w' hS => ?_) (by assumption) ?_
  · have hc : ∀ b o, b < w.heap.size + 1 + 1 → w'.cell? ⟨b, o, none⟩ = W.cell? ⟨b, o, none⟩ := fun b o h => hS.cell (p := ⟨b, o, none⟩) h
    go_simp
  simp only [Act.put, List.setIfInBounds_toArray, List.set_cons_zero, List.set_cons_succ]
  refine take_first 8 17 (.slice B lb.length cb) rfl rfl (by kernel_rfl) (by kernel_rfl) (by kernel_rfl) (fun _ _ _ h => h) (by rfl) (fun w' hS => ?_) (by assumption) ?_
  · have hc : ∀ b o, b < w.heap.size + 1 + 1 → w'.cell? ⟨b, o, none⟩ = W.cell? ⟨b, o, none⟩ := fun b o h => hS.cell (p := ⟨b, o, none⟩) h
    go_simp
  simp only [Act.put, List.setIfInBounds_toArray, List.set_cons_zero, List.set_cons_succ]
  refine wpAnyH_ready (rs := [9]) (by kernel_rfl) (by simp) ?_
  refine AllReadyH.cons rfl (fun K hK => ?_) AllReadyH.nil
  rw [if_pos (by rfl)]
  refine wp_append_ss _ _ rfl W.heap.size v5 la lb rfl (hown.mono (by repeat (first | (with_reducible assumption) | (with_reducible exact Below.refl _ _) | (with_reducible refine Below.alloc ?_ (by first | omega | (simp; omega) | (simp; done) | (dsimp only; omega)) _) | (with_reducible refine Below.setCell ?_ (by first | omega | (simp; omega) | (simp; done) | (dsimp only; omega)) _) | (with_reducible refine Below.drew ?_) | (with_reducible refine Below.trans ?_ (Below.mono (by assumption) (by first | omega | (simp; omega) | (simp; done) | (dsimp only; omega))))))) B cb rfl hzb (hrb1.mono (by repeat (first | (with_reducible assumption) | (with_reducible exact Below.refl _ _) | (with_reducible refine Below.alloc ?_ (by first | omega | (simp; omega) | (simp; done) | (dsimp only; omega)) _) | (with_reducible refine Below.setCell ?_ (by first | omega | (simp; omega) | (simp; done) | (dsimp only; omega)) _) | (with_reducible refine Below.drew ?_) | (with_reducible refine Below.trans ?_ (Below.mono (by assumption) (by first | omega | (simp; omega) | (simp; done) | (dsimp only; omega))))))) (by omega) (by simp; omega) (fun v' w2 hown2 hg2 hb2 => ?_)
  have HB2 : Below W.heap.size W w2 := Below.grown (w := w1.drew) (by repeat (first | (with_reducible assumption) | (with_reducible exact Below.refl _ _) | (with_reducible refine Below.alloc ?_ (by first | omega | (simp; omega) | (simp; done) | (dsimp only; omega)) _) | (with_reducible refine Below.setCell ?_ (by first | omega | (simp; omega) | (simp; done) | (dsimp only; omega)) _) | (with_reducible refine Below.drew ?_) | (with_reducible refine Below.trans ?_ (Below.mono (by assumption) (by first | omega | (simp; omega) | (simp; done) | (dsimp only; omega)))))) hg2 (by simp; omega) (fun k e => (hown.lt k e).1)
  refine hK.out _ _ (HB2.mono (by omega)) (fun _ => ?_)
  clear hK K hown hg2 hb2
  obtain ⟨A2, c2, rfl, k1, k2, k3, k4⟩ := hown2.row
  have HB2s := HB2.size
  have h0 := names_Of (true || nb) (la ++ lb) A2 c2 w2 (by simp; omega) k4 k3
  simp only [Bool.true_or, List.length_append] at h0
  have HO := Lib.hid h0
  clear h0 hown2 k3 k1 k2 k4
  refine wpAnyH_ready (rs := [10]) (by kernel_rfl) (by simp) ?_
  refine AllReadyH.cons rfl (fun K hK => ?_) AllReadyH.nil
  go_simp
  refine HO.out.mono ?_
  rintro e w3 ⟨⟨v3, rfl, ⟨A3, c3, rfl, j1, j2, j3, j4, j5⟩⟩, hb3⟩
  have HB3 := HB2.trans (hb3.mono HB2s)
  refine hK.out _ _ (HB3.mono (by omega)) (fun _ => ?_)
  clear hK K HO hb3
  have HB3s := HB3.size
  have HW3 := HW.trans (HB3.mono HW.size)
  obtain ⟨hc3, hf3⟩ := bcell HB3
  refine wpAnyH_ready (rs := [11]) (by kernel_rfl) (by simp) ?_
  refine AllReadyH.cons rfl (fun K hK => ?_) AllReadyH.nil
  go_simp
  refine hK.out _ _ (Below.setCell (Below.setCell (HB3.mono (by omega)) (by simp) _) (by simp) _) (fun _ => ?_)
  clear hK K
  refine wpAnyH_done (by kernel_rfl) (NoPanic.normal ?_) _
  go_wp2
  refine bodyPost_ret (by simp [results, Tryz.results27, go_sem, *] <;> rfl) rfl ⟨⟨_, rfl, ?_⟩, (by repeat (first | (with_reducible assumption) | (with_reducible exact Below.refl _ _) | (with_reducible refine Below.alloc ?_ (by first | omega | (simp; omega) | (simp; done) | (dsimp only; omega)) _) | (with_reducible refine Below.setCell ?_ (by first | omega | (simp; omega) | (simp; done) | (dsimp only; omega)) _) | (with_reducible refine Below.drew ?_) | (with_reducible refine Below.trans ?_ (Below.mono (by assumption) (by first | omega | (simp; omega) | (simp; done) | (dsimp only; omega))))))⟩
  exact SetV.store j1 j2 j3 j4 (fun a e => ⟨by have := (j5 a e).1; omega, (j5 a e).2⟩) (by omega) _ _

end Go.Proofs.YtdpnphnafidpiaaGreat

/- What the document's joins are, and meets of sets: layer 7. -/
namespace Go.Proofs.YtdpnphnafidpiaaGreat
open Go.RowKit

theorem names_Join (na nb : Bool) (la lb : List Str) (A B : Option Addr) (ca cb : Nat) (w : World) (hm : (la.length + lb.length) * 16 ≤ 140737488355328) (hza : A = none → ca = 0) (hzb : B = none → cb = 0) (hra : SRow w A la) (hrb : SRow w B lb) :
    Calls Tryz.prog 27 #[.agg #[.bool na, .slice A la.length ca], .agg #[.bool nb, .slice B lb.length cb]] w fun e w' => (∃ v', e = .returned v' ∧ SetV (w.heap.size + 3) w' v' (na || nb) (srt (la ++ lb))) ∧ Below w.heap.size w w' := by
  cases na
  · exact names_Join_f nb la lb A B ca cb w hm hza hzb hra hrb
  · exact names_Join_t nb la lb A B ca cb w hm hza hzb hra hrb

set_option maxRecDepth 100000 in
set_option maxHeartbeats 4000000 in
theorem r7_Join (na nb : Bool) (la lb : List Str) (A B : Option Addr) (ca cb : Nat) (w : World) (hm : (la.length + lb.length + 1) * 16 ≤ 140737488355328) (hza : A = none → ca = 0) (hzb : B = none → cb = 0) (hra : SRow w A la) (hrb : SRow w B lb) :
    Calls Tryz.prog 74 #[.agg #[.bool na, .slice A la.length ca], .agg #[.bool nb, .slice B lb.length cb]] w fun e w' => (∃ v', e = .returned v' ∧ SetV (w.heap.size + 3) w' v' (na || nb) (srt (la ++ lb))) ∧ Below w.heap.size w w' := by
  cases na
  · go_enter Tryz.func74, Tryz.ntmps74
    go_upto_region 1 with fail
    generalize hW : (((w.alloc (.cells #[.bool false, .slice A la.length ca] 28)).alloc (.cells #[.bool nb, .slice B lb.length cb] 28)).alloc (.cells #[.bool false, .slice none 0 0] 28)) = W
    have q0_0 : W.cell? ⟨w.heap.size, 0, none⟩ = some (.bool false) := by rw [← hW]; simp [go_sem]
    have q0_1 : W.cell? ⟨w.heap.size, 1, none⟩ = some (.slice A la.length ca) := by rw [← hW]; simp [go_sem]
    have q1_0 : W.cell? ⟨w.heap.size + 1, 0, none⟩ = some (.bool nb) := by rw [← hW]; simp [go_sem]
    have q1_1 : W.cell? ⟨w.heap.size + 1, 1, none⟩ = some (.slice B lb.length cb) := by rw [← hW]; simp [go_sem]
    have q2_0 : W.cell? ⟨w.heap.size + 1 + 1, 0, none⟩ = some (.bool false) := by rw [← hW]; simp [go_sem]
    have q2_1 : W.cell? ⟨w.heap.size + 1 + 1, 1, none⟩ = some (.slice none 0 0) := by rw [← hW]; simp [go_sem]
    have f0 : ∀ o, W.frozen? ⟨w.heap.size, o, none⟩ = false := by intro o; rw [← hW]; simp [go_sem]
    have f1 : ∀ o, W.frozen? ⟨w.heap.size + 1, o, none⟩ = false := by intro o; rw [← hW]; simp [go_sem]
    have f2 : ∀ o, W.frozen? ⟨w.heap.size + 1 + 1, o, none⟩ = false := by intro o; rw [← hW]; simp [go_sem]
    have z0 : w.heap.size < W.heap.size := by rw [← hW]; first | (simp; done) | (simp; omega)
    have z1 : w.heap.size + 1 < W.heap.size := by rw [← hW]; first | (simp; done) | (simp; omega)
    have z2 : w.heap.size + 1 + 1 < W.heap.size := by rw [← hW]; first | (simp; done) | (simp; omega)
    have HW : Below w.heap.size w W := by rw [← hW]; exact (by repeat (first | (with_reducible assumption) | (with_reducible exact Below.refl _ _) | (with_reducible refine Below.alloc ?_ (by first | omega | (simp; omega) | (simp; done) | (dsimp only; omega)) _) | (with_reducible refine Below.setCell ?_ (by first | omega | (simp; omega) | (simp; done) | (dsimp only; omega)) _) | (with_reducible refine Below.drew ?_) | (with_reducible refine Below.trans ?_ (Below.mono (by assumption) (by first | omega | (simp; omega) | (simp; done) | (dsimp only; omega))))))
    clear hW
    have hraW := hra.mono HW
    have hrbW := hrb.mono HW
    go_wp2_with (at_builtin; refine wpList_append_ss rfl _ _ rfl W.heap.size (.slice none 0 0) [] la rfl (OwnS.nil _ _) A ca rfl hza hraW (by simp; omega) (Nat.le_refl _) ?_)
    intro v5 w1 hown hg hb
    have HB1 : Below W.heap.size W w1 := (Below.refl _ _).grown hg (Nat.le_refl _) (fun k e => by cases e)
    have hB1s := HB1.size
    have hrb1 := hrbW.mono HB1
    obtain ⟨hc1, hf1⟩ := bcell HB1
    clear hg hb hraW
    go_wp2_with (at_builtin; refine wpList_append_ss rfl _ _ rfl W.heap.size v5 la lb rfl hown B cb rfl hzb hrb1 (by omega) hB1s ?_)
    intro v6 w2 hown2 hg2 hb2
    have HB2 : Below W.heap.size W w2 := HB1.grown hg2 hB1s (fun k e => (hown.lt k e).1)
    have HB2s := HB2.size
    obtain ⟨A2, c2, rfl, k1, k2, k3, k4⟩ := hown2.row
    have h0 := r7_Clean (false || nb) (la ++ lb) A2 c2 w2 (by simp; omega) k3
    simp only [Bool.false_or, List.length_append] at h0
    have HO := Lib.hid h0
    obtain ⟨hc2, hf2⟩ := bcell HB2
    clear h0 hown2 k3 k1 k2 k4 hown hg2 hb2 hc1 hf1 HB1 hB1s hrb1
    go_wp2_with fail
    go_at_call 72
    refine HO.out.mono ?_
    rintro e w3 ⟨⟨v3, rfl, ⟨A3, c3, rfl, j1, j2, j3, j4, j5⟩⟩, hb3⟩
    obtain ⟨hc3, hf3⟩ := bcell hb3
    have hq0 : w.heap.size < w2.heap.size := by omega
    have hq1 : w.heap.size + 1 < w2.heap.size := by omega
    have hq2 : w.heap.size + 1 + 1 < w2.heap.size := by omega
    go_wp2
    have HB3 := HB2.trans (hb3.mono HB2s)
    have HW3 := HW.trans (HB3.mono HW.size)
    refine bodyPost_ret (by simp [results, Tryz.results74, go_sem, *] <;> rfl) rfl ⟨⟨_, rfl, ?_⟩, (by repeat (first | (with_reducible assumption) | (with_reducible exact Below.refl _ _) | (with_reducible refine Below.alloc ?_ (by first | omega | (simp; omega) | (simp; done) | (dsimp only; omega)) _) | (with_reducible refine Below.setCell ?_ (by first | omega | (simp; omega) | (simp; done) | (dsimp only; omega)) _) | (with_reducible refine Below.drew ?_) | (with_reducible refine Below.trans ?_ (Below.mono (by assumption) (by first | omega | (simp; omega) | (simp; done) | (dsimp only; omega))))))⟩
    exact SetV.store j1 j2 j3 j4 (fun a e => ⟨by have := (j5 a e).1; omega, (j5 a e).2⟩) (by omega) _ _
  · go_enter Tryz.func74, Tryz.ntmps74
    go_upto_region 1 with fail
    generalize hW : (((w.alloc (.cells #[.bool true, .slice A la.length ca] 28)).alloc (.cells #[.bool nb, .slice B lb.length cb] 28)).alloc (.cells #[.bool false, .slice none 0 0] 28)) = W
    have q0_0 : W.cell? ⟨w.heap.size, 0, none⟩ = some (.bool true) := by rw [← hW]; simp [go_sem]
    have q0_1 : W.cell? ⟨w.heap.size, 1, none⟩ = some (.slice A la.length ca) := by rw [← hW]; simp [go_sem]
    have q1_0 : W.cell? ⟨w.heap.size + 1, 0, none⟩ = some (.bool nb) := by rw [← hW]; simp [go_sem]
    have q1_1 : W.cell? ⟨w.heap.size + 1, 1, none⟩ = some (.slice B lb.length cb) := by rw [← hW]; simp [go_sem]
    have q2_0 : W.cell? ⟨w.heap.size + 1 + 1, 0, none⟩ = some (.bool false) := by rw [← hW]; simp [go_sem]
    have q2_1 : W.cell? ⟨w.heap.size + 1 + 1, 1, none⟩ = some (.slice none 0 0) := by rw [← hW]; simp [go_sem]
    have f0 : ∀ o, W.frozen? ⟨w.heap.size, o, none⟩ = false := by intro o; rw [← hW]; simp [go_sem]
    have f1 : ∀ o, W.frozen? ⟨w.heap.size + 1, o, none⟩ = false := by intro o; rw [← hW]; simp [go_sem]
    have f2 : ∀ o, W.frozen? ⟨w.heap.size + 1 + 1, o, none⟩ = false := by intro o; rw [← hW]; simp [go_sem]
    have z0 : w.heap.size < W.heap.size := by rw [← hW]; first | (simp; done) | (simp; omega)
    have z1 : w.heap.size + 1 < W.heap.size := by rw [← hW]; first | (simp; done) | (simp; omega)
    have z2 : w.heap.size + 1 + 1 < W.heap.size := by rw [← hW]; first | (simp; done) | (simp; omega)
    have HW : Below w.heap.size w W := by rw [← hW]; exact (by repeat (first | (with_reducible assumption) | (with_reducible exact Below.refl _ _) | (with_reducible refine Below.alloc ?_ (by first | omega | (simp; omega) | (simp; done) | (dsimp only; omega)) _) | (with_reducible refine Below.setCell ?_ (by first | omega | (simp; omega) | (simp; done) | (dsimp only; omega)) _) | (with_reducible refine Below.drew ?_) | (with_reducible refine Below.trans ?_ (Below.mono (by assumption) (by first | omega | (simp; omega) | (simp; done) | (dsimp only; omega))))))
    clear hW
    have hraW := hra.mono HW
    have hrbW := hrb.mono HW
    go_wp2_with (at_builtin; refine wpList_append_ss rfl _ _ rfl W.heap.size (.slice none 0 0) [] la rfl (OwnS.nil _ _) A ca rfl hza hraW (by simp; omega) (Nat.le_refl _) ?_)
    intro v5 w1 hown hg hb
    have HB1 : Below W.heap.size W w1 := (Below.refl _ _).grown hg (Nat.le_refl _) (fun k e => by cases e)
    have hB1s := HB1.size
    have hrb1 := hrbW.mono HB1
    obtain ⟨hc1, hf1⟩ := bcell HB1
    clear hg hb hraW
    go_wp2_with (at_builtin; refine wpList_append_ss rfl _ _ rfl W.heap.size v5 la lb rfl hown B cb rfl hzb hrb1 (by omega) hB1s ?_)
    intro v6 w2 hown2 hg2 hb2
    have HB2 : Below W.heap.size W w2 := HB1.grown hg2 hB1s (fun k e => (hown.lt k e).1)
    have HB2s := HB2.size
    obtain ⟨A2, c2, rfl, k1, k2, k3, k4⟩ := hown2.row
    have h0 := r7_Clean (true || nb) (la ++ lb) A2 c2 w2 (by simp; omega) k3
    simp only [Bool.true_or, List.length_append] at h0
    have HO := Lib.hid h0
    obtain ⟨hc2, hf2⟩ := bcell HB2
    clear h0 hown2 k3 k1 k2 k4 hown hg2 hb2 hc1 hf1 HB1 hB1s hrb1
    go_wp2_with fail
    go_at_call 72
    refine HO.out.mono ?_
    rintro e w3 ⟨⟨v3, rfl, ⟨A3, c3, rfl, j1, j2, j3, j4, j5⟩⟩, hb3⟩
    obtain ⟨hc3, hf3⟩ := bcell hb3
    have hq0 : w.heap.size < w2.heap.size := by omega
    have hq1 : w.heap.size + 1 < w2.heap.size := by omega
    have hq2 : w.heap.size + 1 + 1 < w2.heap.size := by omega
    go_wp2
    have HB3 := HB2.trans (hb3.mono HB2s)
    have HW3 := HW.trans (HB3.mono HW.size)
    refine bodyPost_ret (by simp [results, Tryz.results74, go_sem, *] <;> rfl) rfl ⟨⟨_, rfl, ?_⟩, (by repeat (first | (with_reducible assumption) | (with_reducible exact Below.refl _ _) | (with_reducible refine Below.alloc ?_ (by first | omega | (simp; omega) | (simp; done) | (dsimp only; omega)) _) | (with_reducible refine Below.setCell ?_ (by first | omega | (simp; omega) | (simp; done) | (dsimp only; omega)) _) | (with_reducible refine Below.drew ?_) | (with_reducible refine Below.trans ?_ (Below.mono (by assumption) (by first | omega | (simp; omega) | (simp; done) | (dsimp only; omega))))))⟩
    exact SetV.store j1 j2 j3 j4 (fun a e => ⟨by have := (j5 a e).1; omega, (j5 a e).2⟩) (by omega) _ _
end Go.Proofs.YtdpnphnafidpiaaGreat

/- X-PARTIAL What meets of sets are: layer 7. -/
namespace Go.Proofs.YtdpnphnafidpiaaGreat
open Go.RowKit

def meetL (la lb : List Str) : List Str := la.filter (fun x => hasL lb x)

theorem meetL_take (la lb : List Str) (k : Nat) (h : k < la.length) : meetL (la.take (k + 1)) lb = if hasL lb la[k] then meetL (la.take k) lb ++ [la[k]] else meetL (la.take k) lb := by
  unfold meetL
  rw [take_snoc' la k h, List.filter_append]
  split
  · next hh => rw [List.filter_cons_of_pos hh]; rfl
  · next hh => rw [List.filter_cons_of_neg hh]; simp

theorem meetL_len (la lb : List Str) : (meetL la lb).length ≤ la.length := List.length_filter_le _ _

theorem mem_meetL (la lb : List Str) (x : Str) : x ∈ meetL la lb ↔ x ∈ la ∧ x ∈ lb := by
  unfold meetL
  rw [List.mem_filter, hasL_iff]

def MeetRel (la lb : List Str) (W : World) (v5 i : Value) (wx : World) : Prop := ∃ k : Nat, k ≤ la.length ∧ i = .int .i64 k ∧ OwnS wx W.heap.size v5 (meetL (la.take k) lb) ∧ Below W.heap.size W wx

set_option maxRecDepth 100000 in
set_option maxHeartbeats 4000000 in
theorem names_Meet (na nb : Bool) (la lb : List Str) (A B : Option Addr) (ca cb : Nat) (w : World) (ha : la.length * 16 ≤ 140737488355328) (hb : lb.length ≤ 9223372036854775807) (hra : SRow w A la) (hrb : SRow w B lb) :
    Calls Tryz.prog 44 #[.agg #[.bool na, .slice A la.length ca], .agg #[.bool nb, .slice B lb.length cb]] w fun e w' => (∃ v', e = .returned v' ∧ SetV (w.heap.size + 3) w' v' (na && nb) (srt (meetL la lb))) ∧ Below w.heap.size w w' := by
  go_enter Tryz.func44, Tryz.ntmps44
  go_upto_region 1 with fail
  generalize hW : (((w.alloc (.cells #[.bool na, .slice A la.length ca] 28)).alloc (.cells #[.bool nb, .slice B lb.length cb] 28)).alloc (.cells #[.bool false, .slice none 0 0] 28)) = W
  have q0_0 : W.cell? ⟨w.heap.size, 0, none⟩ = some (.bool na) := by rw [← hW]; simp [go_sem]
  have q0_1 : W.cell? ⟨w.heap.size, 1, none⟩ = some (.slice A la.length ca) := by rw [← hW]; simp [go_sem]
  have q1_0 : W.cell? ⟨w.heap.size + 1, 0, none⟩ = some (.bool nb) := by rw [← hW]; simp [go_sem]
  have q1_1 : W.cell? ⟨w.heap.size + 1, 1, none⟩ = some (.slice B lb.length cb) := by rw [← hW]; simp [go_sem]
  have q2_0 : W.cell? ⟨w.heap.size + 1 + 1, 0, none⟩ = some (.bool false) := by rw [← hW]; simp [go_sem]
  have q2_1 : W.cell? ⟨w.heap.size + 1 + 1, 1, none⟩ = some (.slice none 0 0) := by rw [← hW]; simp [go_sem]
  have f0 : ∀ o, W.frozen? ⟨w.heap.size, o, none⟩ = false := by intro o; rw [← hW]; simp [go_sem]
  have f1 : ∀ o, W.frozen? ⟨w.heap.size + 1, o, none⟩ = false := by intro o; rw [← hW]; simp [go_sem]
  have f2 : ∀ o, W.frozen? ⟨w.heap.size + 1 + 1, o, none⟩ = false := by intro o; rw [← hW]; simp [go_sem]
  have z0 : w.heap.size < W.heap.size := by rw [← hW]; first | (simp; done) | (simp; omega)
  have z1 : w.heap.size + 1 < W.heap.size := by rw [← hW]; first | (simp; done) | (simp; omega)
  have z2 : w.heap.size + 1 + 1 < W.heap.size := by rw [← hW]; first | (simp; done) | (simp; omega)
  have HW : Below w.heap.size w W := by rw [← hW]; exact (by repeat (first | (with_reducible assumption) | (with_reducible exact Below.refl _ _) | (with_reducible refine Below.alloc ?_ (by first | omega | (simp; omega) | (simp; done) | (dsimp only; omega)) _) | (with_reducible refine Below.setCell ?_ (by first | omega | (simp; omega) | (simp; done) | (dsimp only; omega)) _) | (with_reducible refine Below.drew ?_) | (with_reducible refine Below.trans ?_ (Below.mono (by assumption) (by first | omega | (simp; omega) | (simp; done) | (dsimp only; omega))))))
  clear hW
  have hraW := hra.mono HW
  have hrbW := hrb.mono HW
  clear f0 f1
  go_wp2
  go_loopw [5, 7, 11] (fun v5 _ i wx => MeetRel la lb W v5 i wx) (fun _ _ i _ => la.length - (intOf i).toNat)
  case atStart => exact ⟨0, Nat.zero_le _, rfl, OwnS.nil _ _, Below.refl _ _⟩
  case round =>
    obtain ⟨k, hk, rfl, hown, hB⟩ := hrel
    have hrax := hraW.mono hB
    have HWX := HW.trans (hB.mono HW.size)
    have p0 := (hB.cell (p := ⟨w.heap.size, 0, none⟩) z0).trans q0_0
    have p1 := (hB.cell (p := ⟨w.heap.size + 1, 0, none⟩) z1).trans q1_0
    have p2 := (hB.cell (p := ⟨w.heap.size + 1, 1, none⟩) z1).trans q1_1
    have hBs := hB.size
    have y0 : w.heap.size < wr.heap.size := by omega
    have y1 : w.heap.size + 1 < wr.heap.size := by omega
    have y2 : w.heap.size + 1 + 1 < wr.heap.size := by omega
    by_cases hlt : k < la.length
    · obtain ⟨b, o, rfl, hc, hbl⟩ := hrax.cell hlt
      have hs := meetL_take la lb k hlt
      have hml := meetL_len (la.take k) lb
      have htl : (la.take k).length = k := by rw [List.length_take]; omega
      have HL := Lib.hid (names_listed nb lb B cb la[k] wr hb (hrbW.mono hB))
      generalize la[k] = x at *
      generalize hasL lb x = hx at *
      cases hx
      · rw [if_neg (by decide)] at hs
        have HS := Lib.hid hs
        clear hs hrax
        go_wp2_with (go_at_call 89; (with_reducible refine (HL.out).mono ?_); rintro e w1 ⟨rfl, hb1⟩; obtain ⟨hc1, hf1⟩ := bcell hb1; have hz1 := hb1.size; (try simp at hz1); (try have hy1 := Nat.lt_of_succ_le hz1); (try have hv1 := Nat.lt_of_succ_lt hy1); (try have hw10 : w.heap.size < w1.heap.size := by omega); (try have hw11 : w.heap.size + 1 < w1.heap.size := by omega); (try have hw12 : w.heap.size + 1 + 1 < w1.heap.size := by omega); (try have hw13 : w.heap.size + 1 + 1 + 1 < w1.heap.size := by omega))
        go_roundw
        case rel => exact ⟨k + 1, by omega, by go_num, by rw [HS.out]; exact hown.mono hb1, hB.trans (hb1.mono hBs)⟩
        case measure => simp [intOf]; omega
      · rw [if_pos rfl] at hs
        have HS := Lib.hid hs
        clear hs hrax
        go_wp2_with (first | (go_at_call 89; (with_reducible refine (HL.out).mono ?_); rintro e w1 ⟨rfl, hb1⟩; obtain ⟨hc1, hf1⟩ := bcell hb1; have hz1 := hb1.size; (try simp at hz1); (try have hy1 := Nat.lt_of_succ_le hz1); (try have hv1 := Nat.lt_of_succ_lt hy1); (try have hw10 : w.heap.size < w1.heap.size := by omega); (try have hw11 : w.heap.size + 1 < w1.heap.size := by omega); (try have hw12 : w.heap.size + 1 + 1 < w1.heap.size := by omega); (try have hw13 : w.heap.size + 1 + 1 + 1 < w1.heap.size := by omega)) | (at_builtin; refine wpList_append_ss rfl _ _ rfl W.heap.size u5 (meetL (la.take k) lb) [x] rfl ((hown.mono hb1).mono (by repeat (first | (with_reducible assumption) | (with_reducible exact Below.refl _ _) | (with_reducible refine Below.alloc ?_ (by first | omega | (simp; omega) | (simp; done) | (dsimp only; omega)) _) | (with_reducible refine Below.setCell ?_ (by first | omega | (simp; omega) | (simp; done) | (dsimp only; omega)) _) | (with_reducible refine Below.drew ?_) | (with_reducible refine Below.trans ?_ (Below.mono (by assumption) (by first | omega | (simp; omega) | (simp; done) | (dsimp only; omega))))))) (some ⟨w1.heap.size, 0, none⟩) 1 rfl (fun e => by cases e) (srow_one _ _) (by simp; omega) (by simp; omega) ?_))
        intro v' w' hown' hg hbk
        have hNB : Below W.heap.size W w' := Below.grown (w := w1.alloc (.cells #[encStr x] 9)) (by repeat (first | (with_reducible assumption) | (with_reducible exact Below.refl _ _) | (with_reducible refine Below.alloc ?_ (by first | omega | (simp; omega) | (simp; done) | (dsimp only; omega)) _) | (with_reducible refine Below.setCell ?_ (by first | omega | (simp; omega) | (simp; done) | (dsimp only; omega)) _) | (with_reducible refine Below.drew ?_) | (with_reducible refine Below.trans ?_ (Below.mono (by assumption) (by first | omega | (simp; omega) | (simp; done) | (dsimp only; omega)))))) hg (by simp; omega) (fun j e => (hown.lt j e).1)
        clear hg hbk hown hB
        go_wp2
        go_roundw
        case rel => exact ⟨k + 1, by omega, by go_num, by rw [HS.out]; exact hown', hNB⟩
        case measure => simp [intOf]; omega
    · obtain rfl : k = la.length := by omega
      rw [List.take_length] at hown
      have hml := meetL_len la lb
      obtain ⟨A2, c2, rfl, k1, k2, k3, k4⟩ := hown.row
      have h0 := fun b => names_Of b (meetL la lb) A2 c2 wr (by omega) k4 k3
      have p3 := (hB.cell (p := ⟨w.heap.size + 1 + 1, 0, none⟩) z2).trans q2_0
      have p4 := (hB.cell (p := ⟨w.heap.size + 1 + 1, 1, none⟩) z2).trans q2_1
      have fr := fun o => (hB.frozen (p := ⟨w.heap.size + 1 + 1, o, none⟩) z2).trans (f2 o)
      generalize (meetL la lb).length = ml at *
      clear hrax hown hB k1 k2 k3 k4 hml
      cases na
      · have HO := Lib.hid (h0 false)
        clear h0
        go_wp2_with fail
        go_at_call 70
        refine HO.out.mono ?_
        rintro e w3 ⟨⟨v3, rfl, ⟨A3, c3, rfl, j1, j2, j3, j4, j5⟩⟩, hb3⟩
        obtain ⟨hc3, hf3⟩ := bcell hb3
        go_wp2
        have HW3 := HWX.trans (hb3.mono HWX.size)
        refine bodyPost_ret (by simp [results, Tryz.results44, go_sem, *] <;> rfl) rfl ⟨⟨_, rfl, ?_⟩, (by repeat (first | (with_reducible assumption) | (with_reducible exact Below.refl _ _) | (with_reducible refine Below.alloc ?_ (by first | omega | (simp; omega) | (simp; done) | (dsimp only; omega)) _) | (with_reducible refine Below.setCell ?_ (by first | omega | (simp; omega) | (simp; done) | (dsimp only; omega)) _) | (with_reducible refine Below.drew ?_) | (with_reducible refine Below.trans ?_ (Below.mono (by assumption) (by first | omega | (simp; omega) | (simp; done) | (dsimp only; omega))))))⟩
        exact SetV.store j1 j2 j3 j4 (fun a e => ⟨by have := (j5 a e).1; omega, (j5 a e).2⟩) (by omega) _ _
      · have HO := Lib.hid (h0 nb)
        clear h0
        go_wp2_with fail
        go_at_call 70
        refine HO.out.mono ?_
        rintro e w3 ⟨⟨v3, rfl, ⟨A3, c3, rfl, j1, j2, j3, j4, j5⟩⟩, hb3⟩
        obtain ⟨hc3, hf3⟩ := bcell hb3
        go_wp2
        have HW3 := HWX.trans (hb3.mono HWX.size)
        refine bodyPost_ret (by simp [results, Tryz.results44, go_sem, *] <;> rfl) rfl ⟨⟨_, rfl, ?_⟩, (by repeat (first | (with_reducible assumption) | (with_reducible exact Below.refl _ _) | (with_reducible refine Below.alloc ?_ (by first | omega | (simp; omega) | (simp; done) | (dsimp only; omega)) _) | (with_reducible refine Below.setCell ?_ (by first | omega | (simp; omega) | (simp; done) | (dsimp only; omega)) _) | (with_reducible refine Below.drew ?_) | (with_reducible refine Below.trans ?_ (Below.mono (by assumption) (by first | omega | (simp; omega) | (simp; done) | (dsimp only; omega))))))⟩
        exact SetV.store j1 j2 j3 j4 (fun a e => ⟨by have := (j5 a e).1; omega, (j5 a e).2⟩) (by omega) _ _

end Go.Proofs.YtdpnphnafidpiaaGreat
