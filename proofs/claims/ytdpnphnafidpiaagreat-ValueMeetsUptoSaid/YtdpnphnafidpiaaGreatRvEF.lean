/- Texts RvE, RvF. -/
import Derived.Test.YtdpnphnafidpiaaGreatRvZ
/- X-PARTIAL What value.Narrow returns where it narrows: layer 8. -/
namespace Go.Proofs.YtdpnphnafidpiaaGreat
open Go.RowKit

set_option maxRecDepth 100000 in
set_option maxHeartbeats 8000000 in
theorem value_Narrow_3f (a b : In) (ha : a.ok) (hb : b.ok) (na nb : Bool) (la lb : List Str) (A B : Option Addr) (ca cb : Nat) (w : World) (hma : la.length * 16 ≤ 140737488355328) (hmb : lb.length * 16 ≤ 140737488355328) (hza : A = none → ca = 0) (hzb : B = none → cb = 0) (hra : SRow w A la) (hrb : SRow w B lb)
    (h : (b.leq a && leqS nb lb na la) = true) (h' : nonV b.clean nb lb = false) (hall : a.clean.isAll = false) :
    Calls Tryz.prog 8 #[.agg #[.bool a.s.s, .int .i64 a.s.lo, .int .i64 a.s.hi, .bool a.c.s, .int .i64 a.c.m, .int .i64 a.c.r, .bool na, .slice A la.length ca], .agg #[.bool b.s.s, .int .i64 b.s.lo, .int .i64 b.s.hi, .bool b.c.s, .int .i64 b.c.m, .int .i64 b.c.r, .bool nb, .slice B lb.length cb]] w fun e w' => (∃ A' c', e = .returned (.agg #[.bool (In.narrowC a.clean b.clean).s.s, .int .i64 (In.narrowC a.clean b.clean).s.lo, .int .i64 (In.narrowC a.clean b.clean).s.hi, .bool (In.narrowC a.clean b.clean).c.s, .int .i64 (In.narrowC a.clean b.clean).c.m, .int .i64 (In.narrowC a.clean b.clean).c.r, .bool na, .slice A' (srt la).length c']) ∧ MadeV w.heap.size w' A' c' (srt la)) ∧ Below w.heap.size w w' := by
  have hl := fun w' (h : Below w.heap.size w w') => value_Leq b a hb ha nb na lb la B A cb ca w' hmb hma hzb hza (hrb.mono h) (hra.mono h)
  rw [h] at hl
  have HL : Hid (∀ w', Below w.heap.size w w' → _) := Lib.hid hl
  have hn := fun w' (h : Below w.heap.size w w') => value_None b hb nb lb B cb w' hmb hzb (hrb.mono h)
  rw [h'] at hn
  have HN : Hid (∀ w', Below w.heap.size w w' → _) := Lib.hid hn
  have HA : Hid (∀ w', Below w.heap.size w w' → _) := Lib.hid (fun w' h => value_split a ha na la A ca w' hma hza (hra.mono h))
  have HB : Hid (∀ w', Below w.heap.size w w' → _) := Lib.hid (fun w' h => value_split b hb nb lb B cb w' hmb hzb (hrb.mono h))
  have hxs := In.clean_std ha
  have hys := In.clean_std hb
  have hla := srt_len_le la
  clear hl hn h h' ha hb hra hrb
  unfold In.narrowC
  generalize a.clean = x at *
  generalize b.clean = y at *
  have h1 := ints_every x
  have H2 := Lib.hid (span_narrow x.s y.s)
  have hno := Sp.narrow_ok (x := x.s) (y := y.s) hxs.1 hys.1
  have hok : (In.mk (x.s.narrow y.s) (if x.isAll = true then y.c else x.c)).ok := ⟨hno, by split; exact hys.2.1.1; exact hxs.2.1.1⟩
  have h3 := fun A1 c1 w' => value_clean (In.mk (x.s.narrow y.s) (if x.isAll = true then y.c else x.c)) hok na (srt la) A1 c1 w' (by omega)
  rw [srt_srt] at h3
  dsimp only at h3
  generalize hu : In.clean (In.mk (x.s.narrow y.s) (if x.isAll = true then y.c else x.c)) = u at *
  generalize x.s.narrow y.s = t at *
  have H5 : Hid (∀ A1 c1 w', _) := Lib.hid (fun A1 c1 w' => parts_value u na (srt la) A1 c1 w')
  clear hu hok hno hxs hys hla
  rw [hall] at h1 h3
  simp only [Bool.false_eq_true, if_false] at h3
  have H1 := Lib.hid h1
  have H3 : Hid (∀ A1 c1 w', _) := Lib.hid h3
  clear h1 h3 hall
  go_enter Tryz.func8, Tryz.ntmps8
  go_upto_region 1 with fail
  generalize hW : (((w.alloc (.cells #[.bool a.s.s, .int .i64 a.s.lo, .int .i64 a.s.hi, .bool a.c.s, .int .i64 a.c.m, .int .i64 a.c.r, .bool na, .slice A la.length ca] 30)).alloc (.cells #[.bool b.s.s, .int .i64 b.s.lo, .int .i64 b.s.hi, .bool b.c.s, .int .i64 b.c.m, .int .i64 b.c.r, .bool nb, .slice B lb.length cb] 30)).alloc (.cells #[.bool false, .int .i64 0, .int .i64 0, .bool false, .int .i64 0, .int .i64 0, .bool false, .slice none 0 0] 30)) = W
  have q0_0 : W.cell? ⟨w.heap.size, 0, none⟩ = some (.bool a.s.s) := by rw [← hW]; simp [go_sem]
  have q0_1 : W.cell? ⟨w.heap.size, 1, none⟩ = some (.int .i64 a.s.lo) := by rw [← hW]; simp [go_sem]
  have q0_2 : W.cell? ⟨w.heap.size, 2, none⟩ = some (.int .i64 a.s.hi) := by rw [← hW]; simp [go_sem]
  have q0_3 : W.cell? ⟨w.heap.size, 3, none⟩ = some (.bool a.c.s) := by rw [← hW]; simp [go_sem]
  have q0_4 : W.cell? ⟨w.heap.size, 4, none⟩ = some (.int .i64 a.c.m) := by rw [← hW]; simp [go_sem]
  have q0_5 : W.cell? ⟨w.heap.size, 5, none⟩ = some (.int .i64 a.c.r) := by rw [← hW]; simp [go_sem]
  have q0_6 : W.cell? ⟨w.heap.size, 6, none⟩ = some (.bool na) := by rw [← hW]; simp [go_sem]
  have q0_7 : W.cell? ⟨w.heap.size, 7, none⟩ = some (.slice A la.length ca) := by rw [← hW]; simp [go_sem]
  have q1_0 : W.cell? ⟨w.heap.size + 1, 0, none⟩ = some (.bool b.s.s) := by rw [← hW]; simp [go_sem]
  have q1_1 : W.cell? ⟨w.heap.size + 1, 1, none⟩ = some (.int .i64 b.s.lo) := by rw [← hW]; simp [go_sem]
  have q1_2 : W.cell? ⟨w.heap.size + 1, 2, none⟩ = some (.int .i64 b.s.hi) := by rw [← hW]; simp [go_sem]
  have q1_3 : W.cell? ⟨w.heap.size + 1, 3, none⟩ = some (.bool b.c.s) := by rw [← hW]; simp [go_sem]
  have q1_4 : W.cell? ⟨w.heap.size + 1, 4, none⟩ = some (.int .i64 b.c.m) := by rw [← hW]; simp [go_sem]
  have q1_5 : W.cell? ⟨w.heap.size + 1, 5, none⟩ = some (.int .i64 b.c.r) := by rw [← hW]; simp [go_sem]
  have q1_6 : W.cell? ⟨w.heap.size + 1, 6, none⟩ = some (.bool nb) := by rw [← hW]; simp [go_sem]
  have q1_7 : W.cell? ⟨w.heap.size + 1, 7, none⟩ = some (.slice B lb.length cb) := by rw [← hW]; simp [go_sem]
  have q2_0 : W.cell? ⟨w.heap.size + 1 + 1, 0, none⟩ = some (.bool false) := by rw [← hW]; simp [go_sem]
  have q2_1 : W.cell? ⟨w.heap.size + 1 + 1, 1, none⟩ = some (.int .i64 0) := by rw [← hW]; simp [go_sem]
  have q2_2 : W.cell? ⟨w.heap.size + 1 + 1, 2, none⟩ = some (.int .i64 0) := by rw [← hW]; simp [go_sem]
  have q2_3 : W.cell? ⟨w.heap.size + 1 + 1, 3, none⟩ = some (.bool false) := by rw [← hW]; simp [go_sem]
  have q2_4 : W.cell? ⟨w.heap.size + 1 + 1, 4, none⟩ = some (.int .i64 0) := by rw [← hW]; simp [go_sem]
  have q2_5 : W.cell? ⟨w.heap.size + 1 + 1, 5, none⟩ = some (.int .i64 0) := by rw [← hW]; simp [go_sem]
  have q2_6 : W.cell? ⟨w.heap.size + 1 + 1, 6, none⟩ = some (.bool false) := by rw [← hW]; simp [go_sem]
  have q2_7 : W.cell? ⟨w.heap.size + 1 + 1, 7, none⟩ = some (.slice none 0 0) := by rw [← hW]; simp [go_sem]
  have f0 : ∀ o, W.frozen? ⟨w.heap.size, o, none⟩ = false := by intro o; rw [← hW]; simp [go_sem]
  have f1 : ∀ o, W.frozen? ⟨w.heap.size + 1, o, none⟩ = false := by intro o; rw [← hW]; simp [go_sem]
  have f2 : ∀ o, W.frozen? ⟨w.heap.size + 1 + 1, o, none⟩ = false := by intro o; rw [← hW]; simp [go_sem]
  have k0 : W.heap[w.heap.size]? = some (.cells #[.bool a.s.s, .int .i64 a.s.lo, .int .i64 a.s.hi, .bool a.c.s, .int .i64 a.c.m, .int .i64 a.c.r, .bool na, .slice A la.length ca] 30 (0, 0)) := by rw [← hW]; rw [al_old _ _ (by (repeat rw [al_size]); omega)]; rw [al_old _ _ (by (repeat rw [al_size]); omega)]; exact al_new _ _ (by (repeat rw [al_size]) <;> rfl)
  have k1 : W.heap[w.heap.size + 1]? = some (.cells #[.bool b.s.s, .int .i64 b.s.lo, .int .i64 b.s.hi, .bool b.c.s, .int .i64 b.c.m, .int .i64 b.c.r, .bool nb, .slice B lb.length cb] 30 (0, 0)) := by rw [← hW]; rw [al_old _ _ (by (repeat rw [al_size]); omega)]; exact al_new _ _ (by (repeat rw [al_size]) <;> rfl)
  have k2 : W.heap[w.heap.size + 1 + 1]? = some (.cells #[.bool false, .int .i64 0, .int .i64 0, .bool false, .int .i64 0, .int .i64 0, .bool false, .slice none 0 0] 30 (0, 0)) := by rw [← hW]; exact al_new _ _ (by (repeat rw [al_size]) <;> rfl)
  have z0 : w.heap.size < W.heap.size := by rw [← hW]; first | (simp; done) | (simp; omega)
  have z1 : w.heap.size + 1 < W.heap.size := by rw [← hW]; first | (simp; done) | (simp; omega)
  have z2 : w.heap.size + 1 + 1 < W.heap.size := by rw [← hW]; first | (simp; done) | (simp; omega)
  have HW : Below w.heap.size w W := by rw [← hW]; exact (by repeat (first | (with_reducible assumption) | (with_reducible exact Below.refl _ _) | (with_reducible refine Below.alloc ?_ (by first | omega | (simp; omega) | (simp; done) | (dsimp only; omega)) _) | (with_reducible refine Below.setCell ?_ (by first | omega | (simp; omega) | (simp; done) | (dsimp only; omega)) _) | (with_reducible refine Below.drew ?_) | (with_reducible refine Below.trans ?_ (Below.mono (by assumption) (by first | omega | (simp; omega) | (simp; done) | (dsimp only; omega))))))
  clear hW
  have zW := z2
  go_wp2_with fail
  go_at_call 15
  refine (HL.out _ HW).mono ?_
  rintro e w2 ⟨rfl, hb2⟩
  have k3 := (hb2.block _ z2).trans k2
  have HBW := HW.trans (hb2.mono HW.size)
  replace q0_0 := (hb2.cell (p := ⟨w.heap.size, 0, none⟩) z0).trans q0_0
  replace q0_1 := (hb2.cell (p := ⟨w.heap.size, 1, none⟩) z0).trans q0_1
  replace q0_2 := (hb2.cell (p := ⟨w.heap.size, 2, none⟩) z0).trans q0_2
  replace q0_3 := (hb2.cell (p := ⟨w.heap.size, 3, none⟩) z0).trans q0_3
  replace q0_4 := (hb2.cell (p := ⟨w.heap.size, 4, none⟩) z0).trans q0_4
  replace q0_5 := (hb2.cell (p := ⟨w.heap.size, 5, none⟩) z0).trans q0_5
  replace q0_6 := (hb2.cell (p := ⟨w.heap.size, 6, none⟩) z0).trans q0_6
  replace q0_7 := (hb2.cell (p := ⟨w.heap.size, 7, none⟩) z0).trans q0_7
  replace q1_0 := (hb2.cell (p := ⟨w.heap.size + 1, 0, none⟩) z1).trans q1_0
  replace q1_1 := (hb2.cell (p := ⟨w.heap.size + 1, 1, none⟩) z1).trans q1_1
  replace q1_2 := (hb2.cell (p := ⟨w.heap.size + 1, 2, none⟩) z1).trans q1_2
  replace q1_3 := (hb2.cell (p := ⟨w.heap.size + 1, 3, none⟩) z1).trans q1_3
  replace q1_4 := (hb2.cell (p := ⟨w.heap.size + 1, 4, none⟩) z1).trans q1_4
  replace q1_5 := (hb2.cell (p := ⟨w.heap.size + 1, 5, none⟩) z1).trans q1_5
  replace q1_6 := (hb2.cell (p := ⟨w.heap.size + 1, 6, none⟩) z1).trans q1_6
  replace q1_7 := (hb2.cell (p := ⟨w.heap.size + 1, 7, none⟩) z1).trans q1_7
  replace q2_0 := (hb2.cell (p := ⟨w.heap.size + 1 + 1, 0, none⟩) z2).trans q2_0
  replace q2_1 := (hb2.cell (p := ⟨w.heap.size + 1 + 1, 1, none⟩) z2).trans q2_1
  replace q2_2 := (hb2.cell (p := ⟨w.heap.size + 1 + 1, 2, none⟩) z2).trans q2_2
  replace q2_3 := (hb2.cell (p := ⟨w.heap.size + 1 + 1, 3, none⟩) z2).trans q2_3
  replace q2_4 := (hb2.cell (p := ⟨w.heap.size + 1 + 1, 4, none⟩) z2).trans q2_4
  replace q2_5 := (hb2.cell (p := ⟨w.heap.size + 1 + 1, 5, none⟩) z2).trans q2_5
  replace q2_6 := (hb2.cell (p := ⟨w.heap.size + 1 + 1, 6, none⟩) z2).trans q2_6
  replace q2_7 := (hb2.cell (p := ⟨w.heap.size + 1 + 1, 7, none⟩) z2).trans q2_7
  replace z0 := Nat.lt_of_lt_of_le z0 hb2.size
  replace z1 := Nat.lt_of_lt_of_le z1 hb2.size
  replace z2 := Nat.lt_of_lt_of_le z2 hb2.size
  clear hb2 f0 f1 f2 k0 k1 k2
  go_wp2_with fail
  go_at_call 33
  refine (HN.out _ HBW).mono ?_
  rintro e w6 ⟨rfl, hb3⟩
  have k4 := (hb3.block _ z2).trans k3
  replace HBW := HBW.trans (hb3.mono HBW.size)
  replace q0_0 := (hb3.cell (p := ⟨w.heap.size, 0, none⟩) z0).trans q0_0
  replace q0_1 := (hb3.cell (p := ⟨w.heap.size, 1, none⟩) z0).trans q0_1
  replace q0_2 := (hb3.cell (p := ⟨w.heap.size, 2, none⟩) z0).trans q0_2
  replace q0_3 := (hb3.cell (p := ⟨w.heap.size, 3, none⟩) z0).trans q0_3
  replace q0_4 := (hb3.cell (p := ⟨w.heap.size, 4, none⟩) z0).trans q0_4
  replace q0_5 := (hb3.cell (p := ⟨w.heap.size, 5, none⟩) z0).trans q0_5
  replace q0_6 := (hb3.cell (p := ⟨w.heap.size, 6, none⟩) z0).trans q0_6
  replace q0_7 := (hb3.cell (p := ⟨w.heap.size, 7, none⟩) z0).trans q0_7
  replace q1_0 := (hb3.cell (p := ⟨w.heap.size + 1, 0, none⟩) z1).trans q1_0
  replace q1_1 := (hb3.cell (p := ⟨w.heap.size + 1, 1, none⟩) z1).trans q1_1
  replace q1_2 := (hb3.cell (p := ⟨w.heap.size + 1, 2, none⟩) z1).trans q1_2
  replace q1_3 := (hb3.cell (p := ⟨w.heap.size + 1, 3, none⟩) z1).trans q1_3
  replace q1_4 := (hb3.cell (p := ⟨w.heap.size + 1, 4, none⟩) z1).trans q1_4
  replace q1_5 := (hb3.cell (p := ⟨w.heap.size + 1, 5, none⟩) z1).trans q1_5
  replace q1_6 := (hb3.cell (p := ⟨w.heap.size + 1, 6, none⟩) z1).trans q1_6
  replace q1_7 := (hb3.cell (p := ⟨w.heap.size + 1, 7, none⟩) z1).trans q1_7
  replace q2_0 := (hb3.cell (p := ⟨w.heap.size + 1 + 1, 0, none⟩) z2).trans q2_0
  replace q2_1 := (hb3.cell (p := ⟨w.heap.size + 1 + 1, 1, none⟩) z2).trans q2_1
  replace q2_2 := (hb3.cell (p := ⟨w.heap.size + 1 + 1, 2, none⟩) z2).trans q2_2
  replace q2_3 := (hb3.cell (p := ⟨w.heap.size + 1 + 1, 3, none⟩) z2).trans q2_3
  replace q2_4 := (hb3.cell (p := ⟨w.heap.size + 1 + 1, 4, none⟩) z2).trans q2_4
  replace q2_5 := (hb3.cell (p := ⟨w.heap.size + 1 + 1, 5, none⟩) z2).trans q2_5
  replace q2_6 := (hb3.cell (p := ⟨w.heap.size + 1 + 1, 6, none⟩) z2).trans q2_6
  replace q2_7 := (hb3.cell (p := ⟨w.heap.size + 1 + 1, 7, none⟩) z2).trans q2_7
  replace z0 := Nat.lt_of_lt_of_le z0 hb3.size
  replace z1 := Nat.lt_of_lt_of_le z1 hb3.size
  replace z2 := Nat.lt_of_lt_of_le z2 hb3.size
  clear hb3 k3 HW
  go_upto_region 5 with fail
  refine region_seqg (W := w6) [_, _, _, _, _, _] [_, _] rfl (by kernel_rfl) (by kernel_rfl) (by repeat (first | (with_reducible assumption) | (with_reducible exact Below.refl _ _) | (with_reducible refine Below.alloc ?_ (by first | omega | (simp; omega) | (simp; done) | (dsimp only; omega)) _) | (with_reducible refine Below.setCell ?_ (by first | omega | (simp; omega) | (simp; done) | (dsimp only; omega)) _) | (with_reducible refine Below.drew ?_) | (with_reducible refine Below.trans ?_ (Below.mono (by assumption) (by first | omega | (simp; omega) | (simp; done) | (dsimp only; omega)))))) (fun fin hfin => ?_)
  iterate 1
    first
      | (refine SeqG.yes (v := ?_) (A' := ?_) rfl (fun γ => by rfl) ?_ ?_ ?_
         rotate_left 2
         · intro γ w' K hS hK
           obtain ⟨hc, hf⟩ := bcell hS
           have hz := hS.size
           go_simp
           first
             | exact hK.out _ (Below.refl _ _)
             | trace_state
         · intro γ; simp only [Act.put, List.setIfInBounds_toArray, List.set_cons_zero, List.set_cons_succ]; exact rfl)
      | (refine SeqG.no (A' := ?_) rfl (fun γ => by rfl) ?_ ?_
         rotate_left
         · intro γ; simp only [Act.put, List.setIfInBounds_toArray, List.set_cons_zero, List.set_cons_succ]; exact rfl)
  refine SeqG.make (k := 1) (A' := ?_) (fun g => .agg #[.bool x.s.s, .int .i64 x.s.lo, .int .i64 x.s.hi, .bool x.c.s, .int .i64 x.c.m, .int .i64 x.c.r, .bool na, .slice (gA g) (srt la).length (g 2)]) (RSetG (srt la)) rfl (fun γ => by rfl) (RSetG.stable _) ?_ ?_ ?_
  rotate_left
  · intro γ w' K hS hF hK
    obtain ⟨hc, hf⟩ := bcell hS
    have hz := hS.size
    go_simp
    (go_at_call 23; refine (HA.out w' (HBW.trans (hS.mono HBW.size))).mono ?_; rintro e w1 ⟨⟨A1, c1, rfl, hmade⟩, hb1⟩; obtain ⟨g, rfl, rfl, hg⟩ := MadeV.ghost hmade (by omega) (lo := w'.heap.size); exact hK.out g w1 hb1 hg)
  · intro γ; simp only [Act.put, List.setIfInBounds_toArray, List.set_cons_zero, List.set_cons_succ]; exact rfl
  iterate 1
    first
      | (refine SeqG.yes (v := ?_) (A' := ?_) rfl (fun γ => by rfl) ?_ ?_ ?_
         rotate_left 2
         · intro γ w' K hS hK
           obtain ⟨hc, hf⟩ := bcell hS
           have hz := hS.size
           go_simp
           first
             | exact hK.out _ (Below.refl _ _)
             | trace_state
         · intro γ; simp only [Act.put, List.setIfInBounds_toArray, List.set_cons_zero, List.set_cons_succ]; exact rfl)
      | (refine SeqG.no (A' := ?_) rfl (fun γ => by rfl) ?_ ?_
         rotate_left
         · intro γ; simp only [Act.put, List.setIfInBounds_toArray, List.set_cons_zero, List.set_cons_succ]; exact rfl)
  refine SeqG.make (k := 3) (A' := ?_) (fun g => .agg #[.bool y.s.s, .int .i64 y.s.lo, .int .i64 y.s.hi, .bool y.c.s, .int .i64 y.c.m, .int .i64 y.c.r, .bool nb, .slice (gA g) (srt lb).length (g 2)]) (RSetG (srt lb)) rfl (fun γ => by rfl) (RSetG.stable _) ?_ ?_ ?_
  rotate_left
  · intro γ w' K hS hF hK
    obtain ⟨hc, hf⟩ := bcell hS
    have hz := hS.size
    go_simp
    (go_at_call 23; refine (HB.out w' (HBW.trans (hS.mono HBW.size))).mono ?_; rintro e w1 ⟨⟨A1, c1, rfl, hmade⟩, hb1⟩; obtain ⟨g, rfl, rfl, hg⟩ := MadeV.ghost hmade (by omega) (lo := w'.heap.size); exact hK.out g w1 hb1 hg)
  · intro γ; simp only [Act.put, List.setIfInBounds_toArray, List.set_cons_zero, List.set_cons_succ]; exact rfl
  refine SeqG.make (k := 4) (A' := ?_) (fun g => .pointer (some ⟨g 0, 0, none⟩)) (RCell #[.bool false, .int .i64 0, .int .i64 0, .bool false, .int .i64 0, .int .i64 0, .bool false, .slice none 0 0] 55) rfl (fun γ => by rfl) (RCell.stable _ _) ?_ ?_ ?_
  rotate_left
  · intro γ w' K hS _ hK
    have hm := RCell.made (#[.bool false, .int .i64 0, .int .i64 0, .bool false, .int .i64 0, .int .i64 0, .bool false, .slice none 0 0]) (55) w'
    have HK := Lib.hid (hK.out (fun _ => w'.heap.size) (w'.alloc (.cells #[.bool false, .int .i64 0, .int .i64 0, .bool false, .int .i64 0, .int .i64 0, .bool false, .slice none 0 0] 55)) ((Below.refl _ _).alloc (Nat.le_refl _) _) hm); clear hK hm
    go_simp
    exact HK.out
  · intro γ; simp only [Act.put, List.setIfInBounds_toArray, List.set_cons_zero, List.set_cons_succ]; exact rfl
  refine SeqG.make (k := 5) (A' := ?_) (fun g => .pointer (some ⟨g 0, 0, none⟩)) (RCell #[.bool false, .int .i64 0, .int .i64 0, .bool false, .int .i64 0, .int .i64 0, .bool false, .slice none 0 0] 55) rfl (fun γ => by rfl) (RCell.stable _ _) ?_ ?_ ?_
  rotate_left
  · intro γ w' K hS _ hK
    have hm := RCell.made (#[.bool false, .int .i64 0, .int .i64 0, .bool false, .int .i64 0, .int .i64 0, .bool false, .slice none 0 0]) (55) w'
    have HK := Lib.hid (hK.out (fun _ => w'.heap.size) (w'.alloc (.cells #[.bool false, .int .i64 0, .int .i64 0, .bool false, .int .i64 0, .int .i64 0, .bool false, .slice none 0 0] 55)) ((Below.refl _ _).alloc (Nat.le_refl _) _) hm); clear hK hm
    go_simp
    exact HK.out
  · intro γ; simp only [Act.put, List.setIfInBounds_toArray, List.set_cons_zero, List.set_cons_succ]; exact rfl
  refine SeqG.nil (hfin.out _ _ ?_)
  clear hfin fin
  intro γ lo hi w1 hB1 hF hD
  replace hF := listF4 hF
  dsimp only at hF
  replace hD := listD4 hD
  dsimp only at hD
  obtain ⟨hD0, hD1, hD2, hD3, hD4, hD5⟩ := hD
  replace hD0 := hD0 (by decide)
  replace hD1 := hD1 (by decide)
  replace hD2 := hD2 (by decide)
  replace hD3 := hD3 (by decide)
  replace hD4 := hD4 (by decide)
  replace hD5 := hD5 (by decide)
  obtain ⟨⟨y1, l1, o1, r1, m1, t1, n1, s1⟩, ⟨y3, l3, o3, r3, m3, t3, n3, s3⟩, ⟨y4, l4, o4, p4, p4', h4⟩, ⟨y5, l5, o5, p5, p5', h5⟩⟩ := hF
  have w4 : w6.heap.size ≤ γ 4 0 := by omega
  have w5 : w6.heap.size ≤ γ 5 0 := by omega
  have x4 : γ 4 0 < w1.heap.size := by omega
  have x5 : γ 5 0 < w1.heap.size := by omega
  have n45 : γ 4 0 ≠ γ 5 0 := by omega
  have F1 : ∀ a, gA (γ 1) = some a → srt la ≠ [] → a.block ≠ γ 4 0 ∧ a.block ≠ γ 5 0 := fun a e hne => by
    have h1 := (s1 a e).1; have h2 := (s1 a e).2 hne; omega
  have F3 : ∀ a, gA (γ 3) = some a → srt lb ≠ [] → a.block ≠ γ 4 0 ∧ a.block ≠ γ 5 0 := fun a e hne => by
    have h1 := (s3 a e).1; have h2 := (s3 a e).2 hne; omega
  clear hD0 hD1 hD2 hD3 hD4 hD5 s1 s3 y1 l1 o1 y3 l3 o3 y4 l4 o4 p4 p4' y5 l5 o5 p5 p5' m1 t1 m3 t3
  generalize γ 4 0 = bp at *
  generalize γ 5 0 = bq at *
  generalize gA (γ 1) = A1 at *
  generalize γ 1 2 = c1 at *
  generalize gA (γ 3) = A3 at *
  generalize γ 3 2 = c3 at *
  have n54 := Ne.symm n45
  have H4 := Lib.hid h4; have H5 := Lib.hid h5; have HF1 := Lib.hid F1; have HF3 := Lib.hid F3; have HR1 := Lib.hid r1; have HR3 := Lib.hid r3; have HN1 := Lib.hid n1; have HN3 := Lib.hid n3
  clear h4 h5 F1 F3 r1 r3 n1 n3
  refine TailL.cons (fun K hK => ?_)
  refine wp_store_mid _ _ _ rfl bp 0 _ rfl rfl (st8_there H4.out) (by kernel_rfl) (by simp [Value.oneCell']) ?_
  rw [st8_set]
  generalize hX1 : st8 w1 bp (.bool x.s.s) (.int .i64 x.s.lo) (.int .i64 x.s.hi) (.bool x.c.s) (.int .i64 x.c.m) (.int .i64 x.c.r) (.bool na) (.slice A1 (srt la).length c1) = X1
  have K4 := Lib.hid (show X1.heap[bp]? = some (.cells #[.bool x.s.s, .int .i64 x.s.lo, .int .i64 x.s.hi, .bool x.c.s, .int .i64 x.c.m, .int .i64 x.c.r, .bool na, .slice A1 (srt la).length c1] 55) by rw [← hX1]; exact st8_blk H4.out)
  have K5 := Lib.hid ((show X1.heap[bq]? = w1.heap[bq]? by rw [← hX1]; exact st8_far _ _ n54).trans H5.out)
  have HX1 : Below w6.heap.size w6 X1 := by rw [← hX1]; exact st8_below hB1 w4
  have Q1 := Lib.hid (show SRow X1 A1 (srt la) from HR1.out.far (fun a e hne p hp => by rw [← hX1]; exact st8_cell _ _ (by rw [hp]; exact (HF1.out a e hne).1)))
  have Q3 := Lib.hid (show SRow X1 A3 (srt lb) from HR3.out.far (fun a e hne p hp => by rw [← hX1]; exact st8_cell _ _ (by rw [hp]; exact (HF3.out a e hne).1)))
  clear hX1 H4 H5 HR1 HR3 hB1 x4 x5
  refine hK.out _ _ ?_
  clear hK K
  refine TailL.cons (fun K hK => ?_)
  refine wp_store_mid _ _ _ rfl bq 0 _ rfl rfl (st8_there K5.out) (by kernel_rfl) (by simp [Value.oneCell']) ?_
  rw [st8_set]
  generalize hX : st8 X1 bq (.bool y.s.s) (.int .i64 y.s.lo) (.int .i64 y.s.hi) (.bool y.c.s) (.int .i64 y.c.m) (.int .i64 y.c.r) (.bool nb) (.slice A3 (srt lb).length c3) = X
  have kp : X.heap[bp]? = some (.cells #[.bool x.s.s, .int .i64 x.s.lo, .int .i64 x.s.hi, .bool x.c.s, .int .i64 x.c.m, .int .i64 x.c.r, .bool na, .slice A1 (srt la).length c1] 55) := by rw [← hX]; exact (st8_far _ _ n45).trans K4.out
  have kq : X.heap[bq]? = some (.cells #[.bool y.s.s, .int .i64 y.s.lo, .int .i64 y.s.hi, .bool y.c.s, .int .i64 y.c.m, .int .i64 y.c.r, .bool nb, .slice A3 (srt lb).length c3] 55) := by rw [← hX]; exact st8_blk K5.out
  have HX : Below w6.heap.size w6 X := by rw [← hX]; exact st8_below HX1 w5
  have R1 : SRow X A1 (srt la) := Q1.out.far (fun a e hne p hp => by rw [← hX]; exact st8_cell _ _ (by rw [hp]; exact (HF1.out a e hne).2))
  have R3 : SRow X A3 (srt lb) := Q3.out.far (fun a e hne p hp => by rw [← hX]; exact st8_cell _ _ (by rw [hp]; exact (HF3.out a e hne).2))
  clear hX K4 K5 HF1 HF3 Q1 Q3 HX1
  refine hK.out _ _ ?_
  clear hK K
  simp only [Act.put]
  refine TailL.nil ?_
  have kr := (HX.block _ z2).trans k4
  have HBX := HBW.trans (HX.mono HBW.size)
  have hbX := HX.size
  clear q0_0 q0_1 q0_2 q0_3 q0_4 q0_5 q0_6 q0_7 q1_0 q1_1 q1_2 q1_3 q1_4 q1_5 q1_6 q1_7 q2_0 q2_1 q2_2 q2_3 q2_4 q2_5 q2_6 q2_7 HA HB HL HN hza hzb k4 z0 z1 HX HBW R3 HN3
  have p_0 := blk_cell kp 0
  have p_1 := blk_cell kp 1
  have p_2 := blk_cell kp 2
  have p_3 := blk_cell kp 3
  have p_4 := blk_cell kp 4
  have p_5 := blk_cell kp 5
  have p_6 := blk_cell kp 6
  have p_7 := blk_cell kp 7
  simp only [List.getElem?_toArray, List.getElem?_cons_zero, List.getElem?_cons_succ] at p_0 p_1 p_2 p_3 p_4 p_5 p_6 p_7
  have fp := blk_free kp
  have zp := blk_lt kp
  have q_0 := blk_cell kq 0
  have q_1 := blk_cell kq 1
  have q_2 := blk_cell kq 2
  have q_3 := blk_cell kq 3
  have q_4 := blk_cell kq 4
  have q_5 := blk_cell kq 5
  have q_6 := blk_cell kq 6
  have q_7 := blk_cell kq 7
  simp only [List.getElem?_toArray, List.getElem?_cons_zero, List.getElem?_cons_succ] at q_0 q_1 q_2 q_3 q_4 q_5 q_6 q_7
  have fq := blk_free kq
  have zq := blk_lt kq
  have zr := blk_lt kr
  have KP := Lib.hid kp; have KQ := Lib.hid kq; have KR := Lib.hid kr; have RX := Lib.hid R1; have HBH := Lib.hid HBX
  have zpX := zp; have zqX := zq; have zrX := zr
  go_upto_region 7 with fail
  have kc := al_new X (.cells #[.bool x.c.s, .int .i64 x.c.m, .int .i64 x.c.r] 25) rfl
  have HV : Below X.heap.size X (X.alloc (.cells #[.bool x.c.s, .int .i64 x.c.m, .int .i64 x.c.r] 25)) := (by repeat (first | (with_reducible assumption) | (with_reducible exact Below.refl _ _) | (with_reducible refine Below.alloc ?_ (by first | omega | (simp; omega) | (simp; done) | (dsimp only; omega)) _) | (with_reducible refine Below.setCell ?_ (by first | omega | (simp; omega) | (simp; done) | (dsimp only; omega)) _) | (with_reducible refine Below.drew ?_) | (with_reducible refine Below.trans ?_ (Below.mono (by assumption) (by first | omega | (simp; omega) | (simp; done) | (dsimp only; omega))))))
  generalize X.alloc (.cells #[.bool x.c.s, .int .i64 x.c.m, .int .i64 x.c.r] 25) = V at *
  have kpV := (HV.block _ zp).trans kp
  have kqV := (HV.block _ zq).trans kq
  have krV := (HV.block _ zr).trans kr
  have RV := R1.mono HV
  have HBV := HBX.trans (HV.mono HBX.size)
  clear p_0 p_1 p_2 p_3 p_4 p_5 p_6 p_7 q_0 q_1 q_2 q_3 q_4 q_5 q_6 q_7 fp fq kp kq kr R1 HBX
  have p_0 := blk_cell kpV 0
  have p_1 := blk_cell kpV 1
  have p_2 := blk_cell kpV 2
  have p_3 := blk_cell kpV 3
  have p_4 := blk_cell kpV 4
  have p_5 := blk_cell kpV 5
  have p_6 := blk_cell kpV 6
  have p_7 := blk_cell kpV 7
  simp only [List.getElem?_toArray, List.getElem?_cons_zero, List.getElem?_cons_succ] at p_0 p_1 p_2 p_3 p_4 p_5 p_6 p_7
  have fp := blk_free kpV
  have zp := blk_lt kpV
  have q_0 := blk_cell kqV 0
  have q_1 := blk_cell kqV 1
  have q_2 := blk_cell kqV 2
  have q_3 := blk_cell kqV 3
  have q_4 := blk_cell kqV 4
  have q_5 := blk_cell kqV 5
  have q_6 := blk_cell kqV 6
  have q_7 := blk_cell kqV 7
  simp only [List.getElem?_toArray, List.getElem?_cons_zero, List.getElem?_cons_succ] at q_0 q_1 q_2 q_3 q_4 q_5 q_6 q_7
  have fq := blk_free kqV
  have zq := blk_lt kqV
  have c_0 := blk_cell kc 0
  have c_1 := blk_cell kc 1
  have c_2 := blk_cell kc 2
  simp only [List.getElem?_toArray, List.getElem?_cons_zero, List.getElem?_cons_succ] at c_0 c_1 c_2
  have fc := blk_free kc
  have zc := blk_lt kc
  have zr1 := blk_lt krV
  go_wp2_with fail
  go_at_call 34
  refine (H1.out _).mono ?_
  rintro e w7 ⟨rfl, hb7⟩
  have kp7 := (hb7.block _ (blk_lt kpV)).trans kpV
  have kq7 := (hb7.block _ (blk_lt kqV)).trans kqV
  have kr7 := (hb7.block _ zr1).trans krV
  have kc7 := (hb7.block _ (blk_lt kc)).trans kc
  have HU := HV.trans (hb7.mono HV.size)
  have R7 := RV.mono hb7
  have HB7 := HBV.trans (hb7.mono HBV.size)
  clear p_0 p_1 p_2 p_3 p_4 p_5 p_6 p_7 q_0 q_1 q_2 q_3 q_4 q_5 q_6 q_7 fp fq c_0 c_1 c_2 fc zc kpV kqV krV kc hb7 HV RV HBV zr1
  have p_0 := blk_cell kp7 0
  have p_1 := blk_cell kp7 1
  have p_2 := blk_cell kp7 2
  have p_3 := blk_cell kp7 3
  have p_4 := blk_cell kp7 4
  have p_5 := blk_cell kp7 5
  have p_6 := blk_cell kp7 6
  have p_7 := blk_cell kp7 7
  simp only [List.getElem?_toArray, List.getElem?_cons_zero, List.getElem?_cons_succ] at p_0 p_1 p_2 p_3 p_4 p_5 p_6 p_7
  have fp := blk_free kp7
  have zp := blk_lt kp7
  have q_0 := blk_cell kq7 0
  have q_1 := blk_cell kq7 1
  have q_2 := blk_cell kq7 2
  have q_3 := blk_cell kq7 3
  have q_4 := blk_cell kq7 4
  have q_5 := blk_cell kq7 5
  have q_6 := blk_cell kq7 6
  have q_7 := blk_cell kq7 7
  simp only [List.getElem?_toArray, List.getElem?_cons_zero, List.getElem?_cons_succ] at q_0 q_1 q_2 q_3 q_4 q_5 q_6 q_7
  have fq := blk_free kq7
  have zq := blk_lt kq7
  have c_0 := blk_cell kc7 0
  have c_1 := blk_cell kc7 1
  have c_2 := blk_cell kc7 2
  simp only [List.getElem?_toArray, List.getElem?_cons_zero, List.getElem?_cons_succ] at c_0 c_1 c_2
  have fc := blk_free kc7
  have zc := blk_lt kc7
  go_upto_region 9 with fail
  have kcY := kc7
  have HY := HU
  have kpY := (HY.block _ zpX).trans KP.out
  have kqY := (HY.block _ zqX).trans KQ.out
  have krY := (HY.block _ zrX).trans KR.out
  have RY := Lib.hid (RX.out.mono HY)
  have HBY := HBH.out.trans (HY.mono HBH.out.size)
  have hbY := HY.size
  clear p_0 p_1 p_2 p_3 p_4 p_5 p_6 p_7 q_0 q_1 q_2 q_3 q_4 q_5 q_6 q_7 fp fq zp zq c_0 c_1 c_2 fc zc kp7 kq7 kr7 kc7 HU R7 HB7 KP KQ KR RX HBH HY zpX zqX zrX
  have p_0 := blk_cell kpY 0
  have p_1 := blk_cell kpY 1
  have p_2 := blk_cell kpY 2
  have p_3 := blk_cell kpY 3
  have p_4 := blk_cell kpY 4
  have p_5 := blk_cell kpY 5
  have p_6 := blk_cell kpY 6
  have p_7 := blk_cell kpY 7
  simp only [List.getElem?_toArray, List.getElem?_cons_zero, List.getElem?_cons_succ] at p_0 p_1 p_2 p_3 p_4 p_5 p_6 p_7
  have fp := blk_free kpY
  have zp := blk_lt kpY
  have q_0 := blk_cell kqY 0
  have q_1 := blk_cell kqY 1
  have q_2 := blk_cell kqY 2
  simp only [List.getElem?_toArray, List.getElem?_cons_zero, List.getElem?_cons_succ] at q_0 q_1 q_2
  have fq := blk_free kqY
  have zq := blk_lt kqY
  have c_0 := blk_cell kcY 0
  have c_1 := blk_cell kcY 1
  have c_2 := blk_cell kcY 2
  simp only [List.getElem?_toArray, List.getElem?_cons_zero, List.getElem?_cons_succ] at c_0 c_1 c_2
  have fc := blk_free kcY
  have zc := blk_lt kcY
  have zr := blk_lt krY
  refine region_seqg (W := w7) [_, _, _, _, _, _, _, _, _, _, _, _, _] [_] rfl (by kernel_rfl) (by kernel_rfl) (by repeat (first | (with_reducible assumption) | (with_reducible exact Below.refl _ _) | (with_reducible refine Below.alloc ?_ (by first | omega | (simp; omega) | (simp; done) | (dsimp only; omega)) _) | (with_reducible refine Below.setCell ?_ (by first | omega | (simp; omega) | (simp; done) | (dsimp only; omega)) _) | (with_reducible refine Below.drew ?_) | (with_reducible refine Below.trans ?_ (Below.mono (by assumption) (by first | omega | (simp; omega) | (simp; done) | (dsimp only; omega)))))) (fun fin hfin => ?_)
  iterate 11
    first
      | (refine SeqG.yes (v := ?_) (A' := ?_) rfl (fun γ => by rfl) ?_ ?_ ?_
         rotate_left 2
         · intro γ w' K hS hK
           obtain ⟨hc, hf⟩ := bcell hS
           have hz := hS.size
           go_simp
           first
             | exact hK.out _ (Below.refl _ _)
             | (go_at_call 35; (with_reducible refine (H2.out w').mono ?_); rintro e w1 ⟨rfl, hb1⟩; exact hK.out _ hb1)
             | trace_state
         · intro γ; simp only [Act.put, List.setIfInBounds_toArray, List.set_cons_zero, List.set_cons_succ]; exact rfl)
      | (refine SeqG.no (A' := ?_) rfl (fun γ => by rfl) ?_ ?_
         rotate_left
         · intro γ; simp only [Act.put, List.setIfInBounds_toArray, List.set_cons_zero, List.set_cons_succ]; exact rfl)
  refine SeqG.make (k := 11) (A' := ?_) (fun g => .agg #[.bool u.s.s, .int .i64 u.s.lo, .int .i64 u.s.hi, .bool u.c.s, .int .i64 u.c.m, .int .i64 u.c.r, .bool na, .slice (gA g) (srt la).length (g 2)]) (RSetG (srt la)) rfl (fun γ => by rfl) (RSetG.stable _) ?_ ?_ ?_
  rotate_left
  · intro γ w' K hS hF hK
    obtain ⟨hc, hf⟩ := bcell hS
    have hz := hS.size
    go_simp
    (go_at_call 24; refine (H3.out A1 c1 w' HN1.out (RY.out.mono hS)).mono ?_; rintro e w1 ⟨⟨A1, c1, rfl, hmade⟩, hb1⟩; obtain ⟨g, rfl, rfl, hg⟩ := MadeV.ghost hmade (by omega) (lo := w'.heap.size); exact hK.out g w1 hb1 hg)
  · intro γ; simp only [Act.put, List.setIfInBounds_toArray, List.set_cons_zero, List.set_cons_succ]; exact rfl
  refine SeqG.hang (k := 12) (A' := ?_) (fun γ => .agg #[.bool u.s.s, .int .i64 u.s.lo, .int .i64 u.s.hi, .bool u.c.s, .int .i64 u.c.m, .int .i64 u.c.r, .bool na, .slice (gA (γ 11)) (srt la).length (γ 11 2)]) rfl (fun γ => by rfl) (fun i _ hn γ g => ?_) (fun γ g => ?_) ?_ ?_ ?_
  rotate_left
  · have hne11 : 11 ≠ i := fun e => hn (by rw [← e]; exact reachL_spec (of_decide_eq_true (by kernel_rfl)))
    (try dsimp only); rw [updG_ne γ g hne11]
  · (try dsimp only); rw [updG_ne γ g (show 11 ≠ 12 by decide)]
  · intro γ w' K hS _ hK
    obtain ⟨hc, hf⟩ := bcell hS
    have hz := hS.size
    go_simp
    (go_at_call 28; (with_reducible refine (H5.out _ _ w').mono ?_); rintro e w1 ⟨rfl, hb1⟩; exact hK.out _ hb1)
  · intro γ; simp only [Act.put, List.setIfInBounds_toArray, List.set_cons_zero, List.set_cons_succ]; exact rfl
  refine SeqG.nil (hfin.out _ _ ?_)
  clear hfin fin
  intro γ lo hi w1 hB1 hF hD
  replace hF := listF1 hF
  dsimp only at hF
  clear hD
  obtain ⟨y8, l8, o8, hR⟩ := hF
  have hM := RSetG.made hR
  replace hM := hM.base (show w.heap.size + 3 ≤ lo 11 by omega)
  have kr1 := (hB1.block _ zr).trans krY
  have HB := HBY.trans (hB1.mono HBY.size)
  generalize gA (γ 11) = A7 at *
  generalize γ 11 2 = c7 at *
  clear hR hB1 p_0 p_1 p_2 p_3 p_4 p_5 p_6 p_7 q_0 q_1 q_2 c_0 c_1 c_2 fp fq fc zp zq zc kpY kqY kcY krY zr HBY hbY y8 l8 o8
  have r_0 := blk_cell kr1 0
  have r_1 := blk_cell kr1 1
  have r_2 := blk_cell kr1 2
  have r_3 := blk_cell kr1 3
  have r_4 := blk_cell kr1 4
  have r_5 := blk_cell kr1 5
  have r_6 := blk_cell kr1 6
  have r_7 := blk_cell kr1 7
  simp only [List.getElem?_toArray, List.getElem?_cons_zero, List.getElem?_cons_succ] at r_0 r_1 r_2 r_3 r_4 r_5 r_6 r_7
  have fr := blk_free kr1
  have zr := blk_lt kr1
  refine TailL.cons (fun K hK => ?_)
  go_simp
  refine hK.out _ _ ?_
  clear hK K
  refine TailL.nil ?_
  go_wp2
  refine bodyPost_ret (by simp [results, Tryz.results8, go_sem, *] <;> rfl) rfl ⟨⟨A7, c7, rfl, (by (refine MadeV.base (b := w.heap.size + 3) ?_ (by omega)); (repeat refine MadeV.setCell ?_ (by first | omega | (simp; omega)) _); first | exact hM | exact hM.base (by omega))⟩, (by repeat (first | (with_reducible assumption) | (with_reducible exact Below.refl _ _) | (with_reducible refine Below.alloc ?_ (by first | omega | (simp; omega) | (simp; done) | (dsimp only; omega)) _) | (with_reducible refine Below.setCell ?_ (by first | omega | (simp; omega) | (simp; done) | (dsimp only; omega)) _) | (with_reducible refine Below.drew ?_) | (with_reducible refine Below.trans ?_ (Below.mono (by assumption) (by first | omega | (simp; omega) | (simp; done) | (dsimp only; omega))))))⟩
end Go.Proofs.YtdpnphnafidpiaaGreat

/- X-PARTIAL What value.Narrow returns where it narrows: layer 8. -/
namespace Go.Proofs.YtdpnphnafidpiaaGreat
open Go.RowKit

set_option maxRecDepth 100000 in
set_option maxHeartbeats 8000000 in
theorem value_Narrow_3t (a b : In) (ha : a.ok) (hb : b.ok) (na nb : Bool) (la lb : List Str) (A B : Option Addr) (ca cb : Nat) (w : World) (hma : la.length * 16 ≤ 140737488355328) (hmb : lb.length * 16 ≤ 140737488355328) (hza : A = none → ca = 0) (hzb : B = none → cb = 0) (hra : SRow w A la) (hrb : SRow w B lb)
    (h : (b.leq a && leqS nb lb na la) = true) (h' : nonV b.clean nb lb = false) (hall : a.clean.isAll = true) :
    Calls Tryz.prog 8 #[.agg #[.bool a.s.s, .int .i64 a.s.lo, .int .i64 a.s.hi, .bool a.c.s, .int .i64 a.c.m, .int .i64 a.c.r, .bool na, .slice A la.length ca], .agg #[.bool b.s.s, .int .i64 b.s.lo, .int .i64 b.s.hi, .bool b.c.s, .int .i64 b.c.m, .int .i64 b.c.r, .bool nb, .slice B lb.length cb]] w fun e w' => (∃ A' c', e = .returned (.agg #[.bool (In.narrowC a.clean b.clean).s.s, .int .i64 (In.narrowC a.clean b.clean).s.lo, .int .i64 (In.narrowC a.clean b.clean).s.hi, .bool (In.narrowC a.clean b.clean).c.s, .int .i64 (In.narrowC a.clean b.clean).c.m, .int .i64 (In.narrowC a.clean b.clean).c.r, .bool na, .slice A' (srt la).length c']) ∧ MadeV w.heap.size w' A' c' (srt la)) ∧ Below w.heap.size w w' := by
  have hl := fun w' (h : Below w.heap.size w w') => value_Leq b a hb ha nb na lb la B A cb ca w' hmb hma hzb hza (hrb.mono h) (hra.mono h)
  rw [h] at hl
  have HL : Hid (∀ w', Below w.heap.size w w' → _) := Lib.hid hl
  have hn := fun w' (h : Below w.heap.size w w') => value_None b hb nb lb B cb w' hmb hzb (hrb.mono h)
  rw [h'] at hn
  have HN : Hid (∀ w', Below w.heap.size w w' → _) := Lib.hid hn
  have HA : Hid (∀ w', Below w.heap.size w w' → _) := Lib.hid (fun w' h => value_split a ha na la A ca w' hma hza (hra.mono h))
  have HB : Hid (∀ w', Below w.heap.size w w' → _) := Lib.hid (fun w' h => value_split b hb nb lb B cb w' hmb hzb (hrb.mono h))
  have hxs := In.clean_std ha
  have hys := In.clean_std hb
  have hla := srt_len_le la
  clear hl hn h h' ha hb hra hrb
  unfold In.narrowC
  generalize a.clean = x at *
  generalize b.clean = y at *
  have h1 := ints_every x
  have H2 := Lib.hid (span_narrow x.s y.s)
  have hno := Sp.narrow_ok (x := x.s) (y := y.s) hxs.1 hys.1
  have hok : (In.mk (x.s.narrow y.s) (if x.isAll = true then y.c else x.c)).ok := ⟨hno, by rw [if_pos hall]; exact hys.2.1.1⟩
  have h3 := fun A1 c1 w' => value_clean (In.mk (x.s.narrow y.s) (if x.isAll = true then y.c else x.c)) hok na (srt la) A1 c1 w' (by omega)
  rw [srt_srt] at h3
  dsimp only at h3
  generalize hu : In.clean (In.mk (x.s.narrow y.s) (if x.isAll = true then y.c else x.c)) = u at *
  generalize x.s.narrow y.s = t at *
  have H5 : Hid (∀ A1 c1 w', _) := Lib.hid (fun A1 c1 w' => parts_value u na (srt la) A1 c1 w')
  clear hu hok hno hxs hys hla
  rw [hall] at h1 h3
  simp only [if_true] at h3
  have H1 := Lib.hid h1
  have H3 : Hid (∀ A1 c1 w', _) := Lib.hid h3
  clear h1 h3 hall
  go_enter Tryz.func8, Tryz.ntmps8
  go_upto_region 1 with fail
  generalize hW : (((w.alloc (.cells #[.bool a.s.s, .int .i64 a.s.lo, .int .i64 a.s.hi, .bool a.c.s, .int .i64 a.c.m, .int .i64 a.c.r, .bool na, .slice A la.length ca] 30)).alloc (.cells #[.bool b.s.s, .int .i64 b.s.lo, .int .i64 b.s.hi, .bool b.c.s, .int .i64 b.c.m, .int .i64 b.c.r, .bool nb, .slice B lb.length cb] 30)).alloc (.cells #[.bool false, .int .i64 0, .int .i64 0, .bool false, .int .i64 0, .int .i64 0, .bool false, .slice none 0 0] 30)) = W
  have q0_0 : W.cell? ⟨w.heap.size, 0, none⟩ = some (.bool a.s.s) := by rw [← hW]; simp [go_sem]
  have q0_1 : W.cell? ⟨w.heap.size, 1, none⟩ = some (.int .i64 a.s.lo) := by rw [← hW]; simp [go_sem]
  have q0_2 : W.cell? ⟨w.heap.size, 2, none⟩ = some (.int .i64 a.s.hi) := by rw [← hW]; simp [go_sem]
  have q0_3 : W.cell? ⟨w.heap.size, 3, none⟩ = some (.bool a.c.s) := by rw [← hW]; simp [go_sem]
  have q0_4 : W.cell? ⟨w.heap.size, 4, none⟩ = some (.int .i64 a.c.m) := by rw [← hW]; simp [go_sem]
  have q0_5 : W.cell? ⟨w.heap.size, 5, none⟩ = some (.int .i64 a.c.r) := by rw [← hW]; simp [go_sem]
  have q0_6 : W.cell? ⟨w.heap.size, 6, none⟩ = some (.bool na) := by rw [← hW]; simp [go_sem]
  have q0_7 : W.cell? ⟨w.heap.size, 7, none⟩ = some (.slice A la.length ca) := by rw [← hW]; simp [go_sem]
  have q1_0 : W.cell? ⟨w.heap.size + 1, 0, none⟩ = some (.bool b.s.s) := by rw [← hW]; simp [go_sem]
  have q1_1 : W.cell? ⟨w.heap.size + 1, 1, none⟩ = some (.int .i64 b.s.lo) := by rw [← hW]; simp [go_sem]
  have q1_2 : W.cell? ⟨w.heap.size + 1, 2, none⟩ = some (.int .i64 b.s.hi) := by rw [← hW]; simp [go_sem]
  have q1_3 : W.cell? ⟨w.heap.size + 1, 3, none⟩ = some (.bool b.c.s) := by rw [← hW]; simp [go_sem]
  have q1_4 : W.cell? ⟨w.heap.size + 1, 4, none⟩ = some (.int .i64 b.c.m) := by rw [← hW]; simp [go_sem]
  have q1_5 : W.cell? ⟨w.heap.size + 1, 5, none⟩ = some (.int .i64 b.c.r) := by rw [← hW]; simp [go_sem]
  have q1_6 : W.cell? ⟨w.heap.size + 1, 6, none⟩ = some (.bool nb) := by rw [← hW]; simp [go_sem]
  have q1_7 : W.cell? ⟨w.heap.size + 1, 7, none⟩ = some (.slice B lb.length cb) := by rw [← hW]; simp [go_sem]
  have q2_0 : W.cell? ⟨w.heap.size + 1 + 1, 0, none⟩ = some (.bool false) := by rw [← hW]; simp [go_sem]
  have q2_1 : W.cell? ⟨w.heap.size + 1 + 1, 1, none⟩ = some (.int .i64 0) := by rw [← hW]; simp [go_sem]
  have q2_2 : W.cell? ⟨w.heap.size + 1 + 1, 2, none⟩ = some (.int .i64 0) := by rw [← hW]; simp [go_sem]
  have q2_3 : W.cell? ⟨w.heap.size + 1 + 1, 3, none⟩ = some (.bool false) := by rw [← hW]; simp [go_sem]
  have q2_4 : W.cell? ⟨w.heap.size + 1 + 1, 4, none⟩ = some (.int .i64 0) := by rw [← hW]; simp [go_sem]
  have q2_5 : W.cell? ⟨w.heap.size + 1 + 1, 5, none⟩ = some (.int .i64 0) := by rw [← hW]; simp [go_sem]
  have q2_6 : W.cell? ⟨w.heap.size + 1 + 1, 6, none⟩ = some (.bool false) := by rw [← hW]; simp [go_sem]
  have q2_7 : W.cell? ⟨w.heap.size + 1 + 1, 7, none⟩ = some (.slice none 0 0) := by rw [← hW]; simp [go_sem]
  have f0 : ∀ o, W.frozen? ⟨w.heap.size, o, none⟩ = false := by intro o; rw [← hW]; simp [go_sem]
  have f1 : ∀ o, W.frozen? ⟨w.heap.size + 1, o, none⟩ = false := by intro o; rw [← hW]; simp [go_sem]
  have f2 : ∀ o, W.frozen? ⟨w.heap.size + 1 + 1, o, none⟩ = false := by intro o; rw [← hW]; simp [go_sem]
  have k0 : W.heap[w.heap.size]? = some (.cells #[.bool a.s.s, .int .i64 a.s.lo, .int .i64 a.s.hi, .bool a.c.s, .int .i64 a.c.m, .int .i64 a.c.r, .bool na, .slice A la.length ca] 30 (0, 0)) := by rw [← hW]; rw [al_old _ _ (by (repeat rw [al_size]); omega)]; rw [al_old _ _ (by (repeat rw [al_size]); omega)]; exact al_new _ _ (by (repeat rw [al_size]) <;> rfl)
  have k1 : W.heap[w.heap.size + 1]? = some (.cells #[.bool b.s.s, .int .i64 b.s.lo, .int .i64 b.s.hi, .bool b.c.s, .int .i64 b.c.m, .int .i64 b.c.r, .bool nb, .slice B lb.length cb] 30 (0, 0)) := by rw [← hW]; rw [al_old _ _ (by (repeat rw [al_size]); omega)]; exact al_new _ _ (by (repeat rw [al_size]) <;> rfl)
  have k2 : W.heap[w.heap.size + 1 + 1]? = some (.cells #[.bool false, .int .i64 0, .int .i64 0, .bool false, .int .i64 0, .int .i64 0, .bool false, .slice none 0 0] 30 (0, 0)) := by rw [← hW]; exact al_new _ _ (by (repeat rw [al_size]) <;> rfl)
  have z0 : w.heap.size < W.heap.size := by rw [← hW]; first | (simp; done) | (simp; omega)
  have z1 : w.heap.size + 1 < W.heap.size := by rw [← hW]; first | (simp; done) | (simp; omega)
  have z2 : w.heap.size + 1 + 1 < W.heap.size := by rw [← hW]; first | (simp; done) | (simp; omega)
  have HW : Below w.heap.size w W := by rw [← hW]; exact (by repeat (first | (with_reducible assumption) | (with_reducible exact Below.refl _ _) | (with_reducible refine Below.alloc ?_ (by first | omega | (simp; omega) | (simp; done) | (dsimp only; omega)) _) | (with_reducible refine Below.setCell ?_ (by first | omega | (simp; omega) | (simp; done) | (dsimp only; omega)) _) | (with_reducible refine Below.drew ?_) | (with_reducible refine Below.trans ?_ (Below.mono (by assumption) (by first | omega | (simp; omega) | (simp; done) | (dsimp only; omega))))))
  clear hW
  have zW := z2
  go_wp2_with fail
  go_at_call 15
  refine (HL.out _ HW).mono ?_
  rintro e w2 ⟨rfl, hb2⟩
  have k3 := (hb2.block _ z2).trans k2
  have HBW := HW.trans (hb2.mono HW.size)
  replace q0_0 := (hb2.cell (p := ⟨w.heap.size, 0, none⟩) z0).trans q0_0
  replace q0_1 := (hb2.cell (p := ⟨w.heap.size, 1, none⟩) z0).trans q0_1
  replace q0_2 := (hb2.cell (p := ⟨w.heap.size, 2, none⟩) z0).trans q0_2
  replace q0_3 := (hb2.cell (p := ⟨w.heap.size, 3, none⟩) z0).trans q0_3
  replace q0_4 := (hb2.cell (p := ⟨w.heap.size, 4, none⟩) z0).trans q0_4
  replace q0_5 := (hb2.cell (p := ⟨w.heap.size, 5, none⟩) z0).trans q0_5
  replace q0_6 := (hb2.cell (p := ⟨w.heap.size, 6, none⟩) z0).trans q0_6
  replace q0_7 := (hb2.cell (p := ⟨w.heap.size, 7, none⟩) z0).trans q0_7
  replace q1_0 := (hb2.cell (p := ⟨w.heap.size + 1, 0, none⟩) z1).trans q1_0
  replace q1_1 := (hb2.cell (p := ⟨w.heap.size + 1, 1, none⟩) z1).trans q1_1
  replace q1_2 := (hb2.cell (p := ⟨w.heap.size + 1, 2, none⟩) z1).trans q1_2
  replace q1_3 := (hb2.cell (p := ⟨w.heap.size + 1, 3, none⟩) z1).trans q1_3
  replace q1_4 := (hb2.cell (p := ⟨w.heap.size + 1, 4, none⟩) z1).trans q1_4
  replace q1_5 := (hb2.cell (p := ⟨w.heap.size + 1, 5, none⟩) z1).trans q1_5
  replace q1_6 := (hb2.cell (p := ⟨w.heap.size + 1, 6, none⟩) z1).trans q1_6
  replace q1_7 := (hb2.cell (p := ⟨w.heap.size + 1, 7, none⟩) z1).trans q1_7
  replace q2_0 := (hb2.cell (p := ⟨w.heap.size + 1 + 1, 0, none⟩) z2).trans q2_0
  replace q2_1 := (hb2.cell (p := ⟨w.heap.size + 1 + 1, 1, none⟩) z2).trans q2_1
  replace q2_2 := (hb2.cell (p := ⟨w.heap.size + 1 + 1, 2, none⟩) z2).trans q2_2
  replace q2_3 := (hb2.cell (p := ⟨w.heap.size + 1 + 1, 3, none⟩) z2).trans q2_3
  replace q2_4 := (hb2.cell (p := ⟨w.heap.size + 1 + 1, 4, none⟩) z2).trans q2_4
  replace q2_5 := (hb2.cell (p := ⟨w.heap.size + 1 + 1, 5, none⟩) z2).trans q2_5
  replace q2_6 := (hb2.cell (p := ⟨w.heap.size + 1 + 1, 6, none⟩) z2).trans q2_6
  replace q2_7 := (hb2.cell (p := ⟨w.heap.size + 1 + 1, 7, none⟩) z2).trans q2_7
  replace z0 := Nat.lt_of_lt_of_le z0 hb2.size
  replace z1 := Nat.lt_of_lt_of_le z1 hb2.size
  replace z2 := Nat.lt_of_lt_of_le z2 hb2.size
  clear hb2 f0 f1 f2 k0 k1 k2
  go_wp2_with fail
  go_at_call 33
  refine (HN.out _ HBW).mono ?_
  rintro e w6 ⟨rfl, hb3⟩
  have k4 := (hb3.block _ z2).trans k3
  replace HBW := HBW.trans (hb3.mono HBW.size)
  replace q0_0 := (hb3.cell (p := ⟨w.heap.size, 0, none⟩) z0).trans q0_0
  replace q0_1 := (hb3.cell (p := ⟨w.heap.size, 1, none⟩) z0).trans q0_1
  replace q0_2 := (hb3.cell (p := ⟨w.heap.size, 2, none⟩) z0).trans q0_2
  replace q0_3 := (hb3.cell (p := ⟨w.heap.size, 3, none⟩) z0).trans q0_3
  replace q0_4 := (hb3.cell (p := ⟨w.heap.size, 4, none⟩) z0).trans q0_4
  replace q0_5 := (hb3.cell (p := ⟨w.heap.size, 5, none⟩) z0).trans q0_5
  replace q0_6 := (hb3.cell (p := ⟨w.heap.size, 6, none⟩) z0).trans q0_6
  replace q0_7 := (hb3.cell (p := ⟨w.heap.size, 7, none⟩) z0).trans q0_7
  replace q1_0 := (hb3.cell (p := ⟨w.heap.size + 1, 0, none⟩) z1).trans q1_0
  replace q1_1 := (hb3.cell (p := ⟨w.heap.size + 1, 1, none⟩) z1).trans q1_1
  replace q1_2 := (hb3.cell (p := ⟨w.heap.size + 1, 2, none⟩) z1).trans q1_2
  replace q1_3 := (hb3.cell (p := ⟨w.heap.size + 1, 3, none⟩) z1).trans q1_3
  replace q1_4 := (hb3.cell (p := ⟨w.heap.size + 1, 4, none⟩) z1).trans q1_4
  replace q1_5 := (hb3.cell (p := ⟨w.heap.size + 1, 5, none⟩) z1).trans q1_5
  replace q1_6 := (hb3.cell (p := ⟨w.heap.size + 1, 6, none⟩) z1).trans q1_6
  replace q1_7 := (hb3.cell (p := ⟨w.heap.size + 1, 7, none⟩) z1).trans q1_7
  replace q2_0 := (hb3.cell (p := ⟨w.heap.size + 1 + 1, 0, none⟩) z2).trans q2_0
  replace q2_1 := (hb3.cell (p := ⟨w.heap.size + 1 + 1, 1, none⟩) z2).trans q2_1
  replace q2_2 := (hb3.cell (p := ⟨w.heap.size + 1 + 1, 2, none⟩) z2).trans q2_2
  replace q2_3 := (hb3.cell (p := ⟨w.heap.size + 1 + 1, 3, none⟩) z2).trans q2_3
  replace q2_4 := (hb3.cell (p := ⟨w.heap.size + 1 + 1, 4, none⟩) z2).trans q2_4
  replace q2_5 := (hb3.cell (p := ⟨w.heap.size + 1 + 1, 5, none⟩) z2).trans q2_5
  replace q2_6 := (hb3.cell (p := ⟨w.heap.size + 1 + 1, 6, none⟩) z2).trans q2_6
  replace q2_7 := (hb3.cell (p := ⟨w.heap.size + 1 + 1, 7, none⟩) z2).trans q2_7
  replace z0 := Nat.lt_of_lt_of_le z0 hb3.size
  replace z1 := Nat.lt_of_lt_of_le z1 hb3.size
  replace z2 := Nat.lt_of_lt_of_le z2 hb3.size
  clear hb3 k3 HW
  go_upto_region 5 with fail
  refine region_seqg (W := w6) [_, _, _, _, _, _] [_, _] rfl (by kernel_rfl) (by kernel_rfl) (by repeat (first | (with_reducible assumption) | (with_reducible exact Below.refl _ _) | (with_reducible refine Below.alloc ?_ (by first | omega | (simp; omega) | (simp; done) | (dsimp only; omega)) _) | (with_reducible refine Below.setCell ?_ (by first | omega | (simp; omega) | (simp; done) | (dsimp only; omega)) _) | (with_reducible refine Below.drew ?_) | (with_reducible refine Below.trans ?_ (Below.mono (by assumption) (by first | omega | (simp; omega) | (simp; done) | (dsimp only; omega)))))) (fun fin hfin => ?_)
  iterate 1
    first
      | (refine SeqG.yes (v := ?_) (A' := ?_) rfl (fun γ => by rfl) ?_ ?_ ?_
         rotate_left 2
         · intro γ w' K hS hK
           obtain ⟨hc, hf⟩ := bcell hS
           have hz := hS.size
           go_simp
           first
             | exact hK.out _ (Below.refl _ _)
             | trace_state
         · intro γ; simp only [Act.put, List.setIfInBounds_toArray, List.set_cons_zero, List.set_cons_succ]; exact rfl)
      | (refine SeqG.no (A' := ?_) rfl (fun γ => by rfl) ?_ ?_
         rotate_left
         · intro γ; simp only [Act.put, List.setIfInBounds_toArray, List.set_cons_zero, List.set_cons_succ]; exact rfl)
  refine SeqG.make (k := 1) (A' := ?_) (fun g => .agg #[.bool x.s.s, .int .i64 x.s.lo, .int .i64 x.s.hi, .bool x.c.s, .int .i64 x.c.m, .int .i64 x.c.r, .bool na, .slice (gA g) (srt la).length (g 2)]) (RSetG (srt la)) rfl (fun γ => by rfl) (RSetG.stable _) ?_ ?_ ?_
  rotate_left
  · intro γ w' K hS hF hK
    obtain ⟨hc, hf⟩ := bcell hS
    have hz := hS.size
    go_simp
    (go_at_call 23; refine (HA.out w' (HBW.trans (hS.mono HBW.size))).mono ?_; rintro e w1 ⟨⟨A1, c1, rfl, hmade⟩, hb1⟩; obtain ⟨g, rfl, rfl, hg⟩ := MadeV.ghost hmade (by omega) (lo := w'.heap.size); exact hK.out g w1 hb1 hg)
  · intro γ; simp only [Act.put, List.setIfInBounds_toArray, List.set_cons_zero, List.set_cons_succ]; exact rfl
  iterate 1
    first
      | (refine SeqG.yes (v := ?_) (A' := ?_) rfl (fun γ => by rfl) ?_ ?_ ?_
         rotate_left 2
         · intro γ w' K hS hK
           obtain ⟨hc, hf⟩ := bcell hS
           have hz := hS.size
           go_simp
           first
             | exact hK.out _ (Below.refl _ _)
             | trace_state
         · intro γ; simp only [Act.put, List.setIfInBounds_toArray, List.set_cons_zero, List.set_cons_succ]; exact rfl)
      | (refine SeqG.no (A' := ?_) rfl (fun γ => by rfl) ?_ ?_
         rotate_left
         · intro γ; simp only [Act.put, List.setIfInBounds_toArray, List.set_cons_zero, List.set_cons_succ]; exact rfl)
  refine SeqG.make (k := 3) (A' := ?_) (fun g => .agg #[.bool y.s.s, .int .i64 y.s.lo, .int .i64 y.s.hi, .bool y.c.s, .int .i64 y.c.m, .int .i64 y.c.r, .bool nb, .slice (gA g) (srt lb).length (g 2)]) (RSetG (srt lb)) rfl (fun γ => by rfl) (RSetG.stable _) ?_ ?_ ?_
  rotate_left
  · intro γ w' K hS hF hK
    obtain ⟨hc, hf⟩ := bcell hS
    have hz := hS.size
    go_simp
    (go_at_call 23; refine (HB.out w' (HBW.trans (hS.mono HBW.size))).mono ?_; rintro e w1 ⟨⟨A1, c1, rfl, hmade⟩, hb1⟩; obtain ⟨g, rfl, rfl, hg⟩ := MadeV.ghost hmade (by omega) (lo := w'.heap.size); exact hK.out g w1 hb1 hg)
  · intro γ; simp only [Act.put, List.setIfInBounds_toArray, List.set_cons_zero, List.set_cons_succ]; exact rfl
  refine SeqG.make (k := 4) (A' := ?_) (fun g => .pointer (some ⟨g 0, 0, none⟩)) (RCell #[.bool false, .int .i64 0, .int .i64 0, .bool false, .int .i64 0, .int .i64 0, .bool false, .slice none 0 0] 55) rfl (fun γ => by rfl) (RCell.stable _ _) ?_ ?_ ?_
  rotate_left
  · intro γ w' K hS _ hK
    have hm := RCell.made (#[.bool false, .int .i64 0, .int .i64 0, .bool false, .int .i64 0, .int .i64 0, .bool false, .slice none 0 0]) (55) w'
    have HK := Lib.hid (hK.out (fun _ => w'.heap.size) (w'.alloc (.cells #[.bool false, .int .i64 0, .int .i64 0, .bool false, .int .i64 0, .int .i64 0, .bool false, .slice none 0 0] 55)) ((Below.refl _ _).alloc (Nat.le_refl _) _) hm); clear hK hm
    go_simp
    exact HK.out
  · intro γ; simp only [Act.put, List.setIfInBounds_toArray, List.set_cons_zero, List.set_cons_succ]; exact rfl
  refine SeqG.make (k := 5) (A' := ?_) (fun g => .pointer (some ⟨g 0, 0, none⟩)) (RCell #[.bool false, .int .i64 0, .int .i64 0, .bool false, .int .i64 0, .int .i64 0, .bool false, .slice none 0 0] 55) rfl (fun γ => by rfl) (RCell.stable _ _) ?_ ?_ ?_
  rotate_left
  · intro γ w' K hS _ hK
    have hm := RCell.made (#[.bool false, .int .i64 0, .int .i64 0, .bool false, .int .i64 0, .int .i64 0, .bool false, .slice none 0 0]) (55) w'
    have HK := Lib.hid (hK.out (fun _ => w'.heap.size) (w'.alloc (.cells #[.bool false, .int .i64 0, .int .i64 0, .bool false, .int .i64 0, .int .i64 0, .bool false, .slice none 0 0] 55)) ((Below.refl _ _).alloc (Nat.le_refl _) _) hm); clear hK hm
    go_simp
    exact HK.out
  · intro γ; simp only [Act.put, List.setIfInBounds_toArray, List.set_cons_zero, List.set_cons_succ]; exact rfl
  refine SeqG.nil (hfin.out _ _ ?_)
  clear hfin fin
  intro γ lo hi w1 hB1 hF hD
  replace hF := listF4 hF
  dsimp only at hF
  replace hD := listD4 hD
  dsimp only at hD
  obtain ⟨hD0, hD1, hD2, hD3, hD4, hD5⟩ := hD
  replace hD0 := hD0 (by decide)
  replace hD1 := hD1 (by decide)
  replace hD2 := hD2 (by decide)
  replace hD3 := hD3 (by decide)
  replace hD4 := hD4 (by decide)
  replace hD5 := hD5 (by decide)
  obtain ⟨⟨y1, l1, o1, r1, m1, t1, n1, s1⟩, ⟨y3, l3, o3, r3, m3, t3, n3, s3⟩, ⟨y4, l4, o4, p4, p4', h4⟩, ⟨y5, l5, o5, p5, p5', h5⟩⟩ := hF
  have w4 : w6.heap.size ≤ γ 4 0 := by omega
  have w5 : w6.heap.size ≤ γ 5 0 := by omega
  have x4 : γ 4 0 < w1.heap.size := by omega
  have x5 : γ 5 0 < w1.heap.size := by omega
  have n45 : γ 4 0 ≠ γ 5 0 := by omega
  have F1 : ∀ a, gA (γ 1) = some a → srt la ≠ [] → a.block ≠ γ 4 0 ∧ a.block ≠ γ 5 0 := fun a e hne => by
    have h1 := (s1 a e).1; have h2 := (s1 a e).2 hne; omega
  have F3 : ∀ a, gA (γ 3) = some a → srt lb ≠ [] → a.block ≠ γ 4 0 ∧ a.block ≠ γ 5 0 := fun a e hne => by
    have h1 := (s3 a e).1; have h2 := (s3 a e).2 hne; omega
  clear hD0 hD1 hD2 hD3 hD4 hD5 s1 s3 y1 l1 o1 y3 l3 o3 y4 l4 o4 p4 p4' y5 l5 o5 p5 p5' m1 t1 m3 t3
  generalize γ 4 0 = bp at *
  generalize γ 5 0 = bq at *
  generalize gA (γ 1) = A1 at *
  generalize γ 1 2 = c1 at *
  generalize gA (γ 3) = A3 at *
  generalize γ 3 2 = c3 at *
  have n54 := Ne.symm n45
  have H4 := Lib.hid h4; have H5 := Lib.hid h5; have HF1 := Lib.hid F1; have HF3 := Lib.hid F3; have HR1 := Lib.hid r1; have HR3 := Lib.hid r3; have HN1 := Lib.hid n1; have HN3 := Lib.hid n3
  clear h4 h5 F1 F3 r1 r3 n1 n3
  refine TailL.cons (fun K hK => ?_)
  refine wp_store_mid _ _ _ rfl bp 0 _ rfl rfl (st8_there H4.out) (by kernel_rfl) (by simp [Value.oneCell']) ?_
  rw [st8_set]
  generalize hX1 : st8 w1 bp (.bool x.s.s) (.int .i64 x.s.lo) (.int .i64 x.s.hi) (.bool x.c.s) (.int .i64 x.c.m) (.int .i64 x.c.r) (.bool na) (.slice A1 (srt la).length c1) = X1
  have K4 := Lib.hid (show X1.heap[bp]? = some (.cells #[.bool x.s.s, .int .i64 x.s.lo, .int .i64 x.s.hi, .bool x.c.s, .int .i64 x.c.m, .int .i64 x.c.r, .bool na, .slice A1 (srt la).length c1] 55) by rw [← hX1]; exact st8_blk H4.out)
  have K5 := Lib.hid ((show X1.heap[bq]? = w1.heap[bq]? by rw [← hX1]; exact st8_far _ _ n54).trans H5.out)
  have HX1 : Below w6.heap.size w6 X1 := by rw [← hX1]; exact st8_below hB1 w4
  have Q1 := Lib.hid (show SRow X1 A1 (srt la) from HR1.out.far (fun a e hne p hp => by rw [← hX1]; exact st8_cell _ _ (by rw [hp]; exact (HF1.out a e hne).1)))
  have Q3 := Lib.hid (show SRow X1 A3 (srt lb) from HR3.out.far (fun a e hne p hp => by rw [← hX1]; exact st8_cell _ _ (by rw [hp]; exact (HF3.out a e hne).1)))
  clear hX1 H4 H5 HR1 HR3 hB1 x4 x5
  refine hK.out _ _ ?_
  clear hK K
  refine TailL.cons (fun K hK => ?_)
  refine wp_store_mid _ _ _ rfl bq 0 _ rfl rfl (st8_there K5.out) (by kernel_rfl) (by simp [Value.oneCell']) ?_
  rw [st8_set]
  generalize hX : st8 X1 bq (.bool y.s.s) (.int .i64 y.s.lo) (.int .i64 y.s.hi) (.bool y.c.s) (.int .i64 y.c.m) (.int .i64 y.c.r) (.bool nb) (.slice A3 (srt lb).length c3) = X
  have kp : X.heap[bp]? = some (.cells #[.bool x.s.s, .int .i64 x.s.lo, .int .i64 x.s.hi, .bool x.c.s, .int .i64 x.c.m, .int .i64 x.c.r, .bool na, .slice A1 (srt la).length c1] 55) := by rw [← hX]; exact (st8_far _ _ n45).trans K4.out
  have kq : X.heap[bq]? = some (.cells #[.bool y.s.s, .int .i64 y.s.lo, .int .i64 y.s.hi, .bool y.c.s, .int .i64 y.c.m, .int .i64 y.c.r, .bool nb, .slice A3 (srt lb).length c3] 55) := by rw [← hX]; exact st8_blk K5.out
  have HX : Below w6.heap.size w6 X := by rw [← hX]; exact st8_below HX1 w5
  have R1 : SRow X A1 (srt la) := Q1.out.far (fun a e hne p hp => by rw [← hX]; exact st8_cell _ _ (by rw [hp]; exact (HF1.out a e hne).2))
  have R3 : SRow X A3 (srt lb) := Q3.out.far (fun a e hne p hp => by rw [← hX]; exact st8_cell _ _ (by rw [hp]; exact (HF3.out a e hne).2))
  clear hX K4 K5 HF1 HF3 Q1 Q3 HX1
  refine hK.out _ _ ?_
  clear hK K
  simp only [Act.put]
  refine TailL.nil ?_
  have kr := (HX.block _ z2).trans k4
  have HBX := HBW.trans (HX.mono HBW.size)
  have hbX := HX.size
  clear q0_0 q0_1 q0_2 q0_3 q0_4 q0_5 q0_6 q0_7 q1_0 q1_1 q1_2 q1_3 q1_4 q1_5 q1_6 q1_7 q2_0 q2_1 q2_2 q2_3 q2_4 q2_5 q2_6 q2_7 HA HB HL HN hza hzb k4 z0 z1 HX HBW R3 HN3
  have p_0 := blk_cell kp 0
  have p_1 := blk_cell kp 1
  have p_2 := blk_cell kp 2
  have p_3 := blk_cell kp 3
  have p_4 := blk_cell kp 4
  have p_5 := blk_cell kp 5
  have p_6 := blk_cell kp 6
  have p_7 := blk_cell kp 7
  simp only [List.getElem?_toArray, List.getElem?_cons_zero, List.getElem?_cons_succ] at p_0 p_1 p_2 p_3 p_4 p_5 p_6 p_7
  have fp := blk_free kp
  have zp := blk_lt kp
  have q_0 := blk_cell kq 0
  have q_1 := blk_cell kq 1
  have q_2 := blk_cell kq 2
  have q_3 := blk_cell kq 3
  have q_4 := blk_cell kq 4
  have q_5 := blk_cell kq 5
  have q_6 := blk_cell kq 6
  have q_7 := blk_cell kq 7
  simp only [List.getElem?_toArray, List.getElem?_cons_zero, List.getElem?_cons_succ] at q_0 q_1 q_2 q_3 q_4 q_5 q_6 q_7
  have fq := blk_free kq
  have zq := blk_lt kq
  have zr := blk_lt kr
  have KP := Lib.hid kp; have KQ := Lib.hid kq; have KR := Lib.hid kr; have RX := Lib.hid R1; have HBH := Lib.hid HBX
  have zpX := zp; have zqX := zq; have zrX := zr
  go_upto_region 7 with fail
  have kc := al_new X (.cells #[.bool x.c.s, .int .i64 x.c.m, .int .i64 x.c.r] 25) rfl
  have HV : Below X.heap.size X (X.alloc (.cells #[.bool x.c.s, .int .i64 x.c.m, .int .i64 x.c.r] 25)) := (by repeat (first | (with_reducible assumption) | (with_reducible exact Below.refl _ _) | (with_reducible refine Below.alloc ?_ (by first | omega | (simp; omega) | (simp; done) | (dsimp only; omega)) _) | (with_reducible refine Below.setCell ?_ (by first | omega | (simp; omega) | (simp; done) | (dsimp only; omega)) _) | (with_reducible refine Below.drew ?_) | (with_reducible refine Below.trans ?_ (Below.mono (by assumption) (by first | omega | (simp; omega) | (simp; done) | (dsimp only; omega))))))
  generalize X.alloc (.cells #[.bool x.c.s, .int .i64 x.c.m, .int .i64 x.c.r] 25) = V at *
  have kpV := (HV.block _ zp).trans kp
  have kqV := (HV.block _ zq).trans kq
  have krV := (HV.block _ zr).trans kr
  have RV := R1.mono HV
  have HBV := HBX.trans (HV.mono HBX.size)
  clear p_0 p_1 p_2 p_3 p_4 p_5 p_6 p_7 q_0 q_1 q_2 q_3 q_4 q_5 q_6 q_7 fp fq kp kq kr R1 HBX
  have p_0 := blk_cell kpV 0
  have p_1 := blk_cell kpV 1
  have p_2 := blk_cell kpV 2
  have p_3 := blk_cell kpV 3
  have p_4 := blk_cell kpV 4
  have p_5 := blk_cell kpV 5
  have p_6 := blk_cell kpV 6
  have p_7 := blk_cell kpV 7
  simp only [List.getElem?_toArray, List.getElem?_cons_zero, List.getElem?_cons_succ] at p_0 p_1 p_2 p_3 p_4 p_5 p_6 p_7
  have fp := blk_free kpV
  have zp := blk_lt kpV
  have q_0 := blk_cell kqV 0
  have q_1 := blk_cell kqV 1
  have q_2 := blk_cell kqV 2
  have q_3 := blk_cell kqV 3
  have q_4 := blk_cell kqV 4
  have q_5 := blk_cell kqV 5
  have q_6 := blk_cell kqV 6
  have q_7 := blk_cell kqV 7
  simp only [List.getElem?_toArray, List.getElem?_cons_zero, List.getElem?_cons_succ] at q_0 q_1 q_2 q_3 q_4 q_5 q_6 q_7
  have fq := blk_free kqV
  have zq := blk_lt kqV
  have c_0 := blk_cell kc 0
  have c_1 := blk_cell kc 1
  have c_2 := blk_cell kc 2
  simp only [List.getElem?_toArray, List.getElem?_cons_zero, List.getElem?_cons_succ] at c_0 c_1 c_2
  have fc := blk_free kc
  have zc := blk_lt kc
  have zr1 := blk_lt krV
  go_wp2_with fail
  go_at_call 34
  refine (H1.out _).mono ?_
  rintro e w7 ⟨rfl, hb7⟩
  have kp7 := (hb7.block _ (blk_lt kpV)).trans kpV
  have kq7 := (hb7.block _ (blk_lt kqV)).trans kqV
  have kr7 := (hb7.block _ zr1).trans krV
  have kc7 := (hb7.block _ (blk_lt kc)).trans kc
  have HU := HV.trans (hb7.mono HV.size)
  have R7 := RV.mono hb7
  have HB7 := HBV.trans (hb7.mono HBV.size)
  clear p_0 p_1 p_2 p_3 p_4 p_5 p_6 p_7 q_0 q_1 q_2 q_3 q_4 q_5 q_6 q_7 fp fq c_0 c_1 c_2 fc zc kpV kqV krV kc hb7 HV RV HBV zr1
  have p_0 := blk_cell kp7 0
  have p_1 := blk_cell kp7 1
  have p_2 := blk_cell kp7 2
  have p_3 := blk_cell kp7 3
  have p_4 := blk_cell kp7 4
  have p_5 := blk_cell kp7 5
  have p_6 := blk_cell kp7 6
  have p_7 := blk_cell kp7 7
  simp only [List.getElem?_toArray, List.getElem?_cons_zero, List.getElem?_cons_succ] at p_0 p_1 p_2 p_3 p_4 p_5 p_6 p_7
  have fp := blk_free kp7
  have zp := blk_lt kp7
  have q_0 := blk_cell kq7 0
  have q_1 := blk_cell kq7 1
  have q_2 := blk_cell kq7 2
  have q_3 := blk_cell kq7 3
  have q_4 := blk_cell kq7 4
  have q_5 := blk_cell kq7 5
  have q_6 := blk_cell kq7 6
  have q_7 := blk_cell kq7 7
  simp only [List.getElem?_toArray, List.getElem?_cons_zero, List.getElem?_cons_succ] at q_0 q_1 q_2 q_3 q_4 q_5 q_6 q_7
  have fq := blk_free kq7
  have zq := blk_lt kq7
  have c_0 := blk_cell kc7 0
  have c_1 := blk_cell kc7 1
  have c_2 := blk_cell kc7 2
  simp only [List.getElem?_toArray, List.getElem?_cons_zero, List.getElem?_cons_succ] at c_0 c_1 c_2
  have fc := blk_free kc7
  have zc := blk_lt kc7
  go_upto_region 9 with fail
  have kcY := blk_set3 (v0 := .bool y.c.s) (v1 := .int .i64 y.c.m) (v2 := .int .i64 y.c.r) kc7
  have HY : Below X.heap.size X (((w7.setCell ⟨X.heap.size, 0, none⟩ (.bool y.c.s)).setCell ⟨X.heap.size, 1, none⟩ (.int .i64 y.c.m)).setCell ⟨X.heap.size, 2, none⟩ (.int .i64 y.c.r)) := (by repeat (first | (with_reducible assumption) | (with_reducible exact Below.refl _ _) | (with_reducible refine Below.alloc ?_ (by first | omega | (simp; omega) | (simp; done) | (dsimp only; omega)) _) | (with_reducible refine Below.setCell ?_ (by first | omega | (simp; omega) | (simp; done) | (dsimp only; omega)) _) | (with_reducible refine Below.drew ?_) | (with_reducible refine Below.trans ?_ (Below.mono (by assumption) (by first | omega | (simp; omega) | (simp; done) | (dsimp only; omega))))))
  generalize ((w7.setCell ⟨X.heap.size, 0, none⟩ (.bool y.c.s)).setCell ⟨X.heap.size, 1, none⟩ (.int .i64 y.c.m)).setCell ⟨X.heap.size, 2, none⟩ (.int .i64 y.c.r) = Y at *
  have kpY := (HY.block _ zpX).trans KP.out
  have kqY := (HY.block _ zqX).trans KQ.out
  have krY := (HY.block _ zrX).trans KR.out
  have RY := Lib.hid (RX.out.mono HY)
  have HBY := HBH.out.trans (HY.mono HBH.out.size)
  have hbY := HY.size
  clear p_0 p_1 p_2 p_3 p_4 p_5 p_6 p_7 q_0 q_1 q_2 q_3 q_4 q_5 q_6 q_7 fp fq zp zq c_0 c_1 c_2 fc zc kp7 kq7 kr7 kc7 HU R7 HB7 KP KQ KR RX HBH HY zpX zqX zrX
  have p_0 := blk_cell kpY 0
  have p_1 := blk_cell kpY 1
  have p_2 := blk_cell kpY 2
  have p_3 := blk_cell kpY 3
  have p_4 := blk_cell kpY 4
  have p_5 := blk_cell kpY 5
  have p_6 := blk_cell kpY 6
  have p_7 := blk_cell kpY 7
  simp only [List.getElem?_toArray, List.getElem?_cons_zero, List.getElem?_cons_succ] at p_0 p_1 p_2 p_3 p_4 p_5 p_6 p_7
  have fp := blk_free kpY
  have zp := blk_lt kpY
  have q_0 := blk_cell kqY 0
  have q_1 := blk_cell kqY 1
  have q_2 := blk_cell kqY 2
  simp only [List.getElem?_toArray, List.getElem?_cons_zero, List.getElem?_cons_succ] at q_0 q_1 q_2
  have fq := blk_free kqY
  have zq := blk_lt kqY
  have c_0 := blk_cell kcY 0
  have c_1 := blk_cell kcY 1
  have c_2 := blk_cell kcY 2
  simp only [List.getElem?_toArray, List.getElem?_cons_zero, List.getElem?_cons_succ] at c_0 c_1 c_2
  have fc := blk_free kcY
  have zc := blk_lt kcY
  have zr := blk_lt krY
  refine region_seqg (W := Y) [_, _, _, _, _, _, _, _, _, _, _, _, _] [_] rfl (by kernel_rfl) (by kernel_rfl) (by repeat (first | (with_reducible assumption) | (with_reducible exact Below.refl _ _) | (with_reducible refine Below.alloc ?_ (by first | omega | (simp; omega) | (simp; done) | (dsimp only; omega)) _) | (with_reducible refine Below.setCell ?_ (by first | omega | (simp; omega) | (simp; done) | (dsimp only; omega)) _) | (with_reducible refine Below.drew ?_) | (with_reducible refine Below.trans ?_ (Below.mono (by assumption) (by first | omega | (simp; omega) | (simp; done) | (dsimp only; omega)))))) (fun fin hfin => ?_)
  iterate 11
    first
      | (refine SeqG.yes (v := ?_) (A' := ?_) rfl (fun γ => by rfl) ?_ ?_ ?_
         rotate_left 2
         · intro γ w' K hS hK
           obtain ⟨hc, hf⟩ := bcell hS
           have hz := hS.size
           go_simp
           first
             | exact hK.out _ (Below.refl _ _)
             | (go_at_call 35; (with_reducible refine (H2.out w').mono ?_); rintro e w1 ⟨rfl, hb1⟩; exact hK.out _ hb1)
             | trace_state
         · intro γ; simp only [Act.put, List.setIfInBounds_toArray, List.set_cons_zero, List.set_cons_succ]; exact rfl)
      | (refine SeqG.no (A' := ?_) rfl (fun γ => by rfl) ?_ ?_
         rotate_left
         · intro γ; simp only [Act.put, List.setIfInBounds_toArray, List.set_cons_zero, List.set_cons_succ]; exact rfl)
  refine SeqG.make (k := 11) (A' := ?_) (fun g => .agg #[.bool u.s.s, .int .i64 u.s.lo, .int .i64 u.s.hi, .bool u.c.s, .int .i64 u.c.m, .int .i64 u.c.r, .bool na, .slice (gA g) (srt la).length (g 2)]) (RSetG (srt la)) rfl (fun γ => by rfl) (RSetG.stable _) ?_ ?_ ?_
  rotate_left
  · intro γ w' K hS hF hK
    obtain ⟨hc, hf⟩ := bcell hS
    have hz := hS.size
    go_simp
    (go_at_call 24; refine (H3.out A1 c1 w' HN1.out (RY.out.mono hS)).mono ?_; rintro e w1 ⟨⟨A1, c1, rfl, hmade⟩, hb1⟩; obtain ⟨g, rfl, rfl, hg⟩ := MadeV.ghost hmade (by omega) (lo := w'.heap.size); exact hK.out g w1 hb1 hg)
  · intro γ; simp only [Act.put, List.setIfInBounds_toArray, List.set_cons_zero, List.set_cons_succ]; exact rfl
  refine SeqG.hang (k := 12) (A' := ?_) (fun γ => .agg #[.bool u.s.s, .int .i64 u.s.lo, .int .i64 u.s.hi, .bool u.c.s, .int .i64 u.c.m, .int .i64 u.c.r, .bool na, .slice (gA (γ 11)) (srt la).length (γ 11 2)]) rfl (fun γ => by rfl) (fun i _ hn γ g => ?_) (fun γ g => ?_) ?_ ?_ ?_
  rotate_left
  · have hne11 : 11 ≠ i := fun e => hn (by rw [← e]; exact reachL_spec (of_decide_eq_true (by kernel_rfl)))
    (try dsimp only); rw [updG_ne γ g hne11]
  · (try dsimp only); rw [updG_ne γ g (show 11 ≠ 12 by decide)]
  · intro γ w' K hS _ hK
    obtain ⟨hc, hf⟩ := bcell hS
    have hz := hS.size
    go_simp
    (go_at_call 28; (with_reducible refine (H5.out _ _ w').mono ?_); rintro e w1 ⟨rfl, hb1⟩; exact hK.out _ hb1)
  · intro γ; simp only [Act.put, List.setIfInBounds_toArray, List.set_cons_zero, List.set_cons_succ]; exact rfl
  refine SeqG.nil (hfin.out _ _ ?_)
  clear hfin fin
  intro γ lo hi w1 hB1 hF hD
  replace hF := listF1 hF
  dsimp only at hF
  clear hD
  obtain ⟨y8, l8, o8, hR⟩ := hF
  have hM := RSetG.made hR
  replace hM := hM.base (show w.heap.size + 3 ≤ lo 11 by omega)
  have kr1 := (hB1.block _ zr).trans krY
  have HB := HBY.trans (hB1.mono HBY.size)
  generalize gA (γ 11) = A7 at *
  generalize γ 11 2 = c7 at *
  clear hR hB1 p_0 p_1 p_2 p_3 p_4 p_5 p_6 p_7 q_0 q_1 q_2 c_0 c_1 c_2 fp fq fc zp zq zc kpY kqY kcY krY zr HBY hbY y8 l8 o8
  have r_0 := blk_cell kr1 0
  have r_1 := blk_cell kr1 1
  have r_2 := blk_cell kr1 2
  have r_3 := blk_cell kr1 3
  have r_4 := blk_cell kr1 4
  have r_5 := blk_cell kr1 5
  have r_6 := blk_cell kr1 6
  have r_7 := blk_cell kr1 7
  simp only [List.getElem?_toArray, List.getElem?_cons_zero, List.getElem?_cons_succ] at r_0 r_1 r_2 r_3 r_4 r_5 r_6 r_7
  have fr := blk_free kr1
  have zr := blk_lt kr1
  refine TailL.cons (fun K hK => ?_)
  go_simp
  refine hK.out _ _ ?_
  clear hK K
  refine TailL.nil ?_
  go_wp2
  refine bodyPost_ret (by simp [results, Tryz.results8, go_sem, *] <;> rfl) rfl ⟨⟨A7, c7, rfl, (by (refine MadeV.base (b := w.heap.size + 3) ?_ (by omega)); (repeat refine MadeV.setCell ?_ (by first | omega | (simp; omega)) _); first | exact hM | exact hM.base (by omega))⟩, (by repeat (first | (with_reducible assumption) | (with_reducible exact Below.refl _ _) | (with_reducible refine Below.alloc ?_ (by first | omega | (simp; omega) | (simp; done) | (dsimp only; omega)) _) | (with_reducible refine Below.setCell ?_ (by first | omega | (simp; omega) | (simp; done) | (dsimp only; omega)) _) | (with_reducible refine Below.drew ?_) | (with_reducible refine Below.trans ?_ (Below.mono (by assumption) (by first | omega | (simp; omega) | (simp; done) | (dsimp only; omega))))))⟩
end Go.Proofs.YtdpnphnafidpiaaGreat
