/- X-PARTIAL What sondageref08.Reduce, HasInt, Exact return: layer 8. -/
import Derived.Test.YtdpnphnafidpiaaValS
namespace Go.Proofs.Ytdpnphnafidpiaa
open Go.RowKit

set_option maxRecDepth 100000 in
set_option maxHeartbeats 4000000 in
theorem r8_HasInt (i : In) (hi : i.c.ok) (n : Bool) (l : List Str) (A : Option Addr) (c : Nat) (k : Int) (w : World) :
    Calls Try.prog 10 #[.agg #[.bool i.s.s, .int .i64 i.s.lo, .int .i64 i.s.hi, .bool i.c.s, .int .i64 i.c.m, .int .i64 i.c.r, .bool n, .slice A l.length c], .int .i64 k] w fun e w' => e = .returned (.bool (i.has k)) ∧ Below w.heap.size w w' := by
  have h1 := r3_has i.s k
  have H2 := Lib.hid (r5_has i.c k hi)
  unfold In.has
  cases h : i.s.has k
  all_goals
    rw [h] at h1
    have H1 := Lib.hid h1
    clear h1 h
    generalize i.c.has k = b at *
    go_enter Try.func10, Try.ntmps10
    go_wp2_with (first | (go_at_call 28; (with_reducible refine (H1.out _).mono ?_); rintro e w1 ⟨rfl, hb1⟩; obtain ⟨hc1, hf1⟩ := bcell hb1; have hz1 := hb1.size; (try simp at hz1); (try have hy1 := Nat.lt_of_succ_le hz1); (try have hv1 := Nat.lt_of_succ_lt hy1); (try have hw10 : w.heap.size < w1.heap.size := by omega); (try have hw11 : w.heap.size + 1 < w1.heap.size := by omega); (try have hw12 : w.heap.size + 1 + 1 < w1.heap.size := by omega); (try have hw13 : w.heap.size + 1 + 1 + 1 < w1.heap.size := by omega)) | (go_at_call 36; (with_reducible refine (H2.out _).mono ?_); rintro e w2 ⟨rfl, hb2⟩; obtain ⟨hc2, hf2⟩ := bcell hb2; have hz2 := hb2.size; (try simp at hz2); (try have hy2 := Nat.lt_of_succ_le hz2); (try have hv2 := Nat.lt_of_succ_lt hy2); (try have hw20 : w.heap.size < w2.heap.size := by omega); (try have hw21 : w.heap.size + 1 < w2.heap.size := by omega); (try have hw22 : w.heap.size + 1 + 1 < w2.heap.size := by omega); (try have hw23 : w.heap.size + 1 + 1 + 1 < w2.heap.size := by omega)))
    go_ret
    exact ⟨rfl, (by repeat (first | (with_reducible assumption) | (with_reducible exact Below.refl _ _) | (with_reducible refine Below.alloc ?_ (by first | omega | (simp; omega) | (simp; done) | (dsimp only; omega)) _) | (with_reducible refine Below.setCell ?_ (by first | omega | (simp; omega) | (simp; done) | (dsimp only; omega)) _) | (with_reducible refine Below.drew ?_) | (with_reducible refine Below.trans ?_ (Below.mono (by assumption) (by first | omega | (simp; omega) | (simp; done) | (dsimp only; omega))))))⟩

set_option maxRecDepth 100000 in
set_option maxHeartbeats 4000000 in
/-- Two values that hold the same. -/
theorem r8_Exact (i : In) (n : Bool) (l : List Str) (A B : Option Addr) (ca cb : Nat) (w : World) (hm : l.length ≤ 9223372036854775807) (hra : SRow w A l) (hrb : SRow w B l) :
    Calls Try.prog 7 #[.agg #[.bool i.s.s, .int .i64 i.s.lo, .int .i64 i.s.hi, .bool i.c.s, .int .i64 i.c.m, .int .i64 i.c.r, .bool n, .slice A l.length ca], .agg #[.bool i.s.s, .int .i64 i.s.lo, .int .i64 i.s.hi, .bool i.c.s, .int .i64 i.c.m, .int .i64 i.c.r, .bool n, .slice B l.length cb]] w fun e w' => e = .returned (.bool true) ∧ Below w.heap.size w w' := by
  have H1 : Hid (∀ w', Below w.heap.size w w' → _) := Lib.hid (fun w' h => exact_refl n l A B ca cb w' hm (hra.mono h) (hrb.mono h))
  clear hra hrb
  go_enter Try.func7, Try.ntmps7
  go_wp2_with fail
  go_at_call 26
  refine (H1.out _ (by repeat (first | (with_reducible assumption) | (with_reducible exact Below.refl _ _) | (with_reducible refine Below.alloc ?_ (by first | omega | (simp; omega) | (simp; done) | (dsimp only; omega)) _) | (with_reducible refine Below.setCell ?_ (by first | omega | (simp; omega) | (simp; done) | (dsimp only; omega)) _) | (with_reducible refine Below.drew ?_) | (with_reducible refine Below.trans ?_ (Below.mono (by assumption) (by first | omega | (simp; omega) | (simp; done) | (dsimp only; omega))))))).mono ?_
  rintro e w2 ⟨rfl, hb2⟩
  go_wp2
  go_ret
  exact ⟨rfl, (by repeat (first | (with_reducible assumption) | (with_reducible exact Below.refl _ _) | (with_reducible refine Below.alloc ?_ (by first | omega | (simp; omega) | (simp; done) | (dsimp only; omega)) _) | (with_reducible refine Below.setCell ?_ (by first | omega | (simp; omega) | (simp; done) | (dsimp only; omega)) _) | (with_reducible refine Below.drew ?_) | (with_reducible refine Below.trans ?_ (Below.mono (by assumption) (by first | omega | (simp; omega) | (simp; done) | (dsimp only; omega))))))⟩

set_option maxRecDepth 100000 in
set_option maxHeartbeats 8000000 in
theorem r8_Reduce_1 (x : In) (i : In) (n : Bool) (l : List Str) (A : Option Addr) (c : Nat) (w : World)
    (HC : Hid (∀ w', Below w.heap.size w w' → Calls Try.prog 27 #[.agg #[.bool i.s.s, .int .i64 i.s.lo, .int .i64 i.s.hi, .bool i.c.s, .int .i64 i.c.m, .int .i64 i.c.r, .bool n, .slice A l.length c]] w' fun e w'' => (∃ A' c', e = .returned (.agg #[.bool x.s.s, .int .i64 x.s.lo, .int .i64 x.s.hi, .bool x.c.s, .int .i64 x.c.m, .int .i64 x.c.r, .bool n, .slice A' (srt l).length c']) ∧ MadeV w'.heap.size w'' A' c' (srt l)) ∧ Below w'.heap.size w' w''))
    (e0 : x = In.zero) (e : x.redC = In.zero) :
    Calls Try.prog 8 #[.agg #[.bool i.s.s, .int .i64 i.s.lo, .int .i64 i.s.hi, .bool i.c.s, .int .i64 i.c.m, .int .i64 i.c.r, .bool n, .slice A l.length c]] w fun e w' => (∃ A' c', e = .returned (.agg #[.bool (x.redC).s.s, .int .i64 (x.redC).s.lo, .int .i64 (x.redC).s.hi, .bool (x.redC).c.s, .int .i64 (x.redC).c.m, .int .i64 (x.redC).c.r, .bool n, .slice A' (srt l).length c']) ∧ MadeV w.heap.size w' A' c' (srt l)) ∧ Below w.heap.size w w' := by
  rw [e, show In.zero = ⟨⟨false, 0, 0⟩, ⟨false, 0, 0⟩⟩ from rfl]
  rw [e0, show In.zero = ⟨⟨false, 0, 0⟩, ⟨false, 0, 0⟩⟩ from rfl] at HC
  dsimp only at HC ⊢
  clear e e0
  go_enter Try.func8, Try.ntmps8
  go_upto_region 1 with fail
  generalize hW : ((w.alloc (.cells #[.bool i.s.s, .int .i64 i.s.lo, .int .i64 i.s.hi, .bool i.c.s, .int .i64 i.c.m, .int .i64 i.c.r, .bool n, .slice A l.length c] 30)).alloc (.cells #[.bool false, .int .i64 0, .int .i64 0, .bool false, .int .i64 0, .int .i64 0, .bool false, .slice none 0 0] 30)) = W
  have q0_0 : W.cell? ⟨w.heap.size, 0, none⟩ = some (.bool i.s.s) := by rw [← hW]; simp [go_sem]
  have q0_1 : W.cell? ⟨w.heap.size, 1, none⟩ = some (.int .i64 i.s.lo) := by rw [← hW]; simp [go_sem]
  have q0_2 : W.cell? ⟨w.heap.size, 2, none⟩ = some (.int .i64 i.s.hi) := by rw [← hW]; simp [go_sem]
  have q0_3 : W.cell? ⟨w.heap.size, 3, none⟩ = some (.bool i.c.s) := by rw [← hW]; simp [go_sem]
  have q0_4 : W.cell? ⟨w.heap.size, 4, none⟩ = some (.int .i64 i.c.m) := by rw [← hW]; simp [go_sem]
  have q0_5 : W.cell? ⟨w.heap.size, 5, none⟩ = some (.int .i64 i.c.r) := by rw [← hW]; simp [go_sem]
  have q0_6 : W.cell? ⟨w.heap.size, 6, none⟩ = some (.bool n) := by rw [← hW]; simp [go_sem]
  have q0_7 : W.cell? ⟨w.heap.size, 7, none⟩ = some (.slice A l.length c) := by rw [← hW]; simp [go_sem]
  have q1_0 : W.cell? ⟨w.heap.size + 1, 0, none⟩ = some (.bool false) := by rw [← hW]; simp [go_sem]
  have q1_1 : W.cell? ⟨w.heap.size + 1, 1, none⟩ = some (.int .i64 0) := by rw [← hW]; simp [go_sem]
  have q1_2 : W.cell? ⟨w.heap.size + 1, 2, none⟩ = some (.int .i64 0) := by rw [← hW]; simp [go_sem]
  have q1_3 : W.cell? ⟨w.heap.size + 1, 3, none⟩ = some (.bool false) := by rw [← hW]; simp [go_sem]
  have q1_4 : W.cell? ⟨w.heap.size + 1, 4, none⟩ = some (.int .i64 0) := by rw [← hW]; simp [go_sem]
  have q1_5 : W.cell? ⟨w.heap.size + 1, 5, none⟩ = some (.int .i64 0) := by rw [← hW]; simp [go_sem]
  have q1_6 : W.cell? ⟨w.heap.size + 1, 6, none⟩ = some (.bool false) := by rw [← hW]; simp [go_sem]
  have q1_7 : W.cell? ⟨w.heap.size + 1, 7, none⟩ = some (.slice none 0 0) := by rw [← hW]; simp [go_sem]
  have f0 : ∀ o, W.frozen? ⟨w.heap.size, o, none⟩ = false := by intro o; rw [← hW]; simp [go_sem]
  have f1 : ∀ o, W.frozen? ⟨w.heap.size + 1, o, none⟩ = false := by intro o; rw [← hW]; simp [go_sem]
  have k0 : W.heap[w.heap.size]? = some (.cells #[.bool i.s.s, .int .i64 i.s.lo, .int .i64 i.s.hi, .bool i.c.s, .int .i64 i.c.m, .int .i64 i.c.r, .bool n, .slice A l.length c] 30 (0, 0)) := by rw [← hW]; rw [al_old _ _ (by (repeat rw [al_size]); omega)]; exact al_new _ _ (by (repeat rw [al_size]) <;> rfl)
  have k1 : W.heap[w.heap.size + 1]? = some (.cells #[.bool false, .int .i64 0, .int .i64 0, .bool false, .int .i64 0, .int .i64 0, .bool false, .slice none 0 0] 30 (0, 0)) := by rw [← hW]; exact al_new _ _ (by (repeat rw [al_size]) <;> rfl)
  have z0 : w.heap.size < W.heap.size := by rw [← hW]; first | (simp; done) | (simp; omega)
  have z1 : w.heap.size + 1 < W.heap.size := by rw [← hW]; first | (simp; done) | (simp; omega)
  have HW : Below w.heap.size w W := by rw [← hW]; exact (by repeat (first | (with_reducible assumption) | (with_reducible exact Below.refl _ _) | (with_reducible refine Below.alloc ?_ (by first | omega | (simp; omega) | (simp; done) | (dsimp only; omega)) _) | (with_reducible refine Below.setCell ?_ (by first | omega | (simp; omega) | (simp; done) | (dsimp only; omega)) _) | (with_reducible refine Below.drew ?_) | (with_reducible refine Below.trans ?_ (Below.mono (by assumption) (by first | omega | (simp; omega) | (simp; done) | (dsimp only; omega))))))
  clear hW
  go_wp2_with fail
  go_at_call 27
  refine (HC.out _ HW).mono ?_
  rintro e w2 ⟨⟨A2, c2, rfl, hM⟩, hb2⟩
  have hzW : w.heap.size + 2 ≤ W.heap.size := by omega
  replace k0 := (hb2.block _ z0).trans k0
  replace k1 := (hb2.block _ z1).trans k1
  replace f0 := fun o => (hb2.frozen (p := ⟨w.heap.size, o, none⟩) z0).trans (f0 o)
  replace q0_0 := (hb2.cell (p := ⟨w.heap.size, 0, none⟩) z0).trans q0_0
  replace q0_1 := (hb2.cell (p := ⟨w.heap.size, 1, none⟩) z0).trans q0_1
  replace q0_2 := (hb2.cell (p := ⟨w.heap.size, 2, none⟩) z0).trans q0_2
  replace q0_3 := (hb2.cell (p := ⟨w.heap.size, 3, none⟩) z0).trans q0_3
  replace q0_4 := (hb2.cell (p := ⟨w.heap.size, 4, none⟩) z0).trans q0_4
  replace q0_5 := (hb2.cell (p := ⟨w.heap.size, 5, none⟩) z0).trans q0_5
  replace q0_6 := (hb2.cell (p := ⟨w.heap.size, 6, none⟩) z0).trans q0_6
  replace q0_7 := (hb2.cell (p := ⟨w.heap.size, 7, none⟩) z0).trans q0_7
  replace q1_0 := (hb2.cell (p := ⟨w.heap.size + 1, 0, none⟩) z1).trans q1_0
  replace q1_1 := (hb2.cell (p := ⟨w.heap.size + 1, 1, none⟩) z1).trans q1_1
  replace q1_2 := (hb2.cell (p := ⟨w.heap.size + 1, 2, none⟩) z1).trans q1_2
  replace q1_3 := (hb2.cell (p := ⟨w.heap.size + 1, 3, none⟩) z1).trans q1_3
  replace q1_4 := (hb2.cell (p := ⟨w.heap.size + 1, 4, none⟩) z1).trans q1_4
  replace q1_5 := (hb2.cell (p := ⟨w.heap.size + 1, 5, none⟩) z1).trans q1_5
  replace q1_6 := (hb2.cell (p := ⟨w.heap.size + 1, 6, none⟩) z1).trans q1_6
  replace q1_7 := (hb2.cell (p := ⟨w.heap.size + 1, 7, none⟩) z1).trans q1_7
  replace z0 := Nat.lt_of_lt_of_le z0 hb2.size
  replace z1 := Nat.lt_of_lt_of_le z1 hb2.size
  have HW2 := HW.trans (hb2.mono HW.size)
  have K0 := Lib.hid k0; have K1 := Lib.hid k1
  clear k0 k1 f1 hb2
  go_upto_region 2 with fail
  simp only [st8_fold]
  generalize hY : st8 w2 w.heap.size (.bool false) (.int .i64 0) (.int .i64 0) (.bool false) (.int .i64 0) (.int .i64 0) (.bool n) (.slice A2 (srt l).length c2) = Y
  have kv : Y.heap[w.heap.size]? = some (.cells #[.bool false, .int .i64 0, .int .i64 0, .bool false, .int .i64 0, .int .i64 0, .bool n, .slice A2 (srt l).length c2] 30) := by rw [← hY]; exact st8_blk K0.out
  have kr : Y.heap[w.heap.size + 1]? = some (.cells #[.bool false, .int .i64 0, .int .i64 0, .bool false, .int .i64 0, .int .i64 0, .bool false, .slice none 0 0] 30) := by rw [← hY]; exact (st8_far _ _ (by omega)).trans K1.out
  have HY : Below w.heap.size w Y := by rw [← hY]; exact st8_below HW2 (Nat.le_refl _)
  have hM1 : MadeV (w.heap.size + 2) Y A2 c2 (srt l) := by
    rw [← hY]; unfold st8
    iterate 8 refine MadeV.setCell ?_ (by omega) _
    exact hM.base hzW
  clear hY hM K0 K1 HW2 f0 q0_0 q0_1 q0_2 q0_3 q0_4 q0_5 q0_6 q0_7 q1_0 q1_1 q1_2 q1_3 q1_4 q1_5 q1_6 q1_7 z0 z1 HW hzW
  have v_0 := blk_cell kv 0
  have v_1 := blk_cell kv 1
  have v_2 := blk_cell kv 2
  have v_3 := blk_cell kv 3
  have v_4 := blk_cell kv 4
  have v_5 := blk_cell kv 5
  have v_6 := blk_cell kv 6
  have v_7 := blk_cell kv 7
  simp only [List.getElem?_toArray, List.getElem?_cons_zero, List.getElem?_cons_succ] at v_0 v_1 v_2 v_3 v_4 v_5 v_6 v_7
  have fv := blk_free kv
  have zv := blk_lt kv
  have zr := blk_lt kr
  go_upto_region 3 with fail
  have kn := al_new Y (.cells #[.bool false, .int .i64 0, .int .i64 0, .bool false, .int .i64 0, .int .i64 0, .bool n, .slice A2 (srt l).length c2] 30) rfl
  have HV : Below Y.heap.size Y (Y.alloc (.cells #[.bool false, .int .i64 0, .int .i64 0, .bool false, .int .i64 0, .int .i64 0, .bool n, .slice A2 (srt l).length c2] 30)) := (by repeat (first | (with_reducible assumption) | (with_reducible exact Below.refl _ _) | (with_reducible refine Below.alloc ?_ (by first | omega | (simp; omega) | (simp; done) | (dsimp only; omega)) _) | (with_reducible refine Below.setCell ?_ (by first | omega | (simp; omega) | (simp; done) | (dsimp only; omega)) _) | (with_reducible refine Below.drew ?_) | (with_reducible refine Below.trans ?_ (Below.mono (by assumption) (by first | omega | (simp; omega) | (simp; done) | (dsimp only; omega))))))
  generalize Y.alloc (.cells #[.bool false, .int .i64 0, .int .i64 0, .bool false, .int .i64 0, .int .i64 0, .bool n, .slice A2 (srt l).length c2] 30) = V at *
  replace kv := (HV.block _ zv).trans kv
  replace kr := (HV.block _ zr).trans kr
  have hM2 := hM1.mono HV
  have HB := HY.trans (HV.mono HY.size)
  clear v_0 v_1 v_2 v_3 v_4 v_5 v_6 v_7 fv zv zr hM1 HV HY
  have v_0 := blk_cell kv 0
  have v_1 := blk_cell kv 1
  have v_2 := blk_cell kv 2
  have v_3 := blk_cell kv 3
  have v_4 := blk_cell kv 4
  have v_5 := blk_cell kv 5
  have v_6 := blk_cell kv 6
  have v_7 := blk_cell kv 7
  simp only [List.getElem?_toArray, List.getElem?_cons_zero, List.getElem?_cons_succ] at v_0 v_1 v_2 v_3 v_4 v_5 v_6 v_7
  have fv := blk_free kv
  have zv := blk_lt kv
  have r_0 := blk_cell kr 0
  have r_1 := blk_cell kr 1
  have r_2 := blk_cell kr 2
  have r_3 := blk_cell kr 3
  have r_4 := blk_cell kr 4
  have r_5 := blk_cell kr 5
  have r_6 := blk_cell kr 6
  have r_7 := blk_cell kr 7
  simp only [List.getElem?_toArray, List.getElem?_cons_zero, List.getElem?_cons_succ] at r_0 r_1 r_2 r_3 r_4 r_5 r_6 r_7
  have fr := blk_free kr
  have zr := blk_lt kr
  have m_0 := blk_cell kn 0
  have m_1 := blk_cell kn 1
  have m_2 := blk_cell kn 2
  have m_3 := blk_cell kn 3
  have m_4 := blk_cell kn 4
  have m_5 := blk_cell kn 5
  have m_6 := blk_cell kn 6
  have m_7 := blk_cell kn 7
  simp only [List.getElem?_toArray, List.getElem?_cons_zero, List.getElem?_cons_succ] at m_0 m_1 m_2 m_3 m_4 m_5 m_6 m_7
  have fm := blk_free kn
  have zm := blk_lt kn
  go_wp2
  refine bodyPost_ret (by simp [results, Try.results8, go_sem, *] <;> rfl) rfl ⟨⟨A2, c2, rfl, (by (refine MadeV.base (b := w.heap.size + 2) ?_ (by omega)); (repeat refine MadeV.setCell ?_ (by first | omega | (simp; omega)) _); first | exact hM2 | exact hM2.base (by omega))⟩, (by repeat (first | (with_reducible assumption) | (with_reducible exact Below.refl _ _) | (with_reducible refine Below.alloc ?_ (by first | omega | (simp; omega) | (simp; done) | (dsimp only; omega)) _) | (with_reducible refine Below.setCell ?_ (by first | omega | (simp; omega) | (simp; done) | (dsimp only; omega)) _) | (with_reducible refine Below.drew ?_) | (with_reducible refine Below.trans ?_ (Below.mono (by assumption) (by first | omega | (simp; omega) | (simp; done) | (dsimp only; omega))))))⟩

set_option maxRecDepth 100000 in
set_option maxHeartbeats 8000000 in
theorem r8_Reduce_2 (x : In) (i : In) (n : Bool) (l : List Str) (A : Option Addr) (c : Nat) (w : World)
    (HC : Hid (∀ w', Below w.heap.size w w' → Calls Try.prog 27 #[.agg #[.bool i.s.s, .int .i64 i.s.lo, .int .i64 i.s.hi, .bool i.c.s, .int .i64 i.c.m, .int .i64 i.c.r, .bool n, .slice A l.length c]] w' fun e w'' => (∃ A' c', e = .returned (.agg #[.bool x.s.s, .int .i64 x.s.lo, .int .i64 x.s.hi, .bool x.c.s, .int .i64 x.c.m, .int .i64 x.c.r, .bool n, .slice A' (srt l).length c']) ∧ MadeV w'.heap.size w'' A' c' (srt l)) ∧ Below w'.heap.size w' w''))
    (h1 : x.s.none = false) (h2 : x.c.s = true) (h3 : x.c.m = 0) (h4 : x.s.has x.c.r = true) (e : x.redC = ⟨⟨true, x.c.r, x.c.r⟩, ⟨true, 0, x.c.r⟩⟩) :
    Calls Try.prog 8 #[.agg #[.bool i.s.s, .int .i64 i.s.lo, .int .i64 i.s.hi, .bool i.c.s, .int .i64 i.c.m, .int .i64 i.c.r, .bool n, .slice A l.length c]] w fun e w' => (∃ A' c', e = .returned (.agg #[.bool (x.redC).s.s, .int .i64 (x.redC).s.lo, .int .i64 (x.redC).s.hi, .bool (x.redC).c.s, .int .i64 (x.redC).c.m, .int .i64 (x.redC).c.r, .bool n, .slice A' (srt l).length c']) ∧ MadeV w.heap.size w' A' c' (srt l)) ∧ Below w.heap.size w w' := by
  rw [e]
  dsimp only
  obtain ⟨⟨ss, slo, shi⟩, ⟨cs, cm, cr⟩⟩ := x
  dsimp only at *
  obtain rfl : ss = true := ((Sp.none_iff _).1 h1).1
  subst h2
  subst h3
  have h3 := r3_has ⟨true, slo, shi⟩ cr
  rw [h4] at h3
  dsimp only at h3
  have H3 := Lib.hid h3
  have hmk := r3_make cr cr
  rw [Sp.of_f (by omega)] at hmk
  dsimp only at hmk
  have HM := Lib.hid hmk
  clear h1 h3 h4 e hmk
  go_enter Try.func8, Try.ntmps8
  go_upto_region 1 with fail
  generalize hW : ((w.alloc (.cells #[.bool i.s.s, .int .i64 i.s.lo, .int .i64 i.s.hi, .bool i.c.s, .int .i64 i.c.m, .int .i64 i.c.r, .bool n, .slice A l.length c] 30)).alloc (.cells #[.bool false, .int .i64 0, .int .i64 0, .bool false, .int .i64 0, .int .i64 0, .bool false, .slice none 0 0] 30)) = W
  have q0_0 : W.cell? ⟨w.heap.size, 0, none⟩ = some (.bool i.s.s) := by rw [← hW]; simp [go_sem]
  have q0_1 : W.cell? ⟨w.heap.size, 1, none⟩ = some (.int .i64 i.s.lo) := by rw [← hW]; simp [go_sem]
  have q0_2 : W.cell? ⟨w.heap.size, 2, none⟩ = some (.int .i64 i.s.hi) := by rw [← hW]; simp [go_sem]
  have q0_3 : W.cell? ⟨w.heap.size, 3, none⟩ = some (.bool i.c.s) := by rw [← hW]; simp [go_sem]
  have q0_4 : W.cell? ⟨w.heap.size, 4, none⟩ = some (.int .i64 i.c.m) := by rw [← hW]; simp [go_sem]
  have q0_5 : W.cell? ⟨w.heap.size, 5, none⟩ = some (.int .i64 i.c.r) := by rw [← hW]; simp [go_sem]
  have q0_6 : W.cell? ⟨w.heap.size, 6, none⟩ = some (.bool n) := by rw [← hW]; simp [go_sem]
  have q0_7 : W.cell? ⟨w.heap.size, 7, none⟩ = some (.slice A l.length c) := by rw [← hW]; simp [go_sem]
  have q1_0 : W.cell? ⟨w.heap.size + 1, 0, none⟩ = some (.bool false) := by rw [← hW]; simp [go_sem]
  have q1_1 : W.cell? ⟨w.heap.size + 1, 1, none⟩ = some (.int .i64 0) := by rw [← hW]; simp [go_sem]
  have q1_2 : W.cell? ⟨w.heap.size + 1, 2, none⟩ = some (.int .i64 0) := by rw [← hW]; simp [go_sem]
  have q1_3 : W.cell? ⟨w.heap.size + 1, 3, none⟩ = some (.bool false) := by rw [← hW]; simp [go_sem]
  have q1_4 : W.cell? ⟨w.heap.size + 1, 4, none⟩ = some (.int .i64 0) := by rw [← hW]; simp [go_sem]
  have q1_5 : W.cell? ⟨w.heap.size + 1, 5, none⟩ = some (.int .i64 0) := by rw [← hW]; simp [go_sem]
  have q1_6 : W.cell? ⟨w.heap.size + 1, 6, none⟩ = some (.bool false) := by rw [← hW]; simp [go_sem]
  have q1_7 : W.cell? ⟨w.heap.size + 1, 7, none⟩ = some (.slice none 0 0) := by rw [← hW]; simp [go_sem]
  have f0 : ∀ o, W.frozen? ⟨w.heap.size, o, none⟩ = false := by intro o; rw [← hW]; simp [go_sem]
  have f1 : ∀ o, W.frozen? ⟨w.heap.size + 1, o, none⟩ = false := by intro o; rw [← hW]; simp [go_sem]
  have k0 : W.heap[w.heap.size]? = some (.cells #[.bool i.s.s, .int .i64 i.s.lo, .int .i64 i.s.hi, .bool i.c.s, .int .i64 i.c.m, .int .i64 i.c.r, .bool n, .slice A l.length c] 30 (0, 0)) := by rw [← hW]; rw [al_old _ _ (by (repeat rw [al_size]); omega)]; exact al_new _ _ (by (repeat rw [al_size]) <;> rfl)
  have k1 : W.heap[w.heap.size + 1]? = some (.cells #[.bool false, .int .i64 0, .int .i64 0, .bool false, .int .i64 0, .int .i64 0, .bool false, .slice none 0 0] 30 (0, 0)) := by rw [← hW]; exact al_new _ _ (by (repeat rw [al_size]) <;> rfl)
  have z0 : w.heap.size < W.heap.size := by rw [← hW]; first | (simp; done) | (simp; omega)
  have z1 : w.heap.size + 1 < W.heap.size := by rw [← hW]; first | (simp; done) | (simp; omega)
  have HW : Below w.heap.size w W := by rw [← hW]; exact (by repeat (first | (with_reducible assumption) | (with_reducible exact Below.refl _ _) | (with_reducible refine Below.alloc ?_ (by first | omega | (simp; omega) | (simp; done) | (dsimp only; omega)) _) | (with_reducible refine Below.setCell ?_ (by first | omega | (simp; omega) | (simp; done) | (dsimp only; omega)) _) | (with_reducible refine Below.drew ?_) | (with_reducible refine Below.trans ?_ (Below.mono (by assumption) (by first | omega | (simp; omega) | (simp; done) | (dsimp only; omega))))))
  clear hW
  go_wp2_with fail
  go_at_call 27
  refine (HC.out _ HW).mono ?_
  rintro e w2 ⟨⟨A2, c2, rfl, hM⟩, hb2⟩
  have hzW : w.heap.size + 2 ≤ W.heap.size := by omega
  replace k0 := (hb2.block _ z0).trans k0
  replace k1 := (hb2.block _ z1).trans k1
  replace f0 := fun o => (hb2.frozen (p := ⟨w.heap.size, o, none⟩) z0).trans (f0 o)
  replace q0_0 := (hb2.cell (p := ⟨w.heap.size, 0, none⟩) z0).trans q0_0
  replace q0_1 := (hb2.cell (p := ⟨w.heap.size, 1, none⟩) z0).trans q0_1
  replace q0_2 := (hb2.cell (p := ⟨w.heap.size, 2, none⟩) z0).trans q0_2
  replace q0_3 := (hb2.cell (p := ⟨w.heap.size, 3, none⟩) z0).trans q0_3
  replace q0_4 := (hb2.cell (p := ⟨w.heap.size, 4, none⟩) z0).trans q0_4
  replace q0_5 := (hb2.cell (p := ⟨w.heap.size, 5, none⟩) z0).trans q0_5
  replace q0_6 := (hb2.cell (p := ⟨w.heap.size, 6, none⟩) z0).trans q0_6
  replace q0_7 := (hb2.cell (p := ⟨w.heap.size, 7, none⟩) z0).trans q0_7
  replace q1_0 := (hb2.cell (p := ⟨w.heap.size + 1, 0, none⟩) z1).trans q1_0
  replace q1_1 := (hb2.cell (p := ⟨w.heap.size + 1, 1, none⟩) z1).trans q1_1
  replace q1_2 := (hb2.cell (p := ⟨w.heap.size + 1, 2, none⟩) z1).trans q1_2
  replace q1_3 := (hb2.cell (p := ⟨w.heap.size + 1, 3, none⟩) z1).trans q1_3
  replace q1_4 := (hb2.cell (p := ⟨w.heap.size + 1, 4, none⟩) z1).trans q1_4
  replace q1_5 := (hb2.cell (p := ⟨w.heap.size + 1, 5, none⟩) z1).trans q1_5
  replace q1_6 := (hb2.cell (p := ⟨w.heap.size + 1, 6, none⟩) z1).trans q1_6
  replace q1_7 := (hb2.cell (p := ⟨w.heap.size + 1, 7, none⟩) z1).trans q1_7
  replace z0 := Nat.lt_of_lt_of_le z0 hb2.size
  replace z1 := Nat.lt_of_lt_of_le z1 hb2.size
  have HW2 := HW.trans (hb2.mono HW.size)
  have K0 := Lib.hid k0; have K1 := Lib.hid k1
  clear k0 k1 f1 hb2
  go_upto_region 2 with fail
  simp only [st8_fold]
  generalize hY : st8 w2 w.heap.size (.bool true) (.int .i64 slo) (.int .i64 shi) (.bool true) (.int .i64 0) (.int .i64 cr) (.bool n) (.slice A2 (srt l).length c2) = Y
  have kv : Y.heap[w.heap.size]? = some (.cells #[.bool true, .int .i64 slo, .int .i64 shi, .bool true, .int .i64 0, .int .i64 cr, .bool n, .slice A2 (srt l).length c2] 30) := by rw [← hY]; exact st8_blk K0.out
  have kr : Y.heap[w.heap.size + 1]? = some (.cells #[.bool false, .int .i64 0, .int .i64 0, .bool false, .int .i64 0, .int .i64 0, .bool false, .slice none 0 0] 30) := by rw [← hY]; exact (st8_far _ _ (by omega)).trans K1.out
  have HY : Below w.heap.size w Y := by rw [← hY]; exact st8_below HW2 (Nat.le_refl _)
  have hM1 : MadeV (w.heap.size + 2) Y A2 c2 (srt l) := by
    rw [← hY]; unfold st8
    iterate 8 refine MadeV.setCell ?_ (by omega) _
    exact hM.base hzW
  clear hY hM K0 K1 HW2 f0 q0_0 q0_1 q0_2 q0_3 q0_4 q0_5 q0_6 q0_7 q1_0 q1_1 q1_2 q1_3 q1_4 q1_5 q1_6 q1_7 z0 z1 HW hzW
  have v_0 := blk_cell kv 0
  have v_1 := blk_cell kv 1
  have v_2 := blk_cell kv 2
  have v_3 := blk_cell kv 3
  have v_4 := blk_cell kv 4
  have v_5 := blk_cell kv 5
  have v_6 := blk_cell kv 6
  have v_7 := blk_cell kv 7
  simp only [List.getElem?_toArray, List.getElem?_cons_zero, List.getElem?_cons_succ] at v_0 v_1 v_2 v_3 v_4 v_5 v_6 v_7
  have fv := blk_free kv
  have zv := blk_lt kv
  have zr := blk_lt kr
  go_upto_region 3 with fail
  have kn := al_new Y (.cells #[.bool false, .int .i64 0, .int .i64 0, .bool false, .int .i64 0, .int .i64 0, .bool n, .slice A2 (srt l).length c2] 30) rfl
  have HV : Below Y.heap.size Y (Y.alloc (.cells #[.bool false, .int .i64 0, .int .i64 0, .bool false, .int .i64 0, .int .i64 0, .bool n, .slice A2 (srt l).length c2] 30)) := (by repeat (first | (with_reducible assumption) | (with_reducible exact Below.refl _ _) | (with_reducible refine Below.alloc ?_ (by first | omega | (simp; omega) | (simp; done) | (dsimp only; omega)) _) | (with_reducible refine Below.setCell ?_ (by first | omega | (simp; omega) | (simp; done) | (dsimp only; omega)) _) | (with_reducible refine Below.drew ?_) | (with_reducible refine Below.trans ?_ (Below.mono (by assumption) (by first | omega | (simp; omega) | (simp; done) | (dsimp only; omega))))))
  generalize Y.alloc (.cells #[.bool false, .int .i64 0, .int .i64 0, .bool false, .int .i64 0, .int .i64 0, .bool n, .slice A2 (srt l).length c2] 30) = V at *
  replace kv := (HV.block _ zv).trans kv
  replace kr := (HV.block _ zr).trans kr
  have hM2 := hM1.mono HV
  have HB := HY.trans (HV.mono HY.size)
  clear v_0 v_1 v_2 v_3 v_4 v_5 v_6 v_7 fv zv zr hM1 HV HY
  have v_0 := blk_cell kv 0
  have v_1 := blk_cell kv 1
  have v_2 := blk_cell kv 2
  have v_3 := blk_cell kv 3
  have v_4 := blk_cell kv 4
  have v_5 := blk_cell kv 5
  have v_6 := blk_cell kv 6
  have v_7 := blk_cell kv 7
  simp only [List.getElem?_toArray, List.getElem?_cons_zero, List.getElem?_cons_succ] at v_0 v_1 v_2 v_3 v_4 v_5 v_6 v_7
  have fv := blk_free kv
  have zv := blk_lt kv
  have r_0 := blk_cell kr 0
  have r_1 := blk_cell kr 1
  have r_2 := blk_cell kr 2
  have r_3 := blk_cell kr 3
  have r_4 := blk_cell kr 4
  have r_5 := blk_cell kr 5
  have r_6 := blk_cell kr 6
  have r_7 := blk_cell kr 7
  simp only [List.getElem?_toArray, List.getElem?_cons_zero, List.getElem?_cons_succ] at r_0 r_1 r_2 r_3 r_4 r_5 r_6 r_7
  have fr := blk_free kr
  have zr := blk_lt kr
  have m_0 := blk_cell kn 0
  have m_1 := blk_cell kn 1
  have m_2 := blk_cell kn 2
  have m_3 := blk_cell kn 3
  have m_4 := blk_cell kn 4
  have m_5 := blk_cell kn 5
  have m_6 := blk_cell kn 6
  have m_7 := blk_cell kn 7
  simp only [List.getElem?_toArray, List.getElem?_cons_zero, List.getElem?_cons_succ] at m_0 m_1 m_2 m_3 m_4 m_5 m_6 m_7
  have fm := blk_free kn
  have zm := blk_lt kn
  go_upto_region 5 with fail
  refine region_seq (S := fun w' => Below V.heap.size V w') rfl (by kernel_rfl) (by kernel_rfl) (by repeat (first | (with_reducible assumption) | (with_reducible exact Below.refl _ _) | (with_reducible refine Below.alloc ?_ (by first | omega | (simp; omega) | (simp; done) | (dsimp only; omega)) _) | (with_reducible refine Below.setCell ?_ (by first | omega | (simp; omega) | (simp; done) | (dsimp only; omega)) _) | (with_reducible refine Below.drew ?_) | (with_reducible refine Below.trans ?_ (Below.mono (by assumption) (by first | omega | (simp; omega) | (simp; done) | (dsimp only; omega)))))) (fun fin hfin => ?_)
  iterate 8
    first
      | (refine SeqL.yes (v := ?_) (A' := ?_) rfl (by rfl) ?_ ?_ ?_
         rotate_left 2
         · intro w' K hS hK
           obtain ⟨hc, hf⟩ := bcell hS
           have hz := hS.size
           go_simp
           first
             | exact hK.out _ hS
             | trace_state
         · simp only [Act.put, List.setIfInBounds_toArray, List.set_cons_zero, List.set_cons_succ]; exact rfl)
      | (refine SeqL.no (A' := ?_) rfl (by rfl) ?_ ?_
         rotate_left
         · simp only [Act.put, List.setIfInBounds_toArray, List.set_cons_zero, List.set_cons_succ]; exact rfl)
  refine SeqL.nil (hfin.out _ ?_)
  clear hfin fin
  intro w1 hS1
  replace kv := (hS1.block _ zv).trans kv
  replace kr := (hS1.block _ zr).trans kr
  replace kn := (hS1.block _ zm).trans kn
  replace hM2 := hM2.mono hS1
  replace HB := HB.trans (hS1.mono HB.size)
  clear v_0 v_1 v_2 v_3 v_4 v_5 v_6 v_7 fv zv r_0 r_1 r_2 r_3 r_4 r_5 r_6 r_7 fr zr m_0 m_1 m_2 m_3 m_4 m_5 m_6 m_7 fm zm
  have v_0 := blk_cell kv 0
  have v_1 := blk_cell kv 1
  have v_2 := blk_cell kv 2
  have v_3 := blk_cell kv 3
  have v_4 := blk_cell kv 4
  have v_5 := blk_cell kv 5
  have v_6 := blk_cell kv 6
  have v_7 := blk_cell kv 7
  simp only [List.getElem?_toArray, List.getElem?_cons_zero, List.getElem?_cons_succ] at v_0 v_1 v_2 v_3 v_4 v_5 v_6 v_7
  have fv := blk_free kv
  have zv := blk_lt kv
  have r_0 := blk_cell kr 0
  have r_1 := blk_cell kr 1
  have r_2 := blk_cell kr 2
  have r_3 := blk_cell kr 3
  have r_4 := blk_cell kr 4
  have r_5 := blk_cell kr 5
  have r_6 := blk_cell kr 6
  have r_7 := blk_cell kr 7
  simp only [List.getElem?_toArray, List.getElem?_cons_zero, List.getElem?_cons_succ] at r_0 r_1 r_2 r_3 r_4 r_5 r_6 r_7
  have fr := blk_free kr
  have zr := blk_lt kr
  have m_0 := blk_cell kn 0
  have m_1 := blk_cell kn 1
  have m_2 := blk_cell kn 2
  have m_3 := blk_cell kn 3
  have m_4 := blk_cell kn 4
  have m_5 := blk_cell kn 5
  have m_6 := blk_cell kn 6
  have m_7 := blk_cell kn 7
  simp only [List.getElem?_toArray, List.getElem?_cons_zero, List.getElem?_cons_succ] at m_0 m_1 m_2 m_3 m_4 m_5 m_6 m_7
  have fm := blk_free kn
  have zm := blk_lt kn
  clear hS1
  go_upto_region 7 with fail
  go_wp2_with fail
  go_at_call 28
  refine (H3.out _).mono ?_
  rintro e w3 ⟨rfl, hb3⟩
  replace kv := (hb3.block _ zv).trans kv
  replace kr := (hb3.block _ zr).trans kr
  replace kn := (hb3.block _ zm).trans kn
  replace hM2 := hM2.mono hb3
  replace HB := HB.trans (hb3.mono HB.size)
  clear v_0 v_1 v_2 v_3 v_4 v_5 v_6 v_7 fv zv r_0 r_1 r_2 r_3 r_4 r_5 r_6 r_7 fr zr m_0 m_1 m_2 m_3 m_4 m_5 m_6 m_7 fm zm
  have v_0 := blk_cell kv 0
  have v_1 := blk_cell kv 1
  have v_2 := blk_cell kv 2
  have v_3 := blk_cell kv 3
  have v_4 := blk_cell kv 4
  have v_5 := blk_cell kv 5
  have v_6 := blk_cell kv 6
  have v_7 := blk_cell kv 7
  simp only [List.getElem?_toArray, List.getElem?_cons_zero, List.getElem?_cons_succ] at v_0 v_1 v_2 v_3 v_4 v_5 v_6 v_7
  have fv := blk_free kv
  have zv := blk_lt kv
  have r_0 := blk_cell kr 0
  have r_1 := blk_cell kr 1
  have r_2 := blk_cell kr 2
  have r_3 := blk_cell kr 3
  have r_4 := blk_cell kr 4
  have r_5 := blk_cell kr 5
  have r_6 := blk_cell kr 6
  have r_7 := blk_cell kr 7
  simp only [List.getElem?_toArray, List.getElem?_cons_zero, List.getElem?_cons_succ] at r_0 r_1 r_2 r_3 r_4 r_5 r_6 r_7
  have fr := blk_free kr
  have zr := blk_lt kr
  have m_0 := blk_cell kn 0
  have m_1 := blk_cell kn 1
  have m_2 := blk_cell kn 2
  have m_3 := blk_cell kn 3
  have m_4 := blk_cell kn 4
  have m_5 := blk_cell kn 5
  have m_6 := blk_cell kn 6
  have m_7 := blk_cell kn 7
  simp only [List.getElem?_toArray, List.getElem?_cons_zero, List.getElem?_cons_succ] at m_0 m_1 m_2 m_3 m_4 m_5 m_6 m_7
  have fm := blk_free kn
  have zm := blk_lt kn
  clear hb3
  go_upto_region 18 with fail
  have kc := al_new w3 (.cells #[.bool true, .int .i64 0, .int .i64 cr] 25) rfl
  have HU : Below w3.heap.size w3 (w3.alloc (.cells #[.bool true, .int .i64 0, .int .i64 cr] 25)) := (by repeat (first | (with_reducible assumption) | (with_reducible exact Below.refl _ _) | (with_reducible refine Below.alloc ?_ (by first | omega | (simp; omega) | (simp; done) | (dsimp only; omega)) _) | (with_reducible refine Below.setCell ?_ (by first | omega | (simp; omega) | (simp; done) | (dsimp only; omega)) _) | (with_reducible refine Below.drew ?_) | (with_reducible refine Below.trans ?_ (Below.mono (by assumption) (by first | omega | (simp; omega) | (simp; done) | (dsimp only; omega))))))
  generalize w3.alloc (.cells #[.bool true, .int .i64 0, .int .i64 cr] 25) = U at *
  have s_0 := blk_cell kc 0
  have s_1 := blk_cell kc 1
  have s_2 := blk_cell kc 2
  simp only [List.getElem?_toArray, List.getElem?_cons_zero, List.getElem?_cons_succ] at s_0 s_1 s_2
  have fs := blk_free kc
  have zs := blk_lt kc
  go_upto_region 20 with fail
  have kd := blk_set3 (v0 := .bool true) (v1 := .int .i64 0) (v2 := .int .i64 cr) kc
  replace HU : Below w3.heap.size w3 (((U.setCell ⟨w3.heap.size, 0, none⟩ (.bool true)).setCell ⟨w3.heap.size, 1, none⟩ (.int .i64 0)).setCell ⟨w3.heap.size, 2, none⟩ (.int .i64 cr)) := (by repeat (first | (with_reducible assumption) | (with_reducible exact Below.refl _ _) | (with_reducible refine Below.alloc ?_ (by first | omega | (simp; omega) | (simp; done) | (dsimp only; omega)) _) | (with_reducible refine Below.setCell ?_ (by first | omega | (simp; omega) | (simp; done) | (dsimp only; omega)) _) | (with_reducible refine Below.drew ?_) | (with_reducible refine Below.trans ?_ (Below.mono (by assumption) (by first | omega | (simp; omega) | (simp; done) | (dsimp only; omega))))))
  generalize ((U.setCell ⟨w3.heap.size, 0, none⟩ (.bool true)).setCell ⟨w3.heap.size, 1, none⟩ (.int .i64 0)).setCell ⟨w3.heap.size, 2, none⟩ (.int .i64 cr) = U2 at *
  replace kv := (HU.block _ zv).trans kv
  replace kr := (HU.block _ zr).trans kr
  replace kn := (HU.block _ zm).trans kn
  replace hM2 := hM2.mono HU
  replace HB := HB.trans (HU.mono HB.size)
  clear v_0 v_1 v_2 v_3 v_4 v_5 v_6 v_7 fv zv r_0 r_1 r_2 r_3 r_4 r_5 r_6 r_7 fr zr m_0 m_1 m_2 m_3 m_4 m_5 m_6 m_7 fm zm
  have v_0 := blk_cell kv 0
  have v_1 := blk_cell kv 1
  have v_2 := blk_cell kv 2
  have v_3 := blk_cell kv 3
  have v_4 := blk_cell kv 4
  have v_5 := blk_cell kv 5
  have v_6 := blk_cell kv 6
  have v_7 := blk_cell kv 7
  simp only [List.getElem?_toArray, List.getElem?_cons_zero, List.getElem?_cons_succ] at v_0 v_1 v_2 v_3 v_4 v_5 v_6 v_7
  have fv := blk_free kv
  have zv := blk_lt kv
  have r_0 := blk_cell kr 0
  have r_1 := blk_cell kr 1
  have r_2 := blk_cell kr 2
  have r_3 := blk_cell kr 3
  have r_4 := blk_cell kr 4
  have r_5 := blk_cell kr 5
  have r_6 := blk_cell kr 6
  have r_7 := blk_cell kr 7
  simp only [List.getElem?_toArray, List.getElem?_cons_zero, List.getElem?_cons_succ] at r_0 r_1 r_2 r_3 r_4 r_5 r_6 r_7
  have fr := blk_free kr
  have zr := blk_lt kr
  have m_0 := blk_cell kn 0
  have m_1 := blk_cell kn 1
  have m_2 := blk_cell kn 2
  have m_3 := blk_cell kn 3
  have m_4 := blk_cell kn 4
  have m_5 := blk_cell kn 5
  have m_6 := blk_cell kn 6
  have m_7 := blk_cell kn 7
  simp only [List.getElem?_toArray, List.getElem?_cons_zero, List.getElem?_cons_succ] at m_0 m_1 m_2 m_3 m_4 m_5 m_6 m_7
  have fm := blk_free kn
  have zm := blk_lt kn
  clear HU
  clear s_0 s_1 s_2 fs zs kc m_0 m_1 m_2 m_3 m_4 m_5 m_6 m_7 fm zm v_0 v_1 v_2 v_3 v_4 v_5 r_0 r_1 r_2 r_3 r_4 r_5 r_6 r_7 fr kn
  have s_0 := blk_cell kd 0
  have s_1 := blk_cell kd 1
  have s_2 := blk_cell kd 2
  simp only [List.getElem?_toArray, List.getElem?_cons_zero, List.getElem?_cons_succ] at s_0 s_1 s_2
  have fs := blk_free kd
  have zs := blk_lt kd
  refine region_seqg (W := U2) [_, _, _, _, _, _, _] [_] rfl (by kernel_rfl) (by kernel_rfl) (by repeat (first | (with_reducible assumption) | (with_reducible exact Below.refl _ _) | (with_reducible refine Below.alloc ?_ (by first | omega | (simp; omega) | (simp; done) | (dsimp only; omega)) _) | (with_reducible refine Below.setCell ?_ (by first | omega | (simp; omega) | (simp; done) | (dsimp only; omega)) _) | (with_reducible refine Below.drew ?_) | (with_reducible refine Below.trans ?_ (Below.mono (by assumption) (by first | omega | (simp; omega) | (simp; done) | (dsimp only; omega)))))) (fun fin hfin => ?_)
  iterate 7
    first
      | (refine SeqG.yes (v := ?_) (A' := ?_) rfl (fun γ => by rfl) ?_ ?_ ?_
         rotate_left 2
         · intro γ w' K hS hK
           obtain ⟨hc, hf⟩ := bcell hS
           have hz := hS.size
           go_simp
           first
             | exact hK.out _ (Below.refl _ _)
             | (go_at_call 34; (with_reducible refine (HM.out _).mono ?_); rintro e w1 ⟨rfl, hb1⟩; exact hK.out _ hb1)
             | trace_state
         · intro γ; simp only [Act.put, List.setIfInBounds_toArray, List.set_cons_zero, List.set_cons_succ]; exact rfl)
      | (refine SeqG.no (A' := ?_) rfl (fun γ => by rfl) ?_ ?_
         rotate_left
         · intro γ; simp only [Act.put, List.setIfInBounds_toArray, List.set_cons_zero, List.set_cons_succ]; exact rfl)
  refine SeqG.nil (hfin.out _ _ ?_)
  clear hfin fin
  intro γ lo hi w1 hB1 hF hD
  clear hD
  replace kr := (hB1.block _ zr).trans kr
  replace hM2 := hM2.mono hB1
  replace HB := HB.trans (hB1.mono HB.size)
  clear v_6 v_7 fv zv zr s_0 s_1 s_2 fs zs hB1 hF kv kd
  have r_0 := blk_cell kr 0
  have r_1 := blk_cell kr 1
  have r_2 := blk_cell kr 2
  have r_3 := blk_cell kr 3
  have r_4 := blk_cell kr 4
  have r_5 := blk_cell kr 5
  have r_6 := blk_cell kr 6
  have r_7 := blk_cell kr 7
  simp only [List.getElem?_toArray, List.getElem?_cons_zero, List.getElem?_cons_succ] at r_0 r_1 r_2 r_3 r_4 r_5 r_6 r_7
  have fr := blk_free kr
  have zr := blk_lt kr
  refine TailL.cons (fun K hK => ?_)
  go_simp
  refine hK.out _ _ ?_
  clear hK K
  refine TailL.nil ?_
  go_wp2
  refine bodyPost_ret (by simp [results, Try.results8, go_sem, *] <;> rfl) rfl ⟨⟨A2, c2, rfl, (by (refine MadeV.base (b := w.heap.size + 2) ?_ (by omega)); (repeat refine MadeV.setCell ?_ (by first | omega | (simp; omega)) _); first | exact hM2 | exact hM2.base (by omega))⟩, (by repeat (first | (with_reducible assumption) | (with_reducible exact Below.refl _ _) | (with_reducible refine Below.alloc ?_ (by first | omega | (simp; omega) | (simp; done) | (dsimp only; omega)) _) | (with_reducible refine Below.setCell ?_ (by first | omega | (simp; omega) | (simp; done) | (dsimp only; omega)) _) | (with_reducible refine Below.drew ?_) | (with_reducible refine Below.trans ?_ (Below.mono (by assumption) (by first | omega | (simp; omega) | (simp; done) | (dsimp only; omega))))))⟩

set_option maxRecDepth 100000 in
set_option maxHeartbeats 8000000 in
theorem r8_Reduce_3 (x : In) (i : In) (n : Bool) (l : List Str) (A : Option Addr) (c : Nat) (w : World)
    (HC : Hid (∀ w', Below w.heap.size w w' → Calls Try.prog 27 #[.agg #[.bool i.s.s, .int .i64 i.s.lo, .int .i64 i.s.hi, .bool i.c.s, .int .i64 i.c.m, .int .i64 i.c.r, .bool n, .slice A l.length c]] w' fun e w'' => (∃ A' c', e = .returned (.agg #[.bool x.s.s, .int .i64 x.s.lo, .int .i64 x.s.hi, .bool x.c.s, .int .i64 x.c.m, .int .i64 x.c.r, .bool n, .slice A' (srt l).length c']) ∧ MadeV w'.heap.size w'' A' c' (srt l)) ∧ Below w'.heap.size w' w''))
    (h1 : x.s.none = false) (h2 : x.c.s = true) (h3 : x.c.m = 0) (h4 : x.s.has x.c.r = false) (e : x.redC = In.zero) :
    Calls Try.prog 8 #[.agg #[.bool i.s.s, .int .i64 i.s.lo, .int .i64 i.s.hi, .bool i.c.s, .int .i64 i.c.m, .int .i64 i.c.r, .bool n, .slice A l.length c]] w fun e w' => (∃ A' c', e = .returned (.agg #[.bool (x.redC).s.s, .int .i64 (x.redC).s.lo, .int .i64 (x.redC).s.hi, .bool (x.redC).c.s, .int .i64 (x.redC).c.m, .int .i64 (x.redC).c.r, .bool n, .slice A' (srt l).length c']) ∧ MadeV w.heap.size w' A' c' (srt l)) ∧ Below w.heap.size w w' := by
  rw [e, show In.zero = ⟨⟨false, 0, 0⟩, ⟨false, 0, 0⟩⟩ from rfl]
  dsimp only
  obtain ⟨⟨ss, slo, shi⟩, ⟨cs, cm, cr⟩⟩ := x
  dsimp only at *
  obtain rfl : ss = true := ((Sp.none_iff _).1 h1).1
  subst h2
  subst h3
  have h3 := r3_has ⟨true, slo, shi⟩ cr
  rw [h4] at h3
  dsimp only at h3
  have H3 := Lib.hid h3
  clear h1 h3 h4 e
  go_enter Try.func8, Try.ntmps8
  go_upto_region 1 with fail
  generalize hW : ((w.alloc (.cells #[.bool i.s.s, .int .i64 i.s.lo, .int .i64 i.s.hi, .bool i.c.s, .int .i64 i.c.m, .int .i64 i.c.r, .bool n, .slice A l.length c] 30)).alloc (.cells #[.bool false, .int .i64 0, .int .i64 0, .bool false, .int .i64 0, .int .i64 0, .bool false, .slice none 0 0] 30)) = W
  have q0_0 : W.cell? ⟨w.heap.size, 0, none⟩ = some (.bool i.s.s) := by rw [← hW]; simp [go_sem]
  have q0_1 : W.cell? ⟨w.heap.size, 1, none⟩ = some (.int .i64 i.s.lo) := by rw [← hW]; simp [go_sem]
  have q0_2 : W.cell? ⟨w.heap.size, 2, none⟩ = some (.int .i64 i.s.hi) := by rw [← hW]; simp [go_sem]
  have q0_3 : W.cell? ⟨w.heap.size, 3, none⟩ = some (.bool i.c.s) := by rw [← hW]; simp [go_sem]
  have q0_4 : W.cell? ⟨w.heap.size, 4, none⟩ = some (.int .i64 i.c.m) := by rw [← hW]; simp [go_sem]
  have q0_5 : W.cell? ⟨w.heap.size, 5, none⟩ = some (.int .i64 i.c.r) := by rw [← hW]; simp [go_sem]
  have q0_6 : W.cell? ⟨w.heap.size, 6, none⟩ = some (.bool n) := by rw [← hW]; simp [go_sem]
  have q0_7 : W.cell? ⟨w.heap.size, 7, none⟩ = some (.slice A l.length c) := by rw [← hW]; simp [go_sem]
  have q1_0 : W.cell? ⟨w.heap.size + 1, 0, none⟩ = some (.bool false) := by rw [← hW]; simp [go_sem]
  have q1_1 : W.cell? ⟨w.heap.size + 1, 1, none⟩ = some (.int .i64 0) := by rw [← hW]; simp [go_sem]
  have q1_2 : W.cell? ⟨w.heap.size + 1, 2, none⟩ = some (.int .i64 0) := by rw [← hW]; simp [go_sem]
  have q1_3 : W.cell? ⟨w.heap.size + 1, 3, none⟩ = some (.bool false) := by rw [← hW]; simp [go_sem]
  have q1_4 : W.cell? ⟨w.heap.size + 1, 4, none⟩ = some (.int .i64 0) := by rw [← hW]; simp [go_sem]
  have q1_5 : W.cell? ⟨w.heap.size + 1, 5, none⟩ = some (.int .i64 0) := by rw [← hW]; simp [go_sem]
  have q1_6 : W.cell? ⟨w.heap.size + 1, 6, none⟩ = some (.bool false) := by rw [← hW]; simp [go_sem]
  have q1_7 : W.cell? ⟨w.heap.size + 1, 7, none⟩ = some (.slice none 0 0) := by rw [← hW]; simp [go_sem]
  have f0 : ∀ o, W.frozen? ⟨w.heap.size, o, none⟩ = false := by intro o; rw [← hW]; simp [go_sem]
  have f1 : ∀ o, W.frozen? ⟨w.heap.size + 1, o, none⟩ = false := by intro o; rw [← hW]; simp [go_sem]
  have k0 : W.heap[w.heap.size]? = some (.cells #[.bool i.s.s, .int .i64 i.s.lo, .int .i64 i.s.hi, .bool i.c.s, .int .i64 i.c.m, .int .i64 i.c.r, .bool n, .slice A l.length c] 30 (0, 0)) := by rw [← hW]; rw [al_old _ _ (by (repeat rw [al_size]); omega)]; exact al_new _ _ (by (repeat rw [al_size]) <;> rfl)
  have k1 : W.heap[w.heap.size + 1]? = some (.cells #[.bool false, .int .i64 0, .int .i64 0, .bool false, .int .i64 0, .int .i64 0, .bool false, .slice none 0 0] 30 (0, 0)) := by rw [← hW]; exact al_new _ _ (by (repeat rw [al_size]) <;> rfl)
  have z0 : w.heap.size < W.heap.size := by rw [← hW]; first | (simp; done) | (simp; omega)
  have z1 : w.heap.size + 1 < W.heap.size := by rw [← hW]; first | (simp; done) | (simp; omega)
  have HW : Below w.heap.size w W := by rw [← hW]; exact (by repeat (first | (with_reducible assumption) | (with_reducible exact Below.refl _ _) | (with_reducible refine Below.alloc ?_ (by first | omega | (simp; omega) | (simp; done) | (dsimp only; omega)) _) | (with_reducible refine Below.setCell ?_ (by first | omega | (simp; omega) | (simp; done) | (dsimp only; omega)) _) | (with_reducible refine Below.drew ?_) | (with_reducible refine Below.trans ?_ (Below.mono (by assumption) (by first | omega | (simp; omega) | (simp; done) | (dsimp only; omega))))))
  clear hW
  go_wp2_with fail
  go_at_call 27
  refine (HC.out _ HW).mono ?_
  rintro e w2 ⟨⟨A2, c2, rfl, hM⟩, hb2⟩
  have hzW : w.heap.size + 2 ≤ W.heap.size := by omega
  replace k0 := (hb2.block _ z0).trans k0
  replace k1 := (hb2.block _ z1).trans k1
  replace f0 := fun o => (hb2.frozen (p := ⟨w.heap.size, o, none⟩) z0).trans (f0 o)
  replace q0_0 := (hb2.cell (p := ⟨w.heap.size, 0, none⟩) z0).trans q0_0
  replace q0_1 := (hb2.cell (p := ⟨w.heap.size, 1, none⟩) z0).trans q0_1
  replace q0_2 := (hb2.cell (p := ⟨w.heap.size, 2, none⟩) z0).trans q0_2
  replace q0_3 := (hb2.cell (p := ⟨w.heap.size, 3, none⟩) z0).trans q0_3
  replace q0_4 := (hb2.cell (p := ⟨w.heap.size, 4, none⟩) z0).trans q0_4
  replace q0_5 := (hb2.cell (p := ⟨w.heap.size, 5, none⟩) z0).trans q0_5
  replace q0_6 := (hb2.cell (p := ⟨w.heap.size, 6, none⟩) z0).trans q0_6
  replace q0_7 := (hb2.cell (p := ⟨w.heap.size, 7, none⟩) z0).trans q0_7
  replace q1_0 := (hb2.cell (p := ⟨w.heap.size + 1, 0, none⟩) z1).trans q1_0
  replace q1_1 := (hb2.cell (p := ⟨w.heap.size + 1, 1, none⟩) z1).trans q1_1
  replace q1_2 := (hb2.cell (p := ⟨w.heap.size + 1, 2, none⟩) z1).trans q1_2
  replace q1_3 := (hb2.cell (p := ⟨w.heap.size + 1, 3, none⟩) z1).trans q1_3
  replace q1_4 := (hb2.cell (p := ⟨w.heap.size + 1, 4, none⟩) z1).trans q1_4
  replace q1_5 := (hb2.cell (p := ⟨w.heap.size + 1, 5, none⟩) z1).trans q1_5
  replace q1_6 := (hb2.cell (p := ⟨w.heap.size + 1, 6, none⟩) z1).trans q1_6
  replace q1_7 := (hb2.cell (p := ⟨w.heap.size + 1, 7, none⟩) z1).trans q1_7
  replace z0 := Nat.lt_of_lt_of_le z0 hb2.size
  replace z1 := Nat.lt_of_lt_of_le z1 hb2.size
  have HW2 := HW.trans (hb2.mono HW.size)
  have K0 := Lib.hid k0; have K1 := Lib.hid k1
  clear k0 k1 f1 hb2
  go_upto_region 2 with fail
  simp only [st8_fold]
  generalize hY : st8 w2 w.heap.size (.bool true) (.int .i64 slo) (.int .i64 shi) (.bool true) (.int .i64 0) (.int .i64 cr) (.bool n) (.slice A2 (srt l).length c2) = Y
  have kv : Y.heap[w.heap.size]? = some (.cells #[.bool true, .int .i64 slo, .int .i64 shi, .bool true, .int .i64 0, .int .i64 cr, .bool n, .slice A2 (srt l).length c2] 30) := by rw [← hY]; exact st8_blk K0.out
  have kr : Y.heap[w.heap.size + 1]? = some (.cells #[.bool false, .int .i64 0, .int .i64 0, .bool false, .int .i64 0, .int .i64 0, .bool false, .slice none 0 0] 30) := by rw [← hY]; exact (st8_far _ _ (by omega)).trans K1.out
  have HY : Below w.heap.size w Y := by rw [← hY]; exact st8_below HW2 (Nat.le_refl _)
  have hM1 : MadeV (w.heap.size + 2) Y A2 c2 (srt l) := by
    rw [← hY]; unfold st8
    iterate 8 refine MadeV.setCell ?_ (by omega) _
    exact hM.base hzW
  clear hY hM K0 K1 HW2 f0 q0_0 q0_1 q0_2 q0_3 q0_4 q0_5 q0_6 q0_7 q1_0 q1_1 q1_2 q1_3 q1_4 q1_5 q1_6 q1_7 z0 z1 HW hzW
  have v_0 := blk_cell kv 0
  have v_1 := blk_cell kv 1
  have v_2 := blk_cell kv 2
  have v_3 := blk_cell kv 3
  have v_4 := blk_cell kv 4
  have v_5 := blk_cell kv 5
  have v_6 := blk_cell kv 6
  have v_7 := blk_cell kv 7
  simp only [List.getElem?_toArray, List.getElem?_cons_zero, List.getElem?_cons_succ] at v_0 v_1 v_2 v_3 v_4 v_5 v_6 v_7
  have fv := blk_free kv
  have zv := blk_lt kv
  have zr := blk_lt kr
  go_upto_region 3 with fail
  have kn := al_new Y (.cells #[.bool false, .int .i64 0, .int .i64 0, .bool false, .int .i64 0, .int .i64 0, .bool n, .slice A2 (srt l).length c2] 30) rfl
  have HV : Below Y.heap.size Y (Y.alloc (.cells #[.bool false, .int .i64 0, .int .i64 0, .bool false, .int .i64 0, .int .i64 0, .bool n, .slice A2 (srt l).length c2] 30)) := (by repeat (first | (with_reducible assumption) | (with_reducible exact Below.refl _ _) | (with_reducible refine Below.alloc ?_ (by first | omega | (simp; omega) | (simp; done) | (dsimp only; omega)) _) | (with_reducible refine Below.setCell ?_ (by first | omega | (simp; omega) | (simp; done) | (dsimp only; omega)) _) | (with_reducible refine Below.drew ?_) | (with_reducible refine Below.trans ?_ (Below.mono (by assumption) (by first | omega | (simp; omega) | (simp; done) | (dsimp only; omega))))))
  generalize Y.alloc (.cells #[.bool false, .int .i64 0, .int .i64 0, .bool false, .int .i64 0, .int .i64 0, .bool n, .slice A2 (srt l).length c2] 30) = V at *
  replace kv := (HV.block _ zv).trans kv
  replace kr := (HV.block _ zr).trans kr
  have hM2 := hM1.mono HV
  have HB := HY.trans (HV.mono HY.size)
  clear v_0 v_1 v_2 v_3 v_4 v_5 v_6 v_7 fv zv zr hM1 HV HY
  have v_0 := blk_cell kv 0
  have v_1 := blk_cell kv 1
  have v_2 := blk_cell kv 2
  have v_3 := blk_cell kv 3
  have v_4 := blk_cell kv 4
  have v_5 := blk_cell kv 5
  have v_6 := blk_cell kv 6
  have v_7 := blk_cell kv 7
  simp only [List.getElem?_toArray, List.getElem?_cons_zero, List.getElem?_cons_succ] at v_0 v_1 v_2 v_3 v_4 v_5 v_6 v_7
  have fv := blk_free kv
  have zv := blk_lt kv
  have r_0 := blk_cell kr 0
  have r_1 := blk_cell kr 1
  have r_2 := blk_cell kr 2
  have r_3 := blk_cell kr 3
  have r_4 := blk_cell kr 4
  have r_5 := blk_cell kr 5
  have r_6 := blk_cell kr 6
  have r_7 := blk_cell kr 7
  simp only [List.getElem?_toArray, List.getElem?_cons_zero, List.getElem?_cons_succ] at r_0 r_1 r_2 r_3 r_4 r_5 r_6 r_7
  have fr := blk_free kr
  have zr := blk_lt kr
  have m_0 := blk_cell kn 0
  have m_1 := blk_cell kn 1
  have m_2 := blk_cell kn 2
  have m_3 := blk_cell kn 3
  have m_4 := blk_cell kn 4
  have m_5 := blk_cell kn 5
  have m_6 := blk_cell kn 6
  have m_7 := blk_cell kn 7
  simp only [List.getElem?_toArray, List.getElem?_cons_zero, List.getElem?_cons_succ] at m_0 m_1 m_2 m_3 m_4 m_5 m_6 m_7
  have fm := blk_free kn
  have zm := blk_lt kn
  go_upto_region 5 with fail
  refine region_seq (S := fun w' => Below V.heap.size V w') rfl (by kernel_rfl) (by kernel_rfl) (by repeat (first | (with_reducible assumption) | (with_reducible exact Below.refl _ _) | (with_reducible refine Below.alloc ?_ (by first | omega | (simp; omega) | (simp; done) | (dsimp only; omega)) _) | (with_reducible refine Below.setCell ?_ (by first | omega | (simp; omega) | (simp; done) | (dsimp only; omega)) _) | (with_reducible refine Below.drew ?_) | (with_reducible refine Below.trans ?_ (Below.mono (by assumption) (by first | omega | (simp; omega) | (simp; done) | (dsimp only; omega)))))) (fun fin hfin => ?_)
  iterate 8
    first
      | (refine SeqL.yes (v := ?_) (A' := ?_) rfl (by rfl) ?_ ?_ ?_
         rotate_left 2
         · intro w' K hS hK
           obtain ⟨hc, hf⟩ := bcell hS
           have hz := hS.size
           go_simp
           first
             | exact hK.out _ hS
             | trace_state
         · simp only [Act.put, List.setIfInBounds_toArray, List.set_cons_zero, List.set_cons_succ]; exact rfl)
      | (refine SeqL.no (A' := ?_) rfl (by rfl) ?_ ?_
         rotate_left
         · simp only [Act.put, List.setIfInBounds_toArray, List.set_cons_zero, List.set_cons_succ]; exact rfl)
  refine SeqL.nil (hfin.out _ ?_)
  clear hfin fin
  intro w1 hS1
  replace kv := (hS1.block _ zv).trans kv
  replace kr := (hS1.block _ zr).trans kr
  replace kn := (hS1.block _ zm).trans kn
  replace hM2 := hM2.mono hS1
  replace HB := HB.trans (hS1.mono HB.size)
  clear v_0 v_1 v_2 v_3 v_4 v_5 v_6 v_7 fv zv r_0 r_1 r_2 r_3 r_4 r_5 r_6 r_7 fr zr m_0 m_1 m_2 m_3 m_4 m_5 m_6 m_7 fm zm
  have v_0 := blk_cell kv 0
  have v_1 := blk_cell kv 1
  have v_2 := blk_cell kv 2
  have v_3 := blk_cell kv 3
  have v_4 := blk_cell kv 4
  have v_5 := blk_cell kv 5
  have v_6 := blk_cell kv 6
  have v_7 := blk_cell kv 7
  simp only [List.getElem?_toArray, List.getElem?_cons_zero, List.getElem?_cons_succ] at v_0 v_1 v_2 v_3 v_4 v_5 v_6 v_7
  have fv := blk_free kv
  have zv := blk_lt kv
  have r_0 := blk_cell kr 0
  have r_1 := blk_cell kr 1
  have r_2 := blk_cell kr 2
  have r_3 := blk_cell kr 3
  have r_4 := blk_cell kr 4
  have r_5 := blk_cell kr 5
  have r_6 := blk_cell kr 6
  have r_7 := blk_cell kr 7
  simp only [List.getElem?_toArray, List.getElem?_cons_zero, List.getElem?_cons_succ] at r_0 r_1 r_2 r_3 r_4 r_5 r_6 r_7
  have fr := blk_free kr
  have zr := blk_lt kr
  have m_0 := blk_cell kn 0
  have m_1 := blk_cell kn 1
  have m_2 := blk_cell kn 2
  have m_3 := blk_cell kn 3
  have m_4 := blk_cell kn 4
  have m_5 := blk_cell kn 5
  have m_6 := blk_cell kn 6
  have m_7 := blk_cell kn 7
  simp only [List.getElem?_toArray, List.getElem?_cons_zero, List.getElem?_cons_succ] at m_0 m_1 m_2 m_3 m_4 m_5 m_6 m_7
  have fm := blk_free kn
  have zm := blk_lt kn
  clear hS1
  go_upto_region 7 with fail
  go_wp2_with fail
  go_at_call 28
  refine (H3.out _).mono ?_
  rintro e w3 ⟨rfl, hb3⟩
  replace kv := (hb3.block _ zv).trans kv
  replace kr := (hb3.block _ zr).trans kr
  replace kn := (hb3.block _ zm).trans kn
  replace hM2 := hM2.mono hb3
  replace HB := HB.trans (hb3.mono HB.size)
  clear v_0 v_1 v_2 v_3 v_4 v_5 v_6 v_7 fv zv r_0 r_1 r_2 r_3 r_4 r_5 r_6 r_7 fr zr m_0 m_1 m_2 m_3 m_4 m_5 m_6 m_7 fm zm
  have v_0 := blk_cell kv 0
  have v_1 := blk_cell kv 1
  have v_2 := blk_cell kv 2
  have v_3 := blk_cell kv 3
  have v_4 := blk_cell kv 4
  have v_5 := blk_cell kv 5
  have v_6 := blk_cell kv 6
  have v_7 := blk_cell kv 7
  simp only [List.getElem?_toArray, List.getElem?_cons_zero, List.getElem?_cons_succ] at v_0 v_1 v_2 v_3 v_4 v_5 v_6 v_7
  have fv := blk_free kv
  have zv := blk_lt kv
  have r_0 := blk_cell kr 0
  have r_1 := blk_cell kr 1
  have r_2 := blk_cell kr 2
  have r_3 := blk_cell kr 3
  have r_4 := blk_cell kr 4
  have r_5 := blk_cell kr 5
  have r_6 := blk_cell kr 6
  have r_7 := blk_cell kr 7
  simp only [List.getElem?_toArray, List.getElem?_cons_zero, List.getElem?_cons_succ] at r_0 r_1 r_2 r_3 r_4 r_5 r_6 r_7
  have fr := blk_free kr
  have zr := blk_lt kr
  have m_0 := blk_cell kn 0
  have m_1 := blk_cell kn 1
  have m_2 := blk_cell kn 2
  have m_3 := blk_cell kn 3
  have m_4 := blk_cell kn 4
  have m_5 := blk_cell kn 5
  have m_6 := blk_cell kn 6
  have m_7 := blk_cell kn 7
  simp only [List.getElem?_toArray, List.getElem?_cons_zero, List.getElem?_cons_succ] at m_0 m_1 m_2 m_3 m_4 m_5 m_6 m_7
  have fm := blk_free kn
  have zm := blk_lt kn
  clear hb3
  go_wp2
  refine bodyPost_ret (by simp [results, Try.results8, go_sem, *] <;> rfl) rfl ⟨⟨A2, c2, rfl, (by (refine MadeV.base (b := w.heap.size + 2) ?_ (by omega)); (repeat refine MadeV.setCell ?_ (by first | omega | (simp; omega)) _); first | exact hM2 | exact hM2.base (by omega))⟩, (by repeat (first | (with_reducible assumption) | (with_reducible exact Below.refl _ _) | (with_reducible refine Below.alloc ?_ (by first | omega | (simp; omega) | (simp; done) | (dsimp only; omega)) _) | (with_reducible refine Below.setCell ?_ (by first | omega | (simp; omega) | (simp; done) | (dsimp only; omega)) _) | (with_reducible refine Below.drew ?_) | (with_reducible refine Below.trans ?_ (Below.mono (by assumption) (by first | omega | (simp; omega) | (simp; done) | (dsimp only; omega))))))⟩

end Go.Proofs.Ytdpnphnafidpiaa
