/- X-PARTIAL What sondageref08.Reduce returns where the congruence is of many, and the span has some of it: layer 8. -/
import Derived.Test.YtdpnphnafidpiaaValT
namespace Go.Proofs.Ytdpnphnafidpiaa
open Go.RowKit

set_option maxRecDepth 100000 in
set_option maxHeartbeats 8000000 in
theorem r8_Reduce_5 (x : In) (hx : x.std) (i : In) (n : Bool) (l : List Str) (A : Option Addr) (c : Nat) (w : World)
    (HC : Hid (∀ w', Below w.heap.size w w' → Calls Try.prog 27 #[.agg #[.bool i.s.s, .int .i64 i.s.lo, .int .i64 i.s.hi, .bool i.c.s, .int .i64 i.c.m, .int .i64 i.c.r, .bool n, .slice A l.length c]] w' fun e w'' => (∃ A' c', e = .returned (.agg #[.bool x.s.s, .int .i64 x.s.lo, .int .i64 x.s.hi, .bool x.c.s, .int .i64 x.c.m, .int .i64 x.c.r, .bool n, .slice A' (srt l).length c']) ∧ MadeV w'.heap.size w'' A' c' (srt l)) ∧ Below w'.heap.size w' w''))
    (h1 : x.s.none = false) (h2 : x.c.s = true) (h3 : 0 < x.c.m) (a b : Int) (ea : a = x.s.lo + upI x.s.lo x.c.m x.c.r) (eb : b = x.s.hi - dnI x.s.hi x.c.m x.c.r) (g1 : x.s.lo ≤ a) (g2 : a ≤ b) (g3 : b ≤ x.s.hi) (e : x.redC = ⟨⟨true, a, b⟩, if a = b then ⟨true, 0, a⟩ else x.c⟩) :
    Calls Try.prog 8 #[.agg #[.bool i.s.s, .int .i64 i.s.lo, .int .i64 i.s.hi, .bool i.c.s, .int .i64 i.c.m, .int .i64 i.c.r, .bool n, .slice A l.length c]] w fun e w' => (∃ A' c', e = .returned (.agg #[.bool (x.redC).s.s, .int .i64 (x.redC).s.lo, .int .i64 (x.redC).s.hi, .bool (x.redC).c.s, .int .i64 (x.redC).c.m, .int .i64 (x.redC).c.r, .bool n, .slice A' (srt l).length c']) ∧ MadeV w.heap.size w' A' c' (srt l)) ∧ Below w.heap.size w w' := by
  rw [e]
  dsimp only
  clear e
  have hc := hx.2.1.1
  have hs := hx.1
  have hlh := ((Sp.none_iff _).1 h1).2
  have hu := r8_far_up x.s.lo x.c hs.1 hc h3
  have hd := r8_far_dn x.s.hi x.c hs.2 hc h3
  obtain ⟨r0, r1⟩ := hx.2.1.2.2.2 h3
  have u0 := (up_spec (lo := x.s.lo) r0 r1).1
  have u1 := (up_spec (lo := x.s.lo) r0 r1).2.1
  have d0 := (dn_spec (hi := x.s.hi) r0 r1).1
  have d1 := (dn_spec (hi := x.s.hi) r0 r1).2.1
  obtain ⟨⟨ss, slo, shi⟩, ⟨cs, cm, cr⟩⟩ := x
  dsimp only at *
  obtain rfl : ss = true := ((Sp.none_iff _).1 h1).1
  subst h2
  generalize upI slo cm cr = up at *
  generalize dnI shi cm cr = dn at *
  have I1 : I64 slo := hs.1
  have I2 : I64 shi := hs.2
  have I3 : I64 cm := hc.1
  have I4 : I64 up := by unfold I64 at *; omega
  have I5 : I64 dn := by unfold I64 at *; omega
  have HO1 := Lib.hid (r_of slo I1)
  have HF1 := Lib.hid hu
  have HO2 := Lib.hid (r_of up I4)
  have ha := r_add (hiW slo) (loW slo) (hiW up) (loW up) (U64.lo _) (U64.lo _)
  rw [wv_hilo, wv_hilo, wrap128_id (by unfold I128; unfold I64 at *; omega)] at ha
  have hi1 := r_int (hiW (slo + up)) (loW (slo + up)) (I64_hi (by unfold I128; unfold I64 at *; omega)) (U64.lo _)
  rw [wv_hilo] at hi1
  have HO3 := Lib.hid (r_of shi I2)
  have HF2 := Lib.hid hd
  have HO4 := Lib.hid (r_of dn I5)
  have hb := r_sub (hiW shi) (loW shi) (hiW dn) (loW dn) (U64.lo _) (U64.lo _)
  rw [wv_hilo, wv_hilo, wrap128_id (by unfold I128; unfold I64 at *; omega)] at hb
  have hi2 := r_int (hiW (shi - dn)) (loW (shi - dn)) (I64_hi (by unfold I128; unfold I64 at *; omega)) (U64.lo _)
  rw [wv_hilo] at hi2
  have hm0 : (cm == 0) = false := by simp; omega
  have hia0 : isI a = true := (isI_iff a).2 (by unfold I64 at *; omega)
  have hib0 : isI b = true := (isI_iff b).2 (by unfold I64 at *; omega)
  rw [← ea] at ha hi1
  rw [← eb] at hb hi2
  have hia : intI a = a := by unfold intI; rw [if_pos hia0]
  have hib : intI b = b := by unfold intI; rw [if_pos hib0]
  rw [hia0, hia] at hi1
  rw [hib0, hib] at hi2
  have HA := Lib.hid ha
  have HB2 := Lib.hid hb
  have HI1 := Lib.hid hi1
  have HI2 := Lib.hid hi2
  have hmk := r3_make a b
  rw [Sp.of_f (by omega)] at hmk
  dsimp only at hmk
  have HM := Lib.hid hmk
  have hdl : decide (b < a) = false := by simp; omega
  clear ha hb hu hd hx hc hs h1 I1 I2 I3 I4 I5 u0 u1 d0 d1 r0 r1 hlh hi1 hi2 hia hib hia0 hib0 ea eb g1 g2 g3 hmk
  by_cases hab : a = b
  · subst hab
    rw [if_pos rfl]
    dsimp only
    go_enter Try.func8, Try.ntmps8
    go_upto_region 1 with fail
    generalize hW : ((w.alloc (.cells #[.bool i.s.s, .int .i64 i.s.lo, .int .i64 i.s.hi, .bool i.c.s, .int .i64 i.c.m, .int .i64 i.c.r, .bool n, .slice A l.length c] 30)).alloc (.cells #[.bool false, .int .i64 0, .int .i64 0, .bool false, .int .i64 0, .int .i64 0, .bool false, .slice none 0 0] 30)) = W
    have q0_0 : W.cell? ⟨w.heap.size, 0, none⟩ = some (.bool i.s.s) := by rw [← hW]; simp [go_sem]
    have q0_1 : W.cell? ⟨w.heap.size, 1, none⟩ = some (.int .i64 i.s.lo) := by rw [← hW]; simp [go_sem]
    have q0_2 : W.cell? ⟨w.heap.size, 2, none⟩ = some (.int .i64 i.s.hi) := by rw [← hW]; simp [go_sem]
    have q0_3 : W.cell? ⟨w.heap.size, 3, none⟩ = some (.bool i.c.s) := by rw [← hW]; simp [go_sem]
    have q0_4 : W.cell? ⟨w.heap.size, 4, none⟩ = some (.int .i64 i.c.m) := by rw [← hW]; simp [go_sem]
    have q0_5 : W.cell? ⟨w.heap.size, 5, none⟩ = some (.int .i64 i.c.r) := by rw [← hW]; simp [go_sem]
    have q0_6 : W.cell? ⟨w.heap.size, 6, none⟩ = some (.bool n) := by rw [← hW]; simp [go_sem]
    have q0_7 : W.cell? ⟨w.heap.size, 7, none⟩ = some (.slice A l.length c) := by rw [← hW]; simp [go_sem]
    have q1_0 : W.cell? ⟨w.heap.size + 1, 0, none⟩ = some (.bool false) := by rw [← hW]; simp [go_sem]
    have q1_1 : W.cell? ⟨w.heap.size + 1, 1, none⟩ = some (.int .i64 0) := by rw [← hW]; simp [go_sem]
    have q1_2 : W.cell? ⟨w.heap.size + 1, 2, none⟩ = some (.int .i64 0) := by rw [← hW]; simp [go_sem]
    have q1_3 : W.cell? ⟨w.heap.size + 1, 3, none⟩ = some (.bool false) := by rw [← hW]; simp [go_sem]
    have q1_4 : W.cell? ⟨w.heap.size + 1, 4, none⟩ = some (.int .i64 0) := by rw [← hW]; simp [go_sem]
    have q1_5 : W.cell? ⟨w.heap.size + 1, 5, none⟩ = some (.int .i64 0) := by rw [← hW]; simp [go_sem]
    have q1_6 : W.cell? ⟨w.heap.size + 1, 6, none⟩ = some (.bool false) := by rw [← hW]; simp [go_sem]
    have q1_7 : W.cell? ⟨w.heap.size + 1, 7, none⟩ = some (.slice none 0 0) := by rw [← hW]; simp [go_sem]
    have f0 : ∀ o, W.frozen? ⟨w.heap.size, o, none⟩ = false := by intro o; rw [← hW]; simp [go_sem]
    have f1 : ∀ o, W.frozen? ⟨w.heap.size + 1, o, none⟩ = false := by intro o; rw [← hW]; simp [go_sem]
    have k0 : W.heap[w.heap.size]? = some (.cells #[.bool i.s.s, .int .i64 i.s.lo, .int .i64 i.s.hi, .bool i.c.s, .int .i64 i.c.m, .int .i64 i.c.r, .bool n, .slice A l.length c] 30 (0, 0)) := by rw [← hW]; rw [al_old _ _ (by (repeat rw [al_size]); omega)]; exact al_new _ _ (by (repeat rw [al_size]) <;> rfl)
    have k1 : W.heap[w.heap.size + 1]? = some (.cells #[.bool false, .int .i64 0, .int .i64 0, .bool false, .int .i64 0, .int .i64 0, .bool false, .slice none 0 0] 30 (0, 0)) := by rw [← hW]; exact al_new _ _ (by (repeat rw [al_size]) <;> rfl)
    have z0 : w.heap.size < W.heap.size := by rw [← hW]; first | (simp; done) | (simp; omega)
    have z1 : w.heap.size + 1 < W.heap.size := by rw [← hW]; first | (simp; done) | (simp; omega)
    have HW : Below w.heap.size w W := by rw [← hW]; exact (by repeat (first | (with_reducible assumption) | (with_reducible exact Below.refl _ _) | (with_reducible refine Below.alloc ?_ (by first | omega | (simp; omega) | (simp; done) | (dsimp only; omega)) _) | (with_reducible refine Below.setCell ?_ (by first | omega | (simp; omega) | (simp; done) | (dsimp only; omega)) _) | (with_reducible refine Below.drew ?_) | (with_reducible refine Below.trans ?_ (Below.mono (by assumption) (by first | omega | (simp; omega) | (simp; done) | (dsimp only; omega))))))
    clear hW
    go_wp2_with fail
    go_at_call 27
    refine (HC.out _ HW).mono ?_
    rintro e w2 ⟨⟨A2, c2, rfl, hM⟩, hb2⟩
    have hzW : w.heap.size + 2 ≤ W.heap.size := by omega
    replace k0 := (hb2.block _ z0).trans k0
    replace k1 := (hb2.block _ z1).trans k1
    replace f0 := fun o => (hb2.frozen (p := ⟨w.heap.size, o, none⟩) z0).trans (f0 o)
    replace q0_0 := (hb2.cell (p := ⟨w.heap.size, 0, none⟩) z0).trans q0_0
    replace q0_1 := (hb2.cell (p := ⟨w.heap.size, 1, none⟩) z0).trans q0_1
    replace q0_2 := (hb2.cell (p := ⟨w.heap.size, 2, none⟩) z0).trans q0_2
    replace q0_3 := (hb2.cell (p := ⟨w.heap.size, 3, none⟩) z0).trans q0_3
    replace q0_4 := (hb2.cell (p := ⟨w.heap.size, 4, none⟩) z0).trans q0_4
    replace q0_5 := (hb2.cell (p := ⟨w.heap.size, 5, none⟩) z0).trans q0_5
    replace q0_6 := (hb2.cell (p := ⟨w.heap.size, 6, none⟩) z0).trans q0_6
    replace q0_7 := (hb2.cell (p := ⟨w.heap.size, 7, none⟩) z0).trans q0_7
    replace q1_0 := (hb2.cell (p := ⟨w.heap.size + 1, 0, none⟩) z1).trans q1_0
    replace q1_1 := (hb2.cell (p := ⟨w.heap.size + 1, 1, none⟩) z1).trans q1_1
    replace q1_2 := (hb2.cell (p := ⟨w.heap.size + 1, 2, none⟩) z1).trans q1_2
    replace q1_3 := (hb2.cell (p := ⟨w.heap.size + 1, 3, none⟩) z1).trans q1_3
    replace q1_4 := (hb2.cell (p := ⟨w.heap.size + 1, 4, none⟩) z1).trans q1_4
    replace q1_5 := (hb2.cell (p := ⟨w.heap.size + 1, 5, none⟩) z1).trans q1_5
    replace q1_6 := (hb2.cell (p := ⟨w.heap.size + 1, 6, none⟩) z1).trans q1_6
    replace q1_7 := (hb2.cell (p := ⟨w.heap.size + 1, 7, none⟩) z1).trans q1_7
    replace z0 := Nat.lt_of_lt_of_le z0 hb2.size
    replace z1 := Nat.lt_of_lt_of_le z1 hb2.size
    have HW2 := HW.trans (hb2.mono HW.size)
    have K0 := Lib.hid k0; have K1 := Lib.hid k1
    clear k0 k1 f1 hb2
    go_upto_region 2 with fail
    simp only [st8_fold]
    generalize hY : st8 w2 w.heap.size (.bool true) (.int .i64 slo) (.int .i64 shi) (.bool true) (.int .i64 cm) (.int .i64 cr) (.bool n) (.slice A2 (srt l).length c2) = Y
    have kv : Y.heap[w.heap.size]? = some (.cells #[.bool true, .int .i64 slo, .int .i64 shi, .bool true, .int .i64 cm, .int .i64 cr, .bool n, .slice A2 (srt l).length c2] 30) := by rw [← hY]; exact st8_blk K0.out
    have kr : Y.heap[w.heap.size + 1]? = some (.cells #[.bool false, .int .i64 0, .int .i64 0, .bool false, .int .i64 0, .int .i64 0, .bool false, .slice none 0 0] 30) := by rw [← hY]; exact (st8_far _ _ (by omega)).trans K1.out
    have HY : Below w.heap.size w Y := by rw [← hY]; exact st8_below HW2 (Nat.le_refl _)
    have hM1 : MadeV (w.heap.size + 2) Y A2 c2 (srt l) := by
      rw [← hY]; unfold st8
      iterate 8 refine MadeV.setCell ?_ (by omega) _
      exact hM.base hzW
    clear hY hM K0 K1 HW2 f0 q0_0 q0_1 q0_2 q0_3 q0_4 q0_5 q0_6 q0_7 q1_0 q1_1 q1_2 q1_3 q1_4 q1_5 q1_6 q1_7 z0 z1 HW hzW
    have v_0 := blk_cell kv 0
    have v_1 := blk_cell kv 1
    have v_2 := blk_cell kv 2
    have v_3 := blk_cell kv 3
    have v_4 := blk_cell kv 4
    have v_5 := blk_cell kv 5
    have v_6 := blk_cell kv 6
    have v_7 := blk_cell kv 7
    simp only [List.getElem?_toArray, List.getElem?_cons_zero, List.getElem?_cons_succ] at v_0 v_1 v_2 v_3 v_4 v_5 v_6 v_7
    have fv := blk_free kv
    have zv := blk_lt kv
    have zr := blk_lt kr
    go_upto_region 3 with fail
    have kn := al_new Y (.cells #[.bool false, .int .i64 0, .int .i64 0, .bool false, .int .i64 0, .int .i64 0, .bool n, .slice A2 (srt l).length c2] 30) rfl
    have HV : Below Y.heap.size Y (Y.alloc (.cells #[.bool false, .int .i64 0, .int .i64 0, .bool false, .int .i64 0, .int .i64 0, .bool n, .slice A2 (srt l).length c2] 30)) := (by repeat (first | (with_reducible assumption) | (with_reducible exact Below.refl _ _) | (with_reducible refine Below.alloc ?_ (by first | omega | (simp; omega) | (simp; done) | (dsimp only; omega)) _) | (with_reducible refine Below.setCell ?_ (by first | omega | (simp; omega) | (simp; done) | (dsimp only; omega)) _) | (with_reducible refine Below.drew ?_) | (with_reducible refine Below.trans ?_ (Below.mono (by assumption) (by first | omega | (simp; omega) | (simp; done) | (dsimp only; omega))))))
    generalize Y.alloc (.cells #[.bool false, .int .i64 0, .int .i64 0, .bool false, .int .i64 0, .int .i64 0, .bool n, .slice A2 (srt l).length c2] 30) = V at *
    replace kv := (HV.block _ zv).trans kv
    replace kr := (HV.block _ zr).trans kr
    have hM2 := hM1.mono HV
    have HB := HY.trans (HV.mono HY.size)
    clear v_0 v_1 v_2 v_3 v_4 v_5 v_6 v_7 fv zv zr hM1 HV HY
    have v_0 := blk_cell kv 0
    have v_1 := blk_cell kv 1
    have v_2 := blk_cell kv 2
    have v_3 := blk_cell kv 3
    have v_4 := blk_cell kv 4
    have v_5 := blk_cell kv 5
    have v_6 := blk_cell kv 6
    have v_7 := blk_cell kv 7
    simp only [List.getElem?_toArray, List.getElem?_cons_zero, List.getElem?_cons_succ] at v_0 v_1 v_2 v_3 v_4 v_5 v_6 v_7
    have fv := blk_free kv
    have zv := blk_lt kv
    have r_0 := blk_cell kr 0
    have r_1 := blk_cell kr 1
    have r_2 := blk_cell kr 2
    have r_3 := blk_cell kr 3
    have r_4 := blk_cell kr 4
    have r_5 := blk_cell kr 5
    have r_6 := blk_cell kr 6
    have r_7 := blk_cell kr 7
    simp only [List.getElem?_toArray, List.getElem?_cons_zero, List.getElem?_cons_succ] at r_0 r_1 r_2 r_3 r_4 r_5 r_6 r_7
    have fr := blk_free kr
    have zr := blk_lt kr
    have m_0 := blk_cell kn 0
    have m_1 := blk_cell kn 1
    have m_2 := blk_cell kn 2
    have m_3 := blk_cell kn 3
    have m_4 := blk_cell kn 4
    have m_5 := blk_cell kn 5
    have m_6 := blk_cell kn 6
    have m_7 := blk_cell kn 7
    simp only [List.getElem?_toArray, List.getElem?_cons_zero, List.getElem?_cons_succ] at m_0 m_1 m_2 m_3 m_4 m_5 m_6 m_7
    have fm := blk_free kn
    have zm := blk_lt kn
    go_upto_region 5 with fail
    refine region_seq (S := fun w' => Below V.heap.size V w') rfl (by kernel_rfl) (by kernel_rfl) (by repeat (first | (with_reducible assumption) | (with_reducible exact Below.refl _ _) | (with_reducible refine Below.alloc ?_ (by first | omega | (simp; omega) | (simp; done) | (dsimp only; omega)) _) | (with_reducible refine Below.setCell ?_ (by first | omega | (simp; omega) | (simp; done) | (dsimp only; omega)) _) | (with_reducible refine Below.drew ?_) | (with_reducible refine Below.trans ?_ (Below.mono (by assumption) (by first | omega | (simp; omega) | (simp; done) | (dsimp only; omega)))))) (fun fin hfin => ?_)
    iterate 8
      first
        | (refine SeqL.yes (v := ?_) (A' := ?_) rfl (by rfl) ?_ ?_ ?_
           rotate_left 2
           · intro w' K hS hK
             obtain ⟨hc, hf⟩ := bcell hS
             have hz := hS.size
             go_simp
             first
               | exact hK.out _ hS
               | trace_state
           · simp only [Act.put, List.setIfInBounds_toArray, List.set_cons_zero, List.set_cons_succ]; exact rfl)
        | (refine SeqL.no (A' := ?_) rfl (by rfl) ?_ ?_
           rotate_left
           · simp only [Act.put, List.setIfInBounds_toArray, List.set_cons_zero, List.set_cons_succ]; exact rfl)
    refine SeqL.nil (hfin.out _ ?_)
    clear hfin fin
    intro w1 hS1
    replace kv := (hS1.block _ zv).trans kv
    replace kr := (hS1.block _ zr).trans kr
    replace kn := (hS1.block _ zm).trans kn
    replace hM2 := hM2.mono hS1
    replace HB := HB.trans (hS1.mono HB.size)
    clear v_0 v_1 v_2 v_3 v_4 v_5 v_6 v_7 fv zv r_0 r_1 r_2 r_3 r_4 r_5 r_6 r_7 fr zr m_0 m_1 m_2 m_3 m_4 m_5 m_6 m_7 fm zm
    have v_0 := blk_cell kv 0
    have v_1 := blk_cell kv 1
    have v_2 := blk_cell kv 2
    have v_3 := blk_cell kv 3
    have v_4 := blk_cell kv 4
    have v_5 := blk_cell kv 5
    have v_6 := blk_cell kv 6
    have v_7 := blk_cell kv 7
    simp only [List.getElem?_toArray, List.getElem?_cons_zero, List.getElem?_cons_succ] at v_0 v_1 v_2 v_3 v_4 v_5 v_6 v_7
    have fv := blk_free kv
    have zv := blk_lt kv
    have r_0 := blk_cell kr 0
    have r_1 := blk_cell kr 1
    have r_2 := blk_cell kr 2
    have r_3 := blk_cell kr 3
    have r_4 := blk_cell kr 4
    have r_5 := blk_cell kr 5
    have r_6 := blk_cell kr 6
    have r_7 := blk_cell kr 7
    simp only [List.getElem?_toArray, List.getElem?_cons_zero, List.getElem?_cons_succ] at r_0 r_1 r_2 r_3 r_4 r_5 r_6 r_7
    have fr := blk_free kr
    have zr := blk_lt kr
    have m_0 := blk_cell kn 0
    have m_1 := blk_cell kn 1
    have m_2 := blk_cell kn 2
    have m_3 := blk_cell kn 3
    have m_4 := blk_cell kn 4
    have m_5 := blk_cell kn 5
    have m_6 := blk_cell kn 6
    have m_7 := blk_cell kn 7
    simp only [List.getElem?_toArray, List.getElem?_cons_zero, List.getElem?_cons_succ] at m_0 m_1 m_2 m_3 m_4 m_5 m_6 m_7
    have fm := blk_free kn
    have zm := blk_lt kn
    clear hS1
    go_upto_region 11 with fail
    refine region_seq (S := fun w' => Below w1.heap.size w1 w') rfl (by kernel_rfl) (by kernel_rfl) (by repeat (first | (with_reducible assumption) | (with_reducible exact Below.refl _ _) | (with_reducible refine Below.alloc ?_ (by first | omega | (simp; omega) | (simp; done) | (dsimp only; omega)) _) | (with_reducible refine Below.setCell ?_ (by first | omega | (simp; omega) | (simp; done) | (dsimp only; omega)) _) | (with_reducible refine Below.drew ?_) | (with_reducible refine Below.trans ?_ (Below.mono (by assumption) (by first | omega | (simp; omega) | (simp; done) | (dsimp only; omega)))))) (fun fin hfin => ?_)
    iterate 14
      first
        | (refine SeqL.yes (v := ?_) (A' := ?_) rfl (by rfl) ?_ ?_ ?_
           rotate_left 2
           · intro w' K hS hK
             obtain ⟨hc, hf⟩ := bcell hS
             have hz := hS.size
             go_simp
             first
               | exact hK.out _ hS
               | (go_at_call 31; (with_reducible refine (HO1.out _).mono ?_); rintro e w1 ⟨rfl, hb1⟩; exact hK.out _ (hS.trans (hb1.mono hz)))
               | (go_at_call 32; (with_reducible refine (HF1.out _).mono ?_); rintro e w1 ⟨rfl, hb1⟩; exact hK.out _ (hS.trans (hb1.mono hz)))
               | (go_at_call 31; (with_reducible refine (HO2.out _).mono ?_); rintro e w1 ⟨rfl, hb1⟩; exact hK.out _ (hS.trans (hb1.mono hz)))
               | (go_at_call 30; (with_reducible refine (HA.out _).mono ?_); rintro e w1 ⟨rfl, hb1⟩; exact hK.out _ (hS.trans (hb1.mono hz)))
               | (go_at_call 29; (with_reducible refine (HI1.out _).mono ?_); rintro e w1 ⟨rfl, hb1⟩; exact hK.out _ (hS.trans (hb1.mono hz)))
               | trace_state
           · simp only [Act.put, List.setIfInBounds_toArray, List.set_cons_zero, List.set_cons_succ]; exact rfl)
        | (refine SeqL.no (A' := ?_) rfl (by rfl) ?_ ?_
           rotate_left
           · simp only [Act.put, List.setIfInBounds_toArray, List.set_cons_zero, List.set_cons_succ]; exact rfl)
    refine SeqL.nil (hfin.out _ ?_)
    clear hfin fin
    intro w1 hS1
    replace kv := (hS1.block _ zv).trans kv
    replace kr := (hS1.block _ zr).trans kr
    replace kn := (hS1.block _ zm).trans kn
    replace hM2 := hM2.mono hS1
    replace HB := HB.trans (hS1.mono HB.size)
    clear v_0 v_1 v_2 v_3 v_4 v_5 v_6 v_7 fv zv r_0 r_1 r_2 r_3 r_4 r_5 r_6 r_7 fr zr m_0 m_1 m_2 m_3 m_4 m_5 m_6 m_7 fm zm
    have v_0 := blk_cell kv 0
    have v_1 := blk_cell kv 1
    have v_2 := blk_cell kv 2
    have v_3 := blk_cell kv 3
    have v_4 := blk_cell kv 4
    have v_5 := blk_cell kv 5
    have v_6 := blk_cell kv 6
    have v_7 := blk_cell kv 7
    simp only [List.getElem?_toArray, List.getElem?_cons_zero, List.getElem?_cons_succ] at v_0 v_1 v_2 v_3 v_4 v_5 v_6 v_7
    have fv := blk_free kv
    have zv := blk_lt kv
    have r_0 := blk_cell kr 0
    have r_1 := blk_cell kr 1
    have r_2 := blk_cell kr 2
    have r_3 := blk_cell kr 3
    have r_4 := blk_cell kr 4
    have r_5 := blk_cell kr 5
    have r_6 := blk_cell kr 6
    have r_7 := blk_cell kr 7
    simp only [List.getElem?_toArray, List.getElem?_cons_zero, List.getElem?_cons_succ] at r_0 r_1 r_2 r_3 r_4 r_5 r_6 r_7
    have fr := blk_free kr
    have zr := blk_lt kr
    have m_0 := blk_cell kn 0
    have m_1 := blk_cell kn 1
    have m_2 := blk_cell kn 2
    have m_3 := blk_cell kn 3
    have m_4 := blk_cell kn 4
    have m_5 := blk_cell kn 5
    have m_6 := blk_cell kn 6
    have m_7 := blk_cell kn 7
    simp only [List.getElem?_toArray, List.getElem?_cons_zero, List.getElem?_cons_succ] at m_0 m_1 m_2 m_3 m_4 m_5 m_6 m_7
    have fm := blk_free kn
    have zm := blk_lt kn
    clear hS1
    go_upto_region 12 with fail
    refine region_seq (S := fun w' => Below w1.heap.size w1 w') rfl (by kernel_rfl) (by kernel_rfl) (by repeat (first | (with_reducible assumption) | (with_reducible exact Below.refl _ _) | (with_reducible refine Below.alloc ?_ (by first | omega | (simp; omega) | (simp; done) | (dsimp only; omega)) _) | (with_reducible refine Below.setCell ?_ (by first | omega | (simp; omega) | (simp; done) | (dsimp only; omega)) _) | (with_reducible refine Below.drew ?_) | (with_reducible refine Below.trans ?_ (Below.mono (by assumption) (by first | omega | (simp; omega) | (simp; done) | (dsimp only; omega)))))) (fun fin hfin => ?_)
    iterate 14
      first
        | (refine SeqL.yes (v := ?_) (A' := ?_) rfl (by rfl) ?_ ?_ ?_
           rotate_left 2
           · intro w' K hS hK
             obtain ⟨hc, hf⟩ := bcell hS
             have hz := hS.size
             go_simp
             first
               | exact hK.out _ hS
               | (go_at_call 31; (with_reducible refine (HO3.out _).mono ?_); rintro e w1 ⟨rfl, hb1⟩; exact hK.out _ (hS.trans (hb1.mono hz)))
               | (go_at_call 32; (with_reducible refine (HF2.out _).mono ?_); rintro e w1 ⟨rfl, hb1⟩; exact hK.out _ (hS.trans (hb1.mono hz)))
               | (go_at_call 31; (with_reducible refine (HO4.out _).mono ?_); rintro e w1 ⟨rfl, hb1⟩; exact hK.out _ (hS.trans (hb1.mono hz)))
               | (go_at_call 33; (with_reducible refine (HB2.out _).mono ?_); rintro e w1 ⟨rfl, hb1⟩; exact hK.out _ (hS.trans (hb1.mono hz)))
               | (go_at_call 29; (with_reducible refine (HI2.out _).mono ?_); rintro e w1 ⟨rfl, hb1⟩; exact hK.out _ (hS.trans (hb1.mono hz)))
               | trace_state
           · simp only [Act.put, List.setIfInBounds_toArray, List.set_cons_zero, List.set_cons_succ]; exact rfl)
        | (refine SeqL.no (A' := ?_) rfl (by rfl) ?_ ?_
           rotate_left
           · simp only [Act.put, List.setIfInBounds_toArray, List.set_cons_zero, List.set_cons_succ]; exact rfl)
    refine SeqL.nil (hfin.out _ ?_)
    clear hfin fin
    intro w1 hS1
    replace kv := (hS1.block _ zv).trans kv
    replace kr := (hS1.block _ zr).trans kr
    replace kn := (hS1.block _ zm).trans kn
    replace hM2 := hM2.mono hS1
    replace HB := HB.trans (hS1.mono HB.size)
    clear v_0 v_1 v_2 v_3 v_4 v_5 v_6 v_7 fv zv r_0 r_1 r_2 r_3 r_4 r_5 r_6 r_7 fr zr m_0 m_1 m_2 m_3 m_4 m_5 m_6 m_7 fm zm
    have v_0 := blk_cell kv 0
    have v_1 := blk_cell kv 1
    have v_2 := blk_cell kv 2
    have v_3 := blk_cell kv 3
    have v_4 := blk_cell kv 4
    have v_5 := blk_cell kv 5
    have v_6 := blk_cell kv 6
    have v_7 := blk_cell kv 7
    simp only [List.getElem?_toArray, List.getElem?_cons_zero, List.getElem?_cons_succ] at v_0 v_1 v_2 v_3 v_4 v_5 v_6 v_7
    have fv := blk_free kv
    have zv := blk_lt kv
    have r_0 := blk_cell kr 0
    have r_1 := blk_cell kr 1
    have r_2 := blk_cell kr 2
    have r_3 := blk_cell kr 3
    have r_4 := blk_cell kr 4
    have r_5 := blk_cell kr 5
    have r_6 := blk_cell kr 6
    have r_7 := blk_cell kr 7
    simp only [List.getElem?_toArray, List.getElem?_cons_zero, List.getElem?_cons_succ] at r_0 r_1 r_2 r_3 r_4 r_5 r_6 r_7
    have fr := blk_free kr
    have zr := blk_lt kr
    have m_0 := blk_cell kn 0
    have m_1 := blk_cell kn 1
    have m_2 := blk_cell kn 2
    have m_3 := blk_cell kn 3
    have m_4 := blk_cell kn 4
    have m_5 := blk_cell kn 5
    have m_6 := blk_cell kn 6
    have m_7 := blk_cell kn 7
    simp only [List.getElem?_toArray, List.getElem?_cons_zero, List.getElem?_cons_succ] at m_0 m_1 m_2 m_3 m_4 m_5 m_6 m_7
    have fm := blk_free kn
    have zm := blk_lt kn
    clear hS1
    go_upto_region 18 with fail
    have kc := al_new w1 (.cells #[.bool true, .int .i64 cm, .int .i64 cr] 25) rfl
    have HU : Below w1.heap.size w1 (w1.alloc (.cells #[.bool true, .int .i64 cm, .int .i64 cr] 25)) := (by repeat (first | (with_reducible assumption) | (with_reducible exact Below.refl _ _) | (with_reducible refine Below.alloc ?_ (by first | omega | (simp; omega) | (simp; done) | (dsimp only; omega)) _) | (with_reducible refine Below.setCell ?_ (by first | omega | (simp; omega) | (simp; done) | (dsimp only; omega)) _) | (with_reducible refine Below.drew ?_) | (with_reducible refine Below.trans ?_ (Below.mono (by assumption) (by first | omega | (simp; omega) | (simp; done) | (dsimp only; omega))))))
    generalize w1.alloc (.cells #[.bool true, .int .i64 cm, .int .i64 cr] 25) = U at *
    have s_0 := blk_cell kc 0
    have s_1 := blk_cell kc 1
    have s_2 := blk_cell kc 2
    simp only [List.getElem?_toArray, List.getElem?_cons_zero, List.getElem?_cons_succ] at s_0 s_1 s_2
    have fs := blk_free kc
    have zs := blk_lt kc
    go_upto_region 20 with fail
    have kd := blk_set3 (v0 := .bool true) (v1 := .int .i64 0) (v2 := .int .i64 a) kc
    replace HU : Below w1.heap.size w1 (((U.setCell ⟨w1.heap.size, 0, none⟩ (.bool true)).setCell ⟨w1.heap.size, 1, none⟩ (.int .i64 0)).setCell ⟨w1.heap.size, 2, none⟩ (.int .i64 a)) := (by repeat (first | (with_reducible assumption) | (with_reducible exact Below.refl _ _) | (with_reducible refine Below.alloc ?_ (by first | omega | (simp; omega) | (simp; done) | (dsimp only; omega)) _) | (with_reducible refine Below.setCell ?_ (by first | omega | (simp; omega) | (simp; done) | (dsimp only; omega)) _) | (with_reducible refine Below.drew ?_) | (with_reducible refine Below.trans ?_ (Below.mono (by assumption) (by first | omega | (simp; omega) | (simp; done) | (dsimp only; omega))))))
    generalize ((U.setCell ⟨w1.heap.size, 0, none⟩ (.bool true)).setCell ⟨w1.heap.size, 1, none⟩ (.int .i64 0)).setCell ⟨w1.heap.size, 2, none⟩ (.int .i64 a) = U2 at *
    replace kv := (HU.block _ zv).trans kv
    replace kr := (HU.block _ zr).trans kr
    replace kn := (HU.block _ zm).trans kn
    replace hM2 := hM2.mono HU
    replace HB := HB.trans (HU.mono HB.size)
    clear v_0 v_1 v_2 v_3 v_4 v_5 v_6 v_7 fv zv r_0 r_1 r_2 r_3 r_4 r_5 r_6 r_7 fr zr m_0 m_1 m_2 m_3 m_4 m_5 m_6 m_7 fm zm
    have v_0 := blk_cell kv 0
    have v_1 := blk_cell kv 1
    have v_2 := blk_cell kv 2
    have v_3 := blk_cell kv 3
    have v_4 := blk_cell kv 4
    have v_5 := blk_cell kv 5
    have v_6 := blk_cell kv 6
    have v_7 := blk_cell kv 7
    simp only [List.getElem?_toArray, List.getElem?_cons_zero, List.getElem?_cons_succ] at v_0 v_1 v_2 v_3 v_4 v_5 v_6 v_7
    have fv := blk_free kv
    have zv := blk_lt kv
    have r_0 := blk_cell kr 0
    have r_1 := blk_cell kr 1
    have r_2 := blk_cell kr 2
    have r_3 := blk_cell kr 3
    have r_4 := blk_cell kr 4
    have r_5 := blk_cell kr 5
    have r_6 := blk_cell kr 6
    have r_7 := blk_cell kr 7
    simp only [List.getElem?_toArray, List.getElem?_cons_zero, List.getElem?_cons_succ] at r_0 r_1 r_2 r_3 r_4 r_5 r_6 r_7
    have fr := blk_free kr
    have zr := blk_lt kr
    have m_0 := blk_cell kn 0
    have m_1 := blk_cell kn 1
    have m_2 := blk_cell kn 2
    have m_3 := blk_cell kn 3
    have m_4 := blk_cell kn 4
    have m_5 := blk_cell kn 5
    have m_6 := blk_cell kn 6
    have m_7 := blk_cell kn 7
    simp only [List.getElem?_toArray, List.getElem?_cons_zero, List.getElem?_cons_succ] at m_0 m_1 m_2 m_3 m_4 m_5 m_6 m_7
    have fm := blk_free kn
    have zm := blk_lt kn
    clear HU
    clear s_0 s_1 s_2 fs zs kc m_0 m_1 m_2 m_3 m_4 m_5 m_6 m_7 fm zm v_0 v_1 v_2 v_3 v_4 v_5 r_0 r_1 r_2 r_3 r_4 r_5 r_6 r_7 fr kn
    have s_0 := blk_cell kd 0
    have s_1 := blk_cell kd 1
    have s_2 := blk_cell kd 2
    simp only [List.getElem?_toArray, List.getElem?_cons_zero, List.getElem?_cons_succ] at s_0 s_1 s_2
    have fs := blk_free kd
    have zs := blk_lt kd
    refine region_seqg (W := U2) [_, _, _, _, _, _, _] [_] rfl (by kernel_rfl) (by kernel_rfl) (by repeat (first | (with_reducible assumption) | (with_reducible exact Below.refl _ _) | (with_reducible refine Below.alloc ?_ (by first | omega | (simp; omega) | (simp; done) | (dsimp only; omega)) _) | (with_reducible refine Below.setCell ?_ (by first | omega | (simp; omega) | (simp; done) | (dsimp only; omega)) _) | (with_reducible refine Below.drew ?_) | (with_reducible refine Below.trans ?_ (Below.mono (by assumption) (by first | omega | (simp; omega) | (simp; done) | (dsimp only; omega)))))) (fun fin hfin => ?_)
    iterate 7
      first
        | (refine SeqG.yes (v := ?_) (A' := ?_) rfl (fun γ => by rfl) ?_ ?_ ?_
           rotate_left 2
           · intro γ w' K hS hK
             obtain ⟨hc, hf⟩ := bcell hS
             have hz := hS.size
             go_simp
             first
               | exact hK.out _ (Below.refl _ _)
               | (go_at_call 34; (with_reducible refine (HM.out _).mono ?_); rintro e w1 ⟨rfl, hb1⟩; exact hK.out _ hb1)
               | trace_state
           · intro γ; simp only [Act.put, List.setIfInBounds_toArray, List.set_cons_zero, List.set_cons_succ]; exact rfl)
        | (refine SeqG.no (A' := ?_) rfl (fun γ => by rfl) ?_ ?_
           rotate_left
           · intro γ; simp only [Act.put, List.setIfInBounds_toArray, List.set_cons_zero, List.set_cons_succ]; exact rfl)
    refine SeqG.nil (hfin.out _ _ ?_)
    clear hfin fin
    intro γ lo hi w1 hB1 hF hD
    clear hD
    replace kr := (hB1.block _ zr).trans kr
    replace hM2 := hM2.mono hB1
    replace HB := HB.trans (hB1.mono HB.size)
    clear v_6 v_7 fv zv zr s_0 s_1 s_2 fs zs hB1 hF kv kd
    have r_0 := blk_cell kr 0
    have r_1 := blk_cell kr 1
    have r_2 := blk_cell kr 2
    have r_3 := blk_cell kr 3
    have r_4 := blk_cell kr 4
    have r_5 := blk_cell kr 5
    have r_6 := blk_cell kr 6
    have r_7 := blk_cell kr 7
    simp only [List.getElem?_toArray, List.getElem?_cons_zero, List.getElem?_cons_succ] at r_0 r_1 r_2 r_3 r_4 r_5 r_6 r_7
    have fr := blk_free kr
    have zr := blk_lt kr
    refine TailL.cons (fun K hK => ?_)
    go_simp
    refine hK.out _ _ ?_
    clear hK K
    refine TailL.nil ?_
    go_wp2
    refine bodyPost_ret (by simp [results, Try.results8, go_sem, *] <;> rfl) rfl ⟨⟨A2, c2, rfl, (by (refine MadeV.base (b := w.heap.size + 2) ?_ (by omega)); (repeat refine MadeV.setCell ?_ (by first | omega | (simp; omega)) _); first | exact hM2 | exact hM2.base (by omega))⟩, (by repeat (first | (with_reducible assumption) | (with_reducible exact Below.refl _ _) | (with_reducible refine Below.alloc ?_ (by first | omega | (simp; omega) | (simp; done) | (dsimp only; omega)) _) | (with_reducible refine Below.setCell ?_ (by first | omega | (simp; omega) | (simp; done) | (dsimp only; omega)) _) | (with_reducible refine Below.drew ?_) | (with_reducible refine Below.trans ?_ (Below.mono (by assumption) (by first | omega | (simp; omega) | (simp; done) | (dsimp only; omega))))))⟩
  · rw [if_neg hab]
    dsimp only
    have hne : (a == b) = false := by simpa using hab
    clear hab
    go_enter Try.func8, Try.ntmps8
    go_upto_region 1 with fail
    generalize hW : ((w.alloc (.cells #[.bool i.s.s, .int .i64 i.s.lo, .int .i64 i.s.hi, .bool i.c.s, .int .i64 i.c.m, .int .i64 i.c.r, .bool n, .slice A l.length c] 30)).alloc (.cells #[.bool false, .int .i64 0, .int .i64 0, .bool false, .int .i64 0, .int .i64 0, .bool false, .slice none 0 0] 30)) = W
    have q0_0 : W.cell? ⟨w.heap.size, 0, none⟩ = some (.bool i.s.s) := by rw [← hW]; simp [go_sem]
    have q0_1 : W.cell? ⟨w.heap.size, 1, none⟩ = some (.int .i64 i.s.lo) := by rw [← hW]; simp [go_sem]
    have q0_2 : W.cell? ⟨w.heap.size, 2, none⟩ = some (.int .i64 i.s.hi) := by rw [← hW]; simp [go_sem]
    have q0_3 : W.cell? ⟨w.heap.size, 3, none⟩ = some (.bool i.c.s) := by rw [← hW]; simp [go_sem]
    have q0_4 : W.cell? ⟨w.heap.size, 4, none⟩ = some (.int .i64 i.c.m) := by rw [← hW]; simp [go_sem]
    have q0_5 : W.cell? ⟨w.heap.size, 5, none⟩ = some (.int .i64 i.c.r) := by rw [← hW]; simp [go_sem]
    have q0_6 : W.cell? ⟨w.heap.size, 6, none⟩ = some (.bool n) := by rw [← hW]; simp [go_sem]
    have q0_7 : W.cell? ⟨w.heap.size, 7, none⟩ = some (.slice A l.length c) := by rw [← hW]; simp [go_sem]
    have q1_0 : W.cell? ⟨w.heap.size + 1, 0, none⟩ = some (.bool false) := by rw [← hW]; simp [go_sem]
    have q1_1 : W.cell? ⟨w.heap.size + 1, 1, none⟩ = some (.int .i64 0) := by rw [← hW]; simp [go_sem]
    have q1_2 : W.cell? ⟨w.heap.size + 1, 2, none⟩ = some (.int .i64 0) := by rw [← hW]; simp [go_sem]
    have q1_3 : W.cell? ⟨w.heap.size + 1, 3, none⟩ = some (.bool false) := by rw [← hW]; simp [go_sem]
    have q1_4 : W.cell? ⟨w.heap.size + 1, 4, none⟩ = some (.int .i64 0) := by rw [← hW]; simp [go_sem]
    have q1_5 : W.cell? ⟨w.heap.size + 1, 5, none⟩ = some (.int .i64 0) := by rw [← hW]; simp [go_sem]
    have q1_6 : W.cell? ⟨w.heap.size + 1, 6, none⟩ = some (.bool false) := by rw [← hW]; simp [go_sem]
    have q1_7 : W.cell? ⟨w.heap.size + 1, 7, none⟩ = some (.slice none 0 0) := by rw [← hW]; simp [go_sem]
    have f0 : ∀ o, W.frozen? ⟨w.heap.size, o, none⟩ = false := by intro o; rw [← hW]; simp [go_sem]
    have f1 : ∀ o, W.frozen? ⟨w.heap.size + 1, o, none⟩ = false := by intro o; rw [← hW]; simp [go_sem]
    have k0 : W.heap[w.heap.size]? = some (.cells #[.bool i.s.s, .int .i64 i.s.lo, .int .i64 i.s.hi, .bool i.c.s, .int .i64 i.c.m, .int .i64 i.c.r, .bool n, .slice A l.length c] 30 (0, 0)) := by rw [← hW]; rw [al_old _ _ (by (repeat rw [al_size]); omega)]; exact al_new _ _ (by (repeat rw [al_size]) <;> rfl)
    have k1 : W.heap[w.heap.size + 1]? = some (.cells #[.bool false, .int .i64 0, .int .i64 0, .bool false, .int .i64 0, .int .i64 0, .bool false, .slice none 0 0] 30 (0, 0)) := by rw [← hW]; exact al_new _ _ (by (repeat rw [al_size]) <;> rfl)
    have z0 : w.heap.size < W.heap.size := by rw [← hW]; first | (simp; done) | (simp; omega)
    have z1 : w.heap.size + 1 < W.heap.size := by rw [← hW]; first | (simp; done) | (simp; omega)
    have HW : Below w.heap.size w W := by rw [← hW]; exact (by repeat (first | (with_reducible assumption) | (with_reducible exact Below.refl _ _) | (with_reducible refine Below.alloc ?_ (by first | omega | (simp; omega) | (simp; done) | (dsimp only; omega)) _) | (with_reducible refine Below.setCell ?_ (by first | omega | (simp; omega) | (simp; done) | (dsimp only; omega)) _) | (with_reducible refine Below.drew ?_) | (with_reducible refine Below.trans ?_ (Below.mono (by assumption) (by first | omega | (simp; omega) | (simp; done) | (dsimp only; omega))))))
    clear hW
    go_wp2_with fail
    go_at_call 27
    refine (HC.out _ HW).mono ?_
    rintro e w2 ⟨⟨A2, c2, rfl, hM⟩, hb2⟩
    have hzW : w.heap.size + 2 ≤ W.heap.size := by omega
    replace k0 := (hb2.block _ z0).trans k0
    replace k1 := (hb2.block _ z1).trans k1
    replace f0 := fun o => (hb2.frozen (p := ⟨w.heap.size, o, none⟩) z0).trans (f0 o)
    replace q0_0 := (hb2.cell (p := ⟨w.heap.size, 0, none⟩) z0).trans q0_0
    replace q0_1 := (hb2.cell (p := ⟨w.heap.size, 1, none⟩) z0).trans q0_1
    replace q0_2 := (hb2.cell (p := ⟨w.heap.size, 2, none⟩) z0).trans q0_2
    replace q0_3 := (hb2.cell (p := ⟨w.heap.size, 3, none⟩) z0).trans q0_3
    replace q0_4 := (hb2.cell (p := ⟨w.heap.size, 4, none⟩) z0).trans q0_4
    replace q0_5 := (hb2.cell (p := ⟨w.heap.size, 5, none⟩) z0).trans q0_5
    replace q0_6 := (hb2.cell (p := ⟨w.heap.size, 6, none⟩) z0).trans q0_6
    replace q0_7 := (hb2.cell (p := ⟨w.heap.size, 7, none⟩) z0).trans q0_7
    replace q1_0 := (hb2.cell (p := ⟨w.heap.size + 1, 0, none⟩) z1).trans q1_0
    replace q1_1 := (hb2.cell (p := ⟨w.heap.size + 1, 1, none⟩) z1).trans q1_1
    replace q1_2 := (hb2.cell (p := ⟨w.heap.size + 1, 2, none⟩) z1).trans q1_2
    replace q1_3 := (hb2.cell (p := ⟨w.heap.size + 1, 3, none⟩) z1).trans q1_3
    replace q1_4 := (hb2.cell (p := ⟨w.heap.size + 1, 4, none⟩) z1).trans q1_4
    replace q1_5 := (hb2.cell (p := ⟨w.heap.size + 1, 5, none⟩) z1).trans q1_5
    replace q1_6 := (hb2.cell (p := ⟨w.heap.size + 1, 6, none⟩) z1).trans q1_6
    replace q1_7 := (hb2.cell (p := ⟨w.heap.size + 1, 7, none⟩) z1).trans q1_7
    replace z0 := Nat.lt_of_lt_of_le z0 hb2.size
    replace z1 := Nat.lt_of_lt_of_le z1 hb2.size
    have HW2 := HW.trans (hb2.mono HW.size)
    have K0 := Lib.hid k0; have K1 := Lib.hid k1
    clear k0 k1 f1 hb2
    go_upto_region 2 with fail
    simp only [st8_fold]
    generalize hY : st8 w2 w.heap.size (.bool true) (.int .i64 slo) (.int .i64 shi) (.bool true) (.int .i64 cm) (.int .i64 cr) (.bool n) (.slice A2 (srt l).length c2) = Y
    have kv : Y.heap[w.heap.size]? = some (.cells #[.bool true, .int .i64 slo, .int .i64 shi, .bool true, .int .i64 cm, .int .i64 cr, .bool n, .slice A2 (srt l).length c2] 30) := by rw [← hY]; exact st8_blk K0.out
    have kr : Y.heap[w.heap.size + 1]? = some (.cells #[.bool false, .int .i64 0, .int .i64 0, .bool false, .int .i64 0, .int .i64 0, .bool false, .slice none 0 0] 30) := by rw [← hY]; exact (st8_far _ _ (by omega)).trans K1.out
    have HY : Below w.heap.size w Y := by rw [← hY]; exact st8_below HW2 (Nat.le_refl _)
    have hM1 : MadeV (w.heap.size + 2) Y A2 c2 (srt l) := by
      rw [← hY]; unfold st8
      iterate 8 refine MadeV.setCell ?_ (by omega) _
      exact hM.base hzW
    clear hY hM K0 K1 HW2 f0 q0_0 q0_1 q0_2 q0_3 q0_4 q0_5 q0_6 q0_7 q1_0 q1_1 q1_2 q1_3 q1_4 q1_5 q1_6 q1_7 z0 z1 HW hzW
    have v_0 := blk_cell kv 0
    have v_1 := blk_cell kv 1
    have v_2 := blk_cell kv 2
    have v_3 := blk_cell kv 3
    have v_4 := blk_cell kv 4
    have v_5 := blk_cell kv 5
    have v_6 := blk_cell kv 6
    have v_7 := blk_cell kv 7
    simp only [List.getElem?_toArray, List.getElem?_cons_zero, List.getElem?_cons_succ] at v_0 v_1 v_2 v_3 v_4 v_5 v_6 v_7
    have fv := blk_free kv
    have zv := blk_lt kv
    have zr := blk_lt kr
    go_upto_region 3 with fail
    have kn := al_new Y (.cells #[.bool false, .int .i64 0, .int .i64 0, .bool false, .int .i64 0, .int .i64 0, .bool n, .slice A2 (srt l).length c2] 30) rfl
    have HV : Below Y.heap.size Y (Y.alloc (.cells #[.bool false, .int .i64 0, .int .i64 0, .bool false, .int .i64 0, .int .i64 0, .bool n, .slice A2 (srt l).length c2] 30)) := (by repeat (first | (with_reducible assumption) | (with_reducible exact Below.refl _ _) | (with_reducible refine Below.alloc ?_ (by first | omega | (simp; omega) | (simp; done) | (dsimp only; omega)) _) | (with_reducible refine Below.setCell ?_ (by first | omega | (simp; omega) | (simp; done) | (dsimp only; omega)) _) | (with_reducible refine Below.drew ?_) | (with_reducible refine Below.trans ?_ (Below.mono (by assumption) (by first | omega | (simp; omega) | (simp; done) | (dsimp only; omega))))))
    generalize Y.alloc (.cells #[.bool false, .int .i64 0, .int .i64 0, .bool false, .int .i64 0, .int .i64 0, .bool n, .slice A2 (srt l).length c2] 30) = V at *
    replace kv := (HV.block _ zv).trans kv
    replace kr := (HV.block _ zr).trans kr
    have hM2 := hM1.mono HV
    have HB := HY.trans (HV.mono HY.size)
    clear v_0 v_1 v_2 v_3 v_4 v_5 v_6 v_7 fv zv zr hM1 HV HY
    have v_0 := blk_cell kv 0
    have v_1 := blk_cell kv 1
    have v_2 := blk_cell kv 2
    have v_3 := blk_cell kv 3
    have v_4 := blk_cell kv 4
    have v_5 := blk_cell kv 5
    have v_6 := blk_cell kv 6
    have v_7 := blk_cell kv 7
    simp only [List.getElem?_toArray, List.getElem?_cons_zero, List.getElem?_cons_succ] at v_0 v_1 v_2 v_3 v_4 v_5 v_6 v_7
    have fv := blk_free kv
    have zv := blk_lt kv
    have r_0 := blk_cell kr 0
    have r_1 := blk_cell kr 1
    have r_2 := blk_cell kr 2
    have r_3 := blk_cell kr 3
    have r_4 := blk_cell kr 4
    have r_5 := blk_cell kr 5
    have r_6 := blk_cell kr 6
    have r_7 := blk_cell kr 7
    simp only [List.getElem?_toArray, List.getElem?_cons_zero, List.getElem?_cons_succ] at r_0 r_1 r_2 r_3 r_4 r_5 r_6 r_7
    have fr := blk_free kr
    have zr := blk_lt kr
    have m_0 := blk_cell kn 0
    have m_1 := blk_cell kn 1
    have m_2 := blk_cell kn 2
    have m_3 := blk_cell kn 3
    have m_4 := blk_cell kn 4
    have m_5 := blk_cell kn 5
    have m_6 := blk_cell kn 6
    have m_7 := blk_cell kn 7
    simp only [List.getElem?_toArray, List.getElem?_cons_zero, List.getElem?_cons_succ] at m_0 m_1 m_2 m_3 m_4 m_5 m_6 m_7
    have fm := blk_free kn
    have zm := blk_lt kn
    go_upto_region 5 with fail
    refine region_seq (S := fun w' => Below V.heap.size V w') rfl (by kernel_rfl) (by kernel_rfl) (by repeat (first | (with_reducible assumption) | (with_reducible exact Below.refl _ _) | (with_reducible refine Below.alloc ?_ (by first | omega | (simp; omega) | (simp; done) | (dsimp only; omega)) _) | (with_reducible refine Below.setCell ?_ (by first | omega | (simp; omega) | (simp; done) | (dsimp only; omega)) _) | (with_reducible refine Below.drew ?_) | (with_reducible refine Below.trans ?_ (Below.mono (by assumption) (by first | omega | (simp; omega) | (simp; done) | (dsimp only; omega)))))) (fun fin hfin => ?_)
    iterate 8
      first
        | (refine SeqL.yes (v := ?_) (A' := ?_) rfl (by rfl) ?_ ?_ ?_
           rotate_left 2
           · intro w' K hS hK
             obtain ⟨hc, hf⟩ := bcell hS
             have hz := hS.size
             go_simp
             first
               | exact hK.out _ hS
               | trace_state
           · simp only [Act.put, List.setIfInBounds_toArray, List.set_cons_zero, List.set_cons_succ]; exact rfl)
        | (refine SeqL.no (A' := ?_) rfl (by rfl) ?_ ?_
           rotate_left
           · simp only [Act.put, List.setIfInBounds_toArray, List.set_cons_zero, List.set_cons_succ]; exact rfl)
    refine SeqL.nil (hfin.out _ ?_)
    clear hfin fin
    intro w1 hS1
    replace kv := (hS1.block _ zv).trans kv
    replace kr := (hS1.block _ zr).trans kr
    replace kn := (hS1.block _ zm).trans kn
    replace hM2 := hM2.mono hS1
    replace HB := HB.trans (hS1.mono HB.size)
    clear v_0 v_1 v_2 v_3 v_4 v_5 v_6 v_7 fv zv r_0 r_1 r_2 r_3 r_4 r_5 r_6 r_7 fr zr m_0 m_1 m_2 m_3 m_4 m_5 m_6 m_7 fm zm
    have v_0 := blk_cell kv 0
    have v_1 := blk_cell kv 1
    have v_2 := blk_cell kv 2
    have v_3 := blk_cell kv 3
    have v_4 := blk_cell kv 4
    have v_5 := blk_cell kv 5
    have v_6 := blk_cell kv 6
    have v_7 := blk_cell kv 7
    simp only [List.getElem?_toArray, List.getElem?_cons_zero, List.getElem?_cons_succ] at v_0 v_1 v_2 v_3 v_4 v_5 v_6 v_7
    have fv := blk_free kv
    have zv := blk_lt kv
    have r_0 := blk_cell kr 0
    have r_1 := blk_cell kr 1
    have r_2 := blk_cell kr 2
    have r_3 := blk_cell kr 3
    have r_4 := blk_cell kr 4
    have r_5 := blk_cell kr 5
    have r_6 := blk_cell kr 6
    have r_7 := blk_cell kr 7
    simp only [List.getElem?_toArray, List.getElem?_cons_zero, List.getElem?_cons_succ] at r_0 r_1 r_2 r_3 r_4 r_5 r_6 r_7
    have fr := blk_free kr
    have zr := blk_lt kr
    have m_0 := blk_cell kn 0
    have m_1 := blk_cell kn 1
    have m_2 := blk_cell kn 2
    have m_3 := blk_cell kn 3
    have m_4 := blk_cell kn 4
    have m_5 := blk_cell kn 5
    have m_6 := blk_cell kn 6
    have m_7 := blk_cell kn 7
    simp only [List.getElem?_toArray, List.getElem?_cons_zero, List.getElem?_cons_succ] at m_0 m_1 m_2 m_3 m_4 m_5 m_6 m_7
    have fm := blk_free kn
    have zm := blk_lt kn
    clear hS1
    go_upto_region 11 with fail
    refine region_seq (S := fun w' => Below w1.heap.size w1 w') rfl (by kernel_rfl) (by kernel_rfl) (by repeat (first | (with_reducible assumption) | (with_reducible exact Below.refl _ _) | (with_reducible refine Below.alloc ?_ (by first | omega | (simp; omega) | (simp; done) | (dsimp only; omega)) _) | (with_reducible refine Below.setCell ?_ (by first | omega | (simp; omega) | (simp; done) | (dsimp only; omega)) _) | (with_reducible refine Below.drew ?_) | (with_reducible refine Below.trans ?_ (Below.mono (by assumption) (by first | omega | (simp; omega) | (simp; done) | (dsimp only; omega)))))) (fun fin hfin => ?_)
    iterate 14
      first
        | (refine SeqL.yes (v := ?_) (A' := ?_) rfl (by rfl) ?_ ?_ ?_
           rotate_left 2
           · intro w' K hS hK
             obtain ⟨hc, hf⟩ := bcell hS
             have hz := hS.size
             go_simp
             first
               | exact hK.out _ hS
               | (go_at_call 31; (with_reducible refine (HO1.out _).mono ?_); rintro e w1 ⟨rfl, hb1⟩; exact hK.out _ (hS.trans (hb1.mono hz)))
               | (go_at_call 32; (with_reducible refine (HF1.out _).mono ?_); rintro e w1 ⟨rfl, hb1⟩; exact hK.out _ (hS.trans (hb1.mono hz)))
               | (go_at_call 31; (with_reducible refine (HO2.out _).mono ?_); rintro e w1 ⟨rfl, hb1⟩; exact hK.out _ (hS.trans (hb1.mono hz)))
               | (go_at_call 30; (with_reducible refine (HA.out _).mono ?_); rintro e w1 ⟨rfl, hb1⟩; exact hK.out _ (hS.trans (hb1.mono hz)))
               | (go_at_call 29; (with_reducible refine (HI1.out _).mono ?_); rintro e w1 ⟨rfl, hb1⟩; exact hK.out _ (hS.trans (hb1.mono hz)))
               | trace_state
           · simp only [Act.put, List.setIfInBounds_toArray, List.set_cons_zero, List.set_cons_succ]; exact rfl)
        | (refine SeqL.no (A' := ?_) rfl (by rfl) ?_ ?_
           rotate_left
           · simp only [Act.put, List.setIfInBounds_toArray, List.set_cons_zero, List.set_cons_succ]; exact rfl)
    refine SeqL.nil (hfin.out _ ?_)
    clear hfin fin
    intro w1 hS1
    replace kv := (hS1.block _ zv).trans kv
    replace kr := (hS1.block _ zr).trans kr
    replace kn := (hS1.block _ zm).trans kn
    replace hM2 := hM2.mono hS1
    replace HB := HB.trans (hS1.mono HB.size)
    clear v_0 v_1 v_2 v_3 v_4 v_5 v_6 v_7 fv zv r_0 r_1 r_2 r_3 r_4 r_5 r_6 r_7 fr zr m_0 m_1 m_2 m_3 m_4 m_5 m_6 m_7 fm zm
    have v_0 := blk_cell kv 0
    have v_1 := blk_cell kv 1
    have v_2 := blk_cell kv 2
    have v_3 := blk_cell kv 3
    have v_4 := blk_cell kv 4
    have v_5 := blk_cell kv 5
    have v_6 := blk_cell kv 6
    have v_7 := blk_cell kv 7
    simp only [List.getElem?_toArray, List.getElem?_cons_zero, List.getElem?_cons_succ] at v_0 v_1 v_2 v_3 v_4 v_5 v_6 v_7
    have fv := blk_free kv
    have zv := blk_lt kv
    have r_0 := blk_cell kr 0
    have r_1 := blk_cell kr 1
    have r_2 := blk_cell kr 2
    have r_3 := blk_cell kr 3
    have r_4 := blk_cell kr 4
    have r_5 := blk_cell kr 5
    have r_6 := blk_cell kr 6
    have r_7 := blk_cell kr 7
    simp only [List.getElem?_toArray, List.getElem?_cons_zero, List.getElem?_cons_succ] at r_0 r_1 r_2 r_3 r_4 r_5 r_6 r_7
    have fr := blk_free kr
    have zr := blk_lt kr
    have m_0 := blk_cell kn 0
    have m_1 := blk_cell kn 1
    have m_2 := blk_cell kn 2
    have m_3 := blk_cell kn 3
    have m_4 := blk_cell kn 4
    have m_5 := blk_cell kn 5
    have m_6 := blk_cell kn 6
    have m_7 := blk_cell kn 7
    simp only [List.getElem?_toArray, List.getElem?_cons_zero, List.getElem?_cons_succ] at m_0 m_1 m_2 m_3 m_4 m_5 m_6 m_7
    have fm := blk_free kn
    have zm := blk_lt kn
    clear hS1
    go_upto_region 12 with fail
    refine region_seq (S := fun w' => Below w1.heap.size w1 w') rfl (by kernel_rfl) (by kernel_rfl) (by repeat (first | (with_reducible assumption) | (with_reducible exact Below.refl _ _) | (with_reducible refine Below.alloc ?_ (by first | omega | (simp; omega) | (simp; done) | (dsimp only; omega)) _) | (with_reducible refine Below.setCell ?_ (by first | omega | (simp; omega) | (simp; done) | (dsimp only; omega)) _) | (with_reducible refine Below.drew ?_) | (with_reducible refine Below.trans ?_ (Below.mono (by assumption) (by first | omega | (simp; omega) | (simp; done) | (dsimp only; omega)))))) (fun fin hfin => ?_)
    iterate 14
      first
        | (refine SeqL.yes (v := ?_) (A' := ?_) rfl (by rfl) ?_ ?_ ?_
           rotate_left 2
           · intro w' K hS hK
             obtain ⟨hc, hf⟩ := bcell hS
             have hz := hS.size
             go_simp
             first
               | exact hK.out _ hS
               | (go_at_call 31; (with_reducible refine (HO3.out _).mono ?_); rintro e w1 ⟨rfl, hb1⟩; exact hK.out _ (hS.trans (hb1.mono hz)))
               | (go_at_call 32; (with_reducible refine (HF2.out _).mono ?_); rintro e w1 ⟨rfl, hb1⟩; exact hK.out _ (hS.trans (hb1.mono hz)))
               | (go_at_call 31; (with_reducible refine (HO4.out _).mono ?_); rintro e w1 ⟨rfl, hb1⟩; exact hK.out _ (hS.trans (hb1.mono hz)))
               | (go_at_call 33; (with_reducible refine (HB2.out _).mono ?_); rintro e w1 ⟨rfl, hb1⟩; exact hK.out _ (hS.trans (hb1.mono hz)))
               | (go_at_call 29; (with_reducible refine (HI2.out _).mono ?_); rintro e w1 ⟨rfl, hb1⟩; exact hK.out _ (hS.trans (hb1.mono hz)))
               | trace_state
           · simp only [Act.put, List.setIfInBounds_toArray, List.set_cons_zero, List.set_cons_succ]; exact rfl)
        | (refine SeqL.no (A' := ?_) rfl (by rfl) ?_ ?_
           rotate_left
           · simp only [Act.put, List.setIfInBounds_toArray, List.set_cons_zero, List.set_cons_succ]; exact rfl)
    refine SeqL.nil (hfin.out _ ?_)
    clear hfin fin
    intro w1 hS1
    replace kv := (hS1.block _ zv).trans kv
    replace kr := (hS1.block _ zr).trans kr
    replace kn := (hS1.block _ zm).trans kn
    replace hM2 := hM2.mono hS1
    replace HB := HB.trans (hS1.mono HB.size)
    clear v_0 v_1 v_2 v_3 v_4 v_5 v_6 v_7 fv zv r_0 r_1 r_2 r_3 r_4 r_5 r_6 r_7 fr zr m_0 m_1 m_2 m_3 m_4 m_5 m_6 m_7 fm zm
    have v_0 := blk_cell kv 0
    have v_1 := blk_cell kv 1
    have v_2 := blk_cell kv 2
    have v_3 := blk_cell kv 3
    have v_4 := blk_cell kv 4
    have v_5 := blk_cell kv 5
    have v_6 := blk_cell kv 6
    have v_7 := blk_cell kv 7
    simp only [List.getElem?_toArray, List.getElem?_cons_zero, List.getElem?_cons_succ] at v_0 v_1 v_2 v_3 v_4 v_5 v_6 v_7
    have fv := blk_free kv
    have zv := blk_lt kv
    have r_0 := blk_cell kr 0
    have r_1 := blk_cell kr 1
    have r_2 := blk_cell kr 2
    have r_3 := blk_cell kr 3
    have r_4 := blk_cell kr 4
    have r_5 := blk_cell kr 5
    have r_6 := blk_cell kr 6
    have r_7 := blk_cell kr 7
    simp only [List.getElem?_toArray, List.getElem?_cons_zero, List.getElem?_cons_succ] at r_0 r_1 r_2 r_3 r_4 r_5 r_6 r_7
    have fr := blk_free kr
    have zr := blk_lt kr
    have m_0 := blk_cell kn 0
    have m_1 := blk_cell kn 1
    have m_2 := blk_cell kn 2
    have m_3 := blk_cell kn 3
    have m_4 := blk_cell kn 4
    have m_5 := blk_cell kn 5
    have m_6 := blk_cell kn 6
    have m_7 := blk_cell kn 7
    simp only [List.getElem?_toArray, List.getElem?_cons_zero, List.getElem?_cons_succ] at m_0 m_1 m_2 m_3 m_4 m_5 m_6 m_7
    have fm := blk_free kn
    have zm := blk_lt kn
    clear hS1
    go_upto_region 18 with fail
    have kc := al_new w1 (.cells #[.bool true, .int .i64 cm, .int .i64 cr] 25) rfl
    have HU : Below w1.heap.size w1 (w1.alloc (.cells #[.bool true, .int .i64 cm, .int .i64 cr] 25)) := (by repeat (first | (with_reducible assumption) | (with_reducible exact Below.refl _ _) | (with_reducible refine Below.alloc ?_ (by first | omega | (simp; omega) | (simp; done) | (dsimp only; omega)) _) | (with_reducible refine Below.setCell ?_ (by first | omega | (simp; omega) | (simp; done) | (dsimp only; omega)) _) | (with_reducible refine Below.drew ?_) | (with_reducible refine Below.trans ?_ (Below.mono (by assumption) (by first | omega | (simp; omega) | (simp; done) | (dsimp only; omega))))))
    generalize w1.alloc (.cells #[.bool true, .int .i64 cm, .int .i64 cr] 25) = U at *
    have s_0 := blk_cell kc 0
    have s_1 := blk_cell kc 1
    have s_2 := blk_cell kc 2
    simp only [List.getElem?_toArray, List.getElem?_cons_zero, List.getElem?_cons_succ] at s_0 s_1 s_2
    have fs := blk_free kc
    have zs := blk_lt kc
    go_upto_region 20 with fail
    have kd := kc
    replace kv := (HU.block _ zv).trans kv
    replace kr := (HU.block _ zr).trans kr
    replace kn := (HU.block _ zm).trans kn
    replace hM2 := hM2.mono HU
    replace HB := HB.trans (HU.mono HB.size)
    clear v_0 v_1 v_2 v_3 v_4 v_5 v_6 v_7 fv zv r_0 r_1 r_2 r_3 r_4 r_5 r_6 r_7 fr zr m_0 m_1 m_2 m_3 m_4 m_5 m_6 m_7 fm zm
    have v_0 := blk_cell kv 0
    have v_1 := blk_cell kv 1
    have v_2 := blk_cell kv 2
    have v_3 := blk_cell kv 3
    have v_4 := blk_cell kv 4
    have v_5 := blk_cell kv 5
    have v_6 := blk_cell kv 6
    have v_7 := blk_cell kv 7
    simp only [List.getElem?_toArray, List.getElem?_cons_zero, List.getElem?_cons_succ] at v_0 v_1 v_2 v_3 v_4 v_5 v_6 v_7
    have fv := blk_free kv
    have zv := blk_lt kv
    have r_0 := blk_cell kr 0
    have r_1 := blk_cell kr 1
    have r_2 := blk_cell kr 2
    have r_3 := blk_cell kr 3
    have r_4 := blk_cell kr 4
    have r_5 := blk_cell kr 5
    have r_6 := blk_cell kr 6
    have r_7 := blk_cell kr 7
    simp only [List.getElem?_toArray, List.getElem?_cons_zero, List.getElem?_cons_succ] at r_0 r_1 r_2 r_3 r_4 r_5 r_6 r_7
    have fr := blk_free kr
    have zr := blk_lt kr
    have m_0 := blk_cell kn 0
    have m_1 := blk_cell kn 1
    have m_2 := blk_cell kn 2
    have m_3 := blk_cell kn 3
    have m_4 := blk_cell kn 4
    have m_5 := blk_cell kn 5
    have m_6 := blk_cell kn 6
    have m_7 := blk_cell kn 7
    simp only [List.getElem?_toArray, List.getElem?_cons_zero, List.getElem?_cons_succ] at m_0 m_1 m_2 m_3 m_4 m_5 m_6 m_7
    have fm := blk_free kn
    have zm := blk_lt kn
    clear HU
    clear s_0 s_1 s_2 fs zs kc m_0 m_1 m_2 m_3 m_4 m_5 m_6 m_7 fm zm v_0 v_1 v_2 v_3 v_4 v_5 r_0 r_1 r_2 r_3 r_4 r_5 r_6 r_7 fr kn
    have s_0 := blk_cell kd 0
    have s_1 := blk_cell kd 1
    have s_2 := blk_cell kd 2
    simp only [List.getElem?_toArray, List.getElem?_cons_zero, List.getElem?_cons_succ] at s_0 s_1 s_2
    have fs := blk_free kd
    have zs := blk_lt kd
    refine region_seqg (W := U) [_, _, _, _, _, _, _] [_] rfl (by kernel_rfl) (by kernel_rfl) (by repeat (first | (with_reducible assumption) | (with_reducible exact Below.refl _ _) | (with_reducible refine Below.alloc ?_ (by first | omega | (simp; omega) | (simp; done) | (dsimp only; omega)) _) | (with_reducible refine Below.setCell ?_ (by first | omega | (simp; omega) | (simp; done) | (dsimp only; omega)) _) | (with_reducible refine Below.drew ?_) | (with_reducible refine Below.trans ?_ (Below.mono (by assumption) (by first | omega | (simp; omega) | (simp; done) | (dsimp only; omega)))))) (fun fin hfin => ?_)
    iterate 7
      first
        | (refine SeqG.yes (v := ?_) (A' := ?_) rfl (fun γ => by rfl) ?_ ?_ ?_
           rotate_left 2
           · intro γ w' K hS hK
             obtain ⟨hc, hf⟩ := bcell hS
             have hz := hS.size
             go_simp
             first
               | exact hK.out _ (Below.refl _ _)
               | (go_at_call 34; (with_reducible refine (HM.out _).mono ?_); rintro e w1 ⟨rfl, hb1⟩; exact hK.out _ hb1)
               | trace_state
           · intro γ; simp only [Act.put, List.setIfInBounds_toArray, List.set_cons_zero, List.set_cons_succ]; exact rfl)
        | (refine SeqG.no (A' := ?_) rfl (fun γ => by rfl) ?_ ?_
           rotate_left
           · intro γ; simp only [Act.put, List.setIfInBounds_toArray, List.set_cons_zero, List.set_cons_succ]; exact rfl)
    refine SeqG.nil (hfin.out _ _ ?_)
    clear hfin fin
    intro γ lo hi w1 hB1 hF hD
    clear hD
    replace kr := (hB1.block _ zr).trans kr
    replace hM2 := hM2.mono hB1
    replace HB := HB.trans (hB1.mono HB.size)
    clear v_6 v_7 fv zv zr s_0 s_1 s_2 fs zs hB1 hF kv kd
    have r_0 := blk_cell kr 0
    have r_1 := blk_cell kr 1
    have r_2 := blk_cell kr 2
    have r_3 := blk_cell kr 3
    have r_4 := blk_cell kr 4
    have r_5 := blk_cell kr 5
    have r_6 := blk_cell kr 6
    have r_7 := blk_cell kr 7
    simp only [List.getElem?_toArray, List.getElem?_cons_zero, List.getElem?_cons_succ] at r_0 r_1 r_2 r_3 r_4 r_5 r_6 r_7
    have fr := blk_free kr
    have zr := blk_lt kr
    refine TailL.cons (fun K hK => ?_)
    go_simp
    refine hK.out _ _ ?_
    clear hK K
    refine TailL.nil ?_
    go_wp2
    refine bodyPost_ret (by simp [results, Try.results8, go_sem, *] <;> rfl) rfl ⟨⟨A2, c2, rfl, (by (refine MadeV.base (b := w.heap.size + 2) ?_ (by omega)); (repeat refine MadeV.setCell ?_ (by first | omega | (simp; omega)) _); first | exact hM2 | exact hM2.base (by omega))⟩, (by repeat (first | (with_reducible assumption) | (with_reducible exact Below.refl _ _) | (with_reducible refine Below.alloc ?_ (by first | omega | (simp; omega) | (simp; done) | (dsimp only; omega)) _) | (with_reducible refine Below.setCell ?_ (by first | omega | (simp; omega) | (simp; done) | (dsimp only; omega)) _) | (with_reducible refine Below.drew ?_) | (with_reducible refine Below.trans ?_ (Below.mono (by assumption) (by first | omega | (simp; omega) | (simp; done) | (dsimp only; omega))))))⟩

end Go.Proofs.Ytdpnphnafidpiaa
