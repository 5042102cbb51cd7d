/- Texts ValR, ValS, ValT. -/
import Derived.Test.YtdpnphnafidpiaaGreatValAC
import Derived.Test.YtdpnphnafidpiaaGreatRefE
import Derived.Test.YtdpnphnafidpiaaGreatValFG
/- X-PARTIAL What sondageref08.far returns: layer 8. -/
namespace Go.Proofs.YtdpnphnafidpiaaGreat
open Go.RowKit

/-- How far, of the size of a difference and its sign. -/
theorem far_pos {v m : Int} (h : 0 ≤ v) (_hm : 0 < m) : v.tmod m = v % m := Int.tmod_eq_emod_of_nonneg h
theorem far_neg {v m : Int} (hm : 0 < m) : v % m = if 0 < (-v) % m then m - (-v) % m else 0 := by
  have h0 := Int.emod_nonneg (-v) (show m ≠ 0 by omega)
  have h1 := Int.emod_lt_of_pos (-v) hm
  have d : m ∣ -v - (-v) % m := Int.dvd_self_sub_emod
  split
  · next h =>
    refine (mod_dvd (by omega) (by omega)).2 ?_
    have := Int.dvd_sub (Int.dvd_neg.2 d) (Int.dvd_refl m)
    rwa [show -(-v - (-v) % m) - m = v - (m - (-v) % m) by omega] at this
  · next h =>
    refine (mod_dvd (by omega) hm).2 ?_
    have := Int.dvd_neg.2 d
    rwa [show -(-v - (-v) % m) = v - 0 by omega] at this
theorem loW_small {v : Int} (h0 : 0 ≤ v) (h1 : v < 18446744073709551616) : loW v = v := by unfold loW M64; omega
end Go.Proofs.YtdpnphnafidpiaaGreat

/- X-PARTIAL What sondageref08.Clean returns: layer 8. -/
namespace Go.Proofs.YtdpnphnafidpiaaGreat
open Go.RowKit

set_option maxRecDepth 100000 in
set_option maxHeartbeats 8000000 in
theorem r8_Clean (i : In) (hi : i.ok) (n : Bool) (l : List Str) (A : Option Addr) (c : Nat) (w : World) (hm : (l.length + 1) * 16 ≤ 140737488355328) (hr : SRow w A l) :
    Calls Tryz.prog 29 #[.agg #[.bool i.s.s, .int .i64 i.s.lo, .int .i64 i.s.hi, .bool i.c.s, .int .i64 i.c.m, .int .i64 i.c.r, .bool n, .slice A l.length c]] w fun e w' => (∃ A' c', e = .returned (.agg #[.bool (i.clean).s.s, .int .i64 (i.clean).s.lo, .int .i64 (i.clean).s.hi, .bool (i.clean).c.s, .int .i64 (i.clean).c.m, .int .i64 (i.clean).c.r, .bool n, .slice A' (srt l).length c']) ∧ MadeV w.heap.size w' A' c' (srt l)) ∧ Below w.heap.size w w' := by
  have HC : Hid (∀ w', Below w.heap.size w w' → _) := Lib.hid (fun w' h => r7_Clean n l A c w' hm (hr.mono h))
  have h1 := r3_join i.s ⟨false, 0, 0⟩
  rw [Sp.join_zero] at h1
  dsimp only at h1
  have H2 := Lib.hid (r5_clean i.c hi.2.1)
  have hcs := Cg.clean_s i.c
  clear hi hr
  cases hn : i.none
  · obtain ⟨e1, e2⟩ := In.none_f hn
    rw [In.clean_f hn]
    rw [Sp.clean_some e1] at h1
    have es := ((Sp.none_iff _).1 e1).1
    rw [e2] at hcs
    generalize i.c.clean = cc at *
    obtain ⟨⟨ss0, slo, shi⟩, c0⟩ := i
    obtain ⟨cs, cm, cr⟩ := cc
    dsimp only at *
    subst es hcs
    have H1 := Lib.hid h1
    clear h1 hn e1 e2
    go_enter Tryz.func29, Tryz.ntmps29
    go_upto_region 1 with fail
    generalize hW : ((w.alloc (.cells #[.bool true, .int .i64 slo, .int .i64 shi, .bool c0.s, .int .i64 c0.m, .int .i64 c0.r, .bool n, .slice A l.length c] 30)).alloc (.cells #[.bool false, .int .i64 0, .int .i64 0, .bool false, .int .i64 0, .int .i64 0, .bool false, .slice none 0 0] 30)) = W
    have q0_0 : W.cell? ⟨w.heap.size, 0, none⟩ = some (.bool true) := by rw [← hW]; simp [go_sem]
    have q0_1 : W.cell? ⟨w.heap.size, 1, none⟩ = some (.int .i64 slo) := by rw [← hW]; simp [go_sem]
    have q0_2 : W.cell? ⟨w.heap.size, 2, none⟩ = some (.int .i64 shi) := by rw [← hW]; simp [go_sem]
    have q0_3 : W.cell? ⟨w.heap.size, 3, none⟩ = some (.bool c0.s) := by rw [← hW]; simp [go_sem]
    have q0_4 : W.cell? ⟨w.heap.size, 4, none⟩ = some (.int .i64 c0.m) := by rw [← hW]; simp [go_sem]
    have q0_5 : W.cell? ⟨w.heap.size, 5, none⟩ = some (.int .i64 c0.r) := by rw [← hW]; simp [go_sem]
    have q0_6 : W.cell? ⟨w.heap.size, 6, none⟩ = some (.bool n) := by rw [← hW]; simp [go_sem]
    have q0_7 : W.cell? ⟨w.heap.size, 7, none⟩ = some (.slice A l.length c) := by rw [← hW]; simp [go_sem]
    have q1_0 : W.cell? ⟨w.heap.size + 1, 0, none⟩ = some (.bool false) := by rw [← hW]; simp [go_sem]
    have q1_1 : W.cell? ⟨w.heap.size + 1, 1, none⟩ = some (.int .i64 0) := by rw [← hW]; simp [go_sem]
    have q1_2 : W.cell? ⟨w.heap.size + 1, 2, none⟩ = some (.int .i64 0) := by rw [← hW]; simp [go_sem]
    have q1_3 : W.cell? ⟨w.heap.size + 1, 3, none⟩ = some (.bool false) := by rw [← hW]; simp [go_sem]
    have q1_4 : W.cell? ⟨w.heap.size + 1, 4, none⟩ = some (.int .i64 0) := by rw [← hW]; simp [go_sem]
    have q1_5 : W.cell? ⟨w.heap.size + 1, 5, none⟩ = some (.int .i64 0) := by rw [← hW]; simp [go_sem]
    have q1_6 : W.cell? ⟨w.heap.size + 1, 6, none⟩ = some (.bool false) := by rw [← hW]; simp [go_sem]
    have q1_7 : W.cell? ⟨w.heap.size + 1, 7, none⟩ = some (.slice none 0 0) := by rw [← hW]; simp [go_sem]
    have f0 : ∀ o, W.frozen? ⟨w.heap.size, o, none⟩ = false := by intro o; rw [← hW]; simp [go_sem]
    have f1 : ∀ o, W.frozen? ⟨w.heap.size + 1, o, none⟩ = false := by intro o; rw [← hW]; simp [go_sem]
    have z0 : w.heap.size < W.heap.size := by rw [← hW]; first | (simp; done) | (simp; omega)
    have z1 : w.heap.size + 1 < W.heap.size := by rw [← hW]; first | (simp; done) | (simp; omega)
    have HW : Below w.heap.size w W := by rw [← hW]; exact (by repeat (first | (with_reducible assumption) | (with_reducible exact Below.refl _ _) | (with_reducible refine Below.alloc ?_ (by first | omega | (simp; omega) | (simp; done) | (dsimp only; omega)) _) | (with_reducible refine Below.setCell ?_ (by first | omega | (simp; omega) | (simp; done) | (dsimp only; omega)) _) | (with_reducible refine Below.drew ?_) | (with_reducible refine Below.trans ?_ (Below.mono (by assumption) (by first | omega | (simp; omega) | (simp; done) | (dsimp only; omega))))))
    clear hW
    refine region_seqg (W := W) [_, _, _, _, _, _, _, _, _] [_, _] rfl (by kernel_rfl) (by kernel_rfl) (by repeat (first | (with_reducible assumption) | (with_reducible exact Below.refl _ _) | (with_reducible refine Below.alloc ?_ (by first | omega | (simp; omega) | (simp; done) | (dsimp only; omega)) _) | (with_reducible refine Below.setCell ?_ (by first | omega | (simp; omega) | (simp; done) | (dsimp only; omega)) _) | (with_reducible refine Below.drew ?_) | (with_reducible refine Below.trans ?_ (Below.mono (by assumption) (by first | omega | (simp; omega) | (simp; done) | (dsimp only; omega)))))) (fun fin hfin => ?_)
    iterate 7
      first
        | (refine SeqG.yes (v := ?_) (A' := ?_) rfl (fun γ => by rfl) ?_ ?_ ?_
           rotate_left 2
           · intro γ w' K hS hK
             obtain ⟨hc, hf⟩ := bcell hS
             have hz := hS.size
             go_simp
             first
               | exact hK.out _ (Below.refl _ _)
               | (go_at_call 71; (with_reducible refine (H1.out _).mono ?_); rintro e w1 ⟨rfl, hb1⟩; exact hK.out _ hb1)
               | (go_at_call 18; (with_reducible refine (H2.out _).mono ?_); rintro e w1 ⟨rfl, hb1⟩; exact hK.out _ hb1)
               | trace_state
           · intro γ; simp only [Act.put, List.setIfInBounds_toArray, List.set_cons_zero, List.set_cons_succ]; exact rfl)
        | (refine SeqG.no (A' := ?_) rfl (fun γ => by rfl) ?_ ?_
           rotate_left
           · intro γ; simp only [Act.put, List.setIfInBounds_toArray, List.set_cons_zero, List.set_cons_succ]; exact rfl)
    refine SeqG.make (k := 7) (A' := ?_) (fun g => .pointer (some ⟨g 0, 0, none⟩)) (RCell #[.bool false, .int .i64 0, .int .i64 0] 23) rfl (fun γ => by rfl) (RCell.stable _ _) ?_ ?_ ?_
    rotate_left
    · intro γ w' K hS _ hK
      have hm := RCell.made (#[.bool false, .int .i64 0, .int .i64 0]) (23) w'
      have HK := Lib.hid (hK.out (fun _ => w'.heap.size) (w'.alloc (.cells #[.bool false, .int .i64 0, .int .i64 0] 23)) ((Below.refl _ _).alloc (Nat.le_refl _) _) hm); clear hK hm
      go_simp
      exact HK.out
    · intro γ; simp only [Act.put, List.setIfInBounds_toArray, List.set_cons_zero, List.set_cons_succ]; exact rfl
    refine SeqG.make (k := 8) (A' := ?_) (fun g => .pointer (some ⟨g 0, 0, none⟩)) (RCell #[.bool false, .int .i64 0, .int .i64 0] 25) rfl (fun γ => by rfl) (RCell.stable _ _) ?_ ?_ ?_
    rotate_left
    · intro γ w' K hS _ hK
      have hm := RCell.made (#[.bool false, .int .i64 0, .int .i64 0]) (25) w'
      have HK := Lib.hid (hK.out (fun _ => w'.heap.size) (w'.alloc (.cells #[.bool false, .int .i64 0, .int .i64 0] 25)) ((Below.refl _ _).alloc (Nat.le_refl _) _) hm); clear hK hm
      go_simp
      exact HK.out
    · intro γ; simp only [Act.put, List.setIfInBounds_toArray, List.set_cons_zero, List.set_cons_succ]; exact rfl
    refine SeqG.nil (hfin.out _ _ ?_)
    clear hfin fin
    intro γ lo hi w1 hB1 hF hD
    replace hF := listF2 hF
    dsimp only at hF
    replace hD := listD2 hD
    dsimp only at hD
    replace hD := hD (by decide)
    obtain ⟨⟨y4, l4, o4, p4, p4', h4⟩, ⟨y5, l5, o5, p5, p5', h5⟩⟩ := hF
    have w4 : W.heap.size ≤ γ 7 0 := by omega
    have w5 : W.heap.size ≤ γ 8 0 := by omega
    have x4 : γ 7 0 < w1.heap.size := by omega
    have x5 : γ 8 0 < w1.heap.size := by omega
    have n45 : γ 7 0 ≠ γ 8 0 := by omega
    clear hD y4 l4 o4 p4 p4' y5 l5 o5 p5 p5'
    generalize γ 7 0 = bp at *
    generalize γ 8 0 = bq at *
    have g4 := blk_cell h4
    have g5 := blk_cell h5
    have f4 := blk_free h4
    have f5 := blk_free h5
    have n54 := Ne.symm n45
    have HWH := Lib.hid (hB1.mono (Nat.le_refl _))
    refine TailL.cons (fun K hK => ?_)
    go_simp
    refine hK.out _ _ ?_
    clear hK K
    refine TailL.cons (fun K hK => ?_)
    go_simp
    refine hK.out _ _ ?_
    clear hK K
    refine TailL.nil ?_
    have kp : (((((w1.setCell ⟨bp, 0, none⟩ (.bool true)).setCell ⟨bp, 1, none⟩ (.int .i64 slo)).setCell ⟨bp, 2, none⟩ (.int .i64 shi)).setCell ⟨bq, 0, none⟩ (.bool true)).setCell ⟨bq, 1, none⟩ (.int .i64 cm)).setCell ⟨bq, 2, none⟩ (.int .i64 cr) |>.heap[bp]? = some (.cells #[.bool true, .int .i64 slo, .int .i64 shi] 23) := by
      (iterate 3 (refine (Below.heap_setCell _ _ _ _ (by dsimp only; omega)).trans ?_))
      exact blk_set3 h4
    have kq : (((((w1.setCell ⟨bp, 0, none⟩ (.bool true)).setCell ⟨bp, 1, none⟩ (.int .i64 slo)).setCell ⟨bp, 2, none⟩ (.int .i64 shi)).setCell ⟨bq, 0, none⟩ (.bool true)).setCell ⟨bq, 1, none⟩ (.int .i64 cm)).setCell ⟨bq, 2, none⟩ (.int .i64 cr) |>.heap[bq]? = some (.cells #[.bool true, .int .i64 cm, .int .i64 cr] 25) := by
      refine blk_set3 (c0 := .bool false) (c1 := .int .i64 0) (c2 := .int .i64 0) ?_
      (iterate 3 (refine (Below.heap_setCell _ _ _ _ (by dsimp only; omega)).trans ?_))
      exact h5
    have HX : Below W.heap.size W ((((((w1.setCell ⟨bp, 0, none⟩ (.bool true)).setCell ⟨bp, 1, none⟩ (.int .i64 slo)).setCell ⟨bp, 2, none⟩ (.int .i64 shi)).setCell ⟨bq, 0, none⟩ (.bool true)).setCell ⟨bq, 1, none⟩ (.int .i64 cm)).setCell ⟨bq, 2, none⟩ (.int .i64 cr)) := (by repeat (first | (with_reducible assumption) | (with_reducible exact Below.refl _ _) | (with_reducible refine Below.alloc ?_ (by first | omega | (simp; omega) | (simp; done) | (dsimp only; omega)) _) | (with_reducible refine Below.setCell ?_ (by first | omega | (simp; omega) | (simp; done) | (dsimp only; omega)) _) | (with_reducible refine Below.drew ?_) | (with_reducible refine Below.trans ?_ (Below.mono (by assumption) (by first | omega | (simp; omega) | (simp; done) | (dsimp only; omega))))))
    generalize (((((w1.setCell ⟨bp, 0, none⟩ (.bool true)).setCell ⟨bp, 1, none⟩ (.int .i64 slo)).setCell ⟨bp, 2, none⟩ (.int .i64 shi)).setCell ⟨bq, 0, none⟩ (.bool true)).setCell ⟨bq, 1, none⟩ (.int .i64 cm)).setCell ⟨bq, 2, none⟩ (.int .i64 cr) = X at *
    clear g4 g5 f4 f5 h4 h5 x4 x5 hB1 HWH
    have p_0 := blk_cell kp 0
    have p_1 := blk_cell kp 1
    have p_2 := blk_cell kp 2
    simp only [List.getElem?_toArray, List.getElem?_cons_zero, List.getElem?_cons_succ] at p_0 p_1 p_2
    have fp := blk_free kp
    have zp := blk_lt kp
    have q_0 := blk_cell kq 0
    have q_1 := blk_cell kq 1
    have q_2 := blk_cell kq 2
    simp only [List.getElem?_toArray, List.getElem?_cons_zero, List.getElem?_cons_succ] at q_0 q_1 q_2
    have fq := blk_free kq
    have zq := blk_lt kq
    go_upto_region 5 with fail
    replace f1 := fun o => (HX.frozen (p := ⟨w.heap.size + 1, o, none⟩) z1).trans (f1 o)
    have HWX := HW.trans (HX.mono (by omega))
    have zz : w.heap.size + 2 ≤ X.heap.size := by have := HX.size; omega
    replace q0_0 := (HX.cell (p := ⟨w.heap.size, 0, none⟩) z0).trans q0_0
    replace q0_1 := (HX.cell (p := ⟨w.heap.size, 1, none⟩) z0).trans q0_1
    replace q0_2 := (HX.cell (p := ⟨w.heap.size, 2, none⟩) z0).trans q0_2
    replace q0_3 := (HX.cell (p := ⟨w.heap.size, 3, none⟩) z0).trans q0_3
    replace q0_4 := (HX.cell (p := ⟨w.heap.size, 4, none⟩) z0).trans q0_4
    replace q0_5 := (HX.cell (p := ⟨w.heap.size, 5, none⟩) z0).trans q0_5
    replace q0_6 := (HX.cell (p := ⟨w.heap.size, 6, none⟩) z0).trans q0_6
    replace q0_7 := (HX.cell (p := ⟨w.heap.size, 7, none⟩) z0).trans q0_7
    replace q1_0 := (HX.cell (p := ⟨w.heap.size + 1, 0, none⟩) z1).trans q1_0
    replace q1_1 := (HX.cell (p := ⟨w.heap.size + 1, 1, none⟩) z1).trans q1_1
    replace q1_2 := (HX.cell (p := ⟨w.heap.size + 1, 2, none⟩) z1).trans q1_2
    replace q1_3 := (HX.cell (p := ⟨w.heap.size + 1, 3, none⟩) z1).trans q1_3
    replace q1_4 := (HX.cell (p := ⟨w.heap.size + 1, 4, none⟩) z1).trans q1_4
    replace q1_5 := (HX.cell (p := ⟨w.heap.size + 1, 5, none⟩) z1).trans q1_5
    replace q1_6 := (HX.cell (p := ⟨w.heap.size + 1, 6, none⟩) z1).trans q1_6
    replace q1_7 := (HX.cell (p := ⟨w.heap.size + 1, 7, none⟩) z1).trans q1_7
    replace z0 := Nat.lt_of_lt_of_le z0 HX.size
    replace z1 := Nat.lt_of_lt_of_le z1 HX.size
    clear f0 HX
    refine region_seqg (W := X) [_, _, _, _, _, _] [_] rfl (by kernel_rfl) (by kernel_rfl) (by repeat (first | (with_reducible assumption) | (with_reducible exact Below.refl _ _) | (with_reducible refine Below.alloc ?_ (by first | omega | (simp; omega) | (simp; done) | (dsimp only; omega)) _) | (with_reducible refine Below.setCell ?_ (by first | omega | (simp; omega) | (simp; done) | (dsimp only; omega)) _) | (with_reducible refine Below.drew ?_) | (with_reducible refine Below.trans ?_ (Below.mono (by assumption) (by first | omega | (simp; omega) | (simp; done) | (dsimp only; omega)))))) (fun fin hfin => ?_)
    iterate 4
      first
        | (refine SeqG.yes (v := ?_) (A' := ?_) rfl (fun γ => by rfl) ?_ ?_ ?_
           rotate_left 2
           · intro γ w' K hS hK
             obtain ⟨hc, hf⟩ := bcell hS
             have hz := hS.size
             go_simp
             first
               | exact hK.out _ (Below.refl _ _)
               | trace_state
           · intro γ; simp only [Act.put, List.setIfInBounds_toArray, List.set_cons_zero, List.set_cons_succ]; exact rfl)
        | (refine SeqG.no (A' := ?_) rfl (fun γ => by rfl) ?_ ?_
           rotate_left
           · intro γ; simp only [Act.put, List.setIfInBounds_toArray, List.set_cons_zero, List.set_cons_succ]; exact rfl)
    refine SeqG.make (k := 4) (A' := ?_) (fun g => .agg #[.bool (n), .slice (gA g) (srt l).length (g 2)]) (RSetG (srt l)) rfl (fun γ => by rfl) (RSetG.stable _) ?_ ?_ ?_
    rotate_left
    · intro γ w' K hS hF hK
      obtain ⟨hc, hf⟩ := bcell hS
      have hz := hS.size
      go_simp
      (go_at_call 72; refine (HC.out w' (HWX.trans (hS.mono (by omega)))).mono ?_; rintro e w1 ⟨⟨v, rfl, hset⟩, hb1⟩; obtain ⟨g, rfl, hg⟩ := SetV.ghost hset (by omega) (lo := w'.heap.size); exact hK.out g w1 hb1 hg)
    · intro γ; simp only [Act.put, List.setIfInBounds_toArray, List.set_cons_zero, List.set_cons_succ]; exact rfl
    refine SeqG.hang (k := 5) (A' := ?_) (fun γ => .agg #[.bool true, .int .i64 slo, .int .i64 shi, .bool true, .int .i64 cm, .int .i64 cr, .bool n, .slice (gA (γ 4)) (srt l).length (γ 4 2)]) rfl (fun γ => by rfl) (fun i _ hn γ g => ?_) (fun γ g => ?_) ?_ ?_ ?_
    rotate_left
    · have hne4 : 4 ≠ i := fun e => hn (by rw [← e]; exact reachL_spec (of_decide_eq_true (by kernel_rfl)))
      (try dsimp only); rw [updG_ne γ g hne4]
    · (try dsimp only); rw [updG_ne γ g (show 4 ≠ 5 by decide)]
    · intro γ w' K hS _ hK
      obtain ⟨hc, hf⟩ := bcell hS
      have hz := hS.size
      go_simp
      exact hK.out _ (Below.refl _ _)
    · intro γ; simp only [Act.put, List.setIfInBounds_toArray, List.set_cons_zero, List.set_cons_succ]; exact rfl
    refine SeqG.nil (hfin.out _ _ ?_)
    clear hfin fin
    intro γ lo hi w1 hB1 hF hD
    replace hF := listF1 hF
    dsimp only at hF
    clear hD
    obtain ⟨y8, l8, o8, hR⟩ := hF
    have hM := RSetG.made hR
    have HB := HWX.trans (hB1.mono HWX.size)
    replace f1 := fun o => (hB1.frozen (p := ⟨w.heap.size + 1, o, none⟩) z1).trans (f1 o)
    replace q0_0 := (hB1.cell (p := ⟨w.heap.size, 0, none⟩) z0).trans q0_0
    replace q0_1 := (hB1.cell (p := ⟨w.heap.size, 1, none⟩) z0).trans q0_1
    replace q0_2 := (hB1.cell (p := ⟨w.heap.size, 2, none⟩) z0).trans q0_2
    replace q0_3 := (hB1.cell (p := ⟨w.heap.size, 3, none⟩) z0).trans q0_3
    replace q0_4 := (hB1.cell (p := ⟨w.heap.size, 4, none⟩) z0).trans q0_4
    replace q0_5 := (hB1.cell (p := ⟨w.heap.size, 5, none⟩) z0).trans q0_5
    replace q0_6 := (hB1.cell (p := ⟨w.heap.size, 6, none⟩) z0).trans q0_6
    replace q0_7 := (hB1.cell (p := ⟨w.heap.size, 7, none⟩) z0).trans q0_7
    replace q1_0 := (hB1.cell (p := ⟨w.heap.size + 1, 0, none⟩) z1).trans q1_0
    replace q1_1 := (hB1.cell (p := ⟨w.heap.size + 1, 1, none⟩) z1).trans q1_1
    replace q1_2 := (hB1.cell (p := ⟨w.heap.size + 1, 2, none⟩) z1).trans q1_2
    replace q1_3 := (hB1.cell (p := ⟨w.heap.size + 1, 3, none⟩) z1).trans q1_3
    replace q1_4 := (hB1.cell (p := ⟨w.heap.size + 1, 4, none⟩) z1).trans q1_4
    replace q1_5 := (hB1.cell (p := ⟨w.heap.size + 1, 5, none⟩) z1).trans q1_5
    replace q1_6 := (hB1.cell (p := ⟨w.heap.size + 1, 6, none⟩) z1).trans q1_6
    replace q1_7 := (hB1.cell (p := ⟨w.heap.size + 1, 7, none⟩) z1).trans q1_7
    replace z0 := Nat.lt_of_lt_of_le z0 hB1.size
    replace z1 := Nat.lt_of_lt_of_le z1 hB1.size
    generalize gA (γ 4) = A1 at *
    generalize γ 4 2 = c1 at *
    clear hR hB1 p_0 p_1 p_2 q_0 q_1 q_2 q0_0 q0_1 q0_2 q0_3 q0_4 q0_5 q0_6 q0_7 fp fq zp zq
    refine TailL.cons (fun K hK => ?_)
    go_simp
    refine hK.out _ _ ?_
    clear hK K
    refine TailL.nil ?_
    go_wp2
    refine bodyPost_ret (by simp [results, Tryz.results29, go_sem, *] <;> rfl) rfl ⟨⟨A1, c1, rfl, (by (refine MadeV.base (b := w.heap.size + 2) ?_ (by omega)); (repeat refine MadeV.setCell ?_ (by first | omega | (simp; omega)) _); first | exact hM | exact hM.base (by omega))⟩, (by repeat (first | (with_reducible assumption) | (with_reducible exact Below.refl _ _) | (with_reducible refine Below.alloc ?_ (by first | omega | (simp; omega) | (simp; done) | (dsimp only; omega)) _) | (with_reducible refine Below.setCell ?_ (by first | omega | (simp; omega) | (simp; done) | (dsimp only; omega)) _) | (with_reducible refine Below.drew ?_) | (with_reducible refine Below.trans ?_ (Below.mono (by assumption) (by first | omega | (simp; omega) | (simp; done) | (dsimp only; omega))))))⟩
  · rw [In.clean_t hn, show In.zero = ⟨⟨false, 0, 0⟩, ⟨false, 0, 0⟩⟩ from rfl]
    dsimp only
    cases e1 : i.s.none
    · rw [Sp.clean_some e1] at h1
      have es := ((Sp.none_iff _).1 e1).1
      have e2 : i.c.s = false := by unfold In.none at hn; rw [e1] at hn; simpa using hn
      rw [e2] at hcs
      generalize i.c.clean = cc at *
      obtain ⟨⟨ss0, slo, shi⟩, c0⟩ := i
      obtain ⟨cs, cm, cr⟩ := cc
      dsimp only at *
      subst es hcs
      have H1 := Lib.hid h1
      clear h1 hn e1 e2
      go_enter Tryz.func29, Tryz.ntmps29
      go_upto_region 1 with fail
      generalize hW : ((w.alloc (.cells #[.bool true, .int .i64 slo, .int .i64 shi, .bool c0.s, .int .i64 c0.m, .int .i64 c0.r, .bool n, .slice A l.length c] 30)).alloc (.cells #[.bool false, .int .i64 0, .int .i64 0, .bool false, .int .i64 0, .int .i64 0, .bool false, .slice none 0 0] 30)) = W
      have q0_0 : W.cell? ⟨w.heap.size, 0, none⟩ = some (.bool true) := by rw [← hW]; simp [go_sem]
      have q0_1 : W.cell? ⟨w.heap.size, 1, none⟩ = some (.int .i64 slo) := by rw [← hW]; simp [go_sem]
      have q0_2 : W.cell? ⟨w.heap.size, 2, none⟩ = some (.int .i64 shi) := by rw [← hW]; simp [go_sem]
      have q0_3 : W.cell? ⟨w.heap.size, 3, none⟩ = some (.bool c0.s) := by rw [← hW]; simp [go_sem]
      have q0_4 : W.cell? ⟨w.heap.size, 4, none⟩ = some (.int .i64 c0.m) := by rw [← hW]; simp [go_sem]
      have q0_5 : W.cell? ⟨w.heap.size, 5, none⟩ = some (.int .i64 c0.r) := by rw [← hW]; simp [go_sem]
      have q0_6 : W.cell? ⟨w.heap.size, 6, none⟩ = some (.bool n) := by rw [← hW]; simp [go_sem]
      have q0_7 : W.cell? ⟨w.heap.size, 7, none⟩ = some (.slice A l.length c) := by rw [← hW]; simp [go_sem]
      have q1_0 : W.cell? ⟨w.heap.size + 1, 0, none⟩ = some (.bool false) := by rw [← hW]; simp [go_sem]
      have q1_1 : W.cell? ⟨w.heap.size + 1, 1, none⟩ = some (.int .i64 0) := by rw [← hW]; simp [go_sem]
      have q1_2 : W.cell? ⟨w.heap.size + 1, 2, none⟩ = some (.int .i64 0) := by rw [← hW]; simp [go_sem]
      have q1_3 : W.cell? ⟨w.heap.size + 1, 3, none⟩ = some (.bool false) := by rw [← hW]; simp [go_sem]
      have q1_4 : W.cell? ⟨w.heap.size + 1, 4, none⟩ = some (.int .i64 0) := by rw [← hW]; simp [go_sem]
      have q1_5 : W.cell? ⟨w.heap.size + 1, 5, none⟩ = some (.int .i64 0) := by rw [← hW]; simp [go_sem]
      have q1_6 : W.cell? ⟨w.heap.size + 1, 6, none⟩ = some (.bool false) := by rw [← hW]; simp [go_sem]
      have q1_7 : W.cell? ⟨w.heap.size + 1, 7, none⟩ = some (.slice none 0 0) := by rw [← hW]; simp [go_sem]
      have f0 : ∀ o, W.frozen? ⟨w.heap.size, o, none⟩ = false := by intro o; rw [← hW]; simp [go_sem]
      have f1 : ∀ o, W.frozen? ⟨w.heap.size + 1, o, none⟩ = false := by intro o; rw [← hW]; simp [go_sem]
      have z0 : w.heap.size < W.heap.size := by rw [← hW]; first | (simp; done) | (simp; omega)
      have z1 : w.heap.size + 1 < W.heap.size := by rw [← hW]; first | (simp; done) | (simp; omega)
      have HW : Below w.heap.size w W := by rw [← hW]; exact (by repeat (first | (with_reducible assumption) | (with_reducible exact Below.refl _ _) | (with_reducible refine Below.alloc ?_ (by first | omega | (simp; omega) | (simp; done) | (dsimp only; omega)) _) | (with_reducible refine Below.setCell ?_ (by first | omega | (simp; omega) | (simp; done) | (dsimp only; omega)) _) | (with_reducible refine Below.drew ?_) | (with_reducible refine Below.trans ?_ (Below.mono (by assumption) (by first | omega | (simp; omega) | (simp; done) | (dsimp only; omega))))))
      clear hW
      refine region_seqg (W := W) [_, _, _, _, _, _, _, _, _] [_, _] rfl (by kernel_rfl) (by kernel_rfl) (by repeat (first | (with_reducible assumption) | (with_reducible exact Below.refl _ _) | (with_reducible refine Below.alloc ?_ (by first | omega | (simp; omega) | (simp; done) | (dsimp only; omega)) _) | (with_reducible refine Below.setCell ?_ (by first | omega | (simp; omega) | (simp; done) | (dsimp only; omega)) _) | (with_reducible refine Below.drew ?_) | (with_reducible refine Below.trans ?_ (Below.mono (by assumption) (by first | omega | (simp; omega) | (simp; done) | (dsimp only; omega)))))) (fun fin hfin => ?_)
      iterate 7
        first
          | (refine SeqG.yes (v := ?_) (A' := ?_) rfl (fun γ => by rfl) ?_ ?_ ?_
             rotate_left 2
             · intro γ w' K hS hK
               obtain ⟨hc, hf⟩ := bcell hS
               have hz := hS.size
               go_simp
               first
                 | exact hK.out _ (Below.refl _ _)
                 | (go_at_call 71; (with_reducible refine (H1.out _).mono ?_); rintro e w1 ⟨rfl, hb1⟩; exact hK.out _ hb1)
                 | (go_at_call 18; (with_reducible refine (H2.out _).mono ?_); rintro e w1 ⟨rfl, hb1⟩; exact hK.out _ hb1)
                 | trace_state
             · intro γ; simp only [Act.put, List.setIfInBounds_toArray, List.set_cons_zero, List.set_cons_succ]; exact rfl)
          | (refine SeqG.no (A' := ?_) rfl (fun γ => by rfl) ?_ ?_
             rotate_left
             · intro γ; simp only [Act.put, List.setIfInBounds_toArray, List.set_cons_zero, List.set_cons_succ]; exact rfl)
      refine SeqG.make (k := 7) (A' := ?_) (fun g => .pointer (some ⟨g 0, 0, none⟩)) (RCell #[.bool false, .int .i64 0, .int .i64 0] 23) rfl (fun γ => by rfl) (RCell.stable _ _) ?_ ?_ ?_
      rotate_left
      · intro γ w' K hS _ hK
        have hm := RCell.made (#[.bool false, .int .i64 0, .int .i64 0]) (23) w'
        have HK := Lib.hid (hK.out (fun _ => w'.heap.size) (w'.alloc (.cells #[.bool false, .int .i64 0, .int .i64 0] 23)) ((Below.refl _ _).alloc (Nat.le_refl _) _) hm); clear hK hm
        go_simp
        exact HK.out
      · intro γ; simp only [Act.put, List.setIfInBounds_toArray, List.set_cons_zero, List.set_cons_succ]; exact rfl
      refine SeqG.make (k := 8) (A' := ?_) (fun g => .pointer (some ⟨g 0, 0, none⟩)) (RCell #[.bool false, .int .i64 0, .int .i64 0] 25) rfl (fun γ => by rfl) (RCell.stable _ _) ?_ ?_ ?_
      rotate_left
      · intro γ w' K hS _ hK
        have hm := RCell.made (#[.bool false, .int .i64 0, .int .i64 0]) (25) w'
        have HK := Lib.hid (hK.out (fun _ => w'.heap.size) (w'.alloc (.cells #[.bool false, .int .i64 0, .int .i64 0] 25)) ((Below.refl _ _).alloc (Nat.le_refl _) _) hm); clear hK hm
        go_simp
        exact HK.out
      · intro γ; simp only [Act.put, List.setIfInBounds_toArray, List.set_cons_zero, List.set_cons_succ]; exact rfl
      refine SeqG.nil (hfin.out _ _ ?_)
      clear hfin fin
      intro γ lo hi w1 hB1 hF hD
      replace hF := listF2 hF
      dsimp only at hF
      replace hD := listD2 hD
      dsimp only at hD
      replace hD := hD (by decide)
      obtain ⟨⟨y4, l4, o4, p4, p4', h4⟩, ⟨y5, l5, o5, p5, p5', h5⟩⟩ := hF
      have w4 : W.heap.size ≤ γ 7 0 := by omega
      have w5 : W.heap.size ≤ γ 8 0 := by omega
      have x4 : γ 7 0 < w1.heap.size := by omega
      have x5 : γ 8 0 < w1.heap.size := by omega
      have n45 : γ 7 0 ≠ γ 8 0 := by omega
      clear hD y4 l4 o4 p4 p4' y5 l5 o5 p5 p5'
      generalize γ 7 0 = bp at *
      generalize γ 8 0 = bq at *
      have g4 := blk_cell h4
      have g5 := blk_cell h5
      have f4 := blk_free h4
      have f5 := blk_free h5
      have n54 := Ne.symm n45
      have HWH := Lib.hid (hB1.mono (Nat.le_refl _))
      refine TailL.cons (fun K hK => ?_)
      go_simp
      refine hK.out _ _ ?_
      clear hK K
      refine TailL.cons (fun K hK => ?_)
      go_simp
      refine hK.out _ _ ?_
      clear hK K
      refine TailL.nil ?_
      have kp : (((((w1.setCell ⟨bp, 0, none⟩ (.bool true)).setCell ⟨bp, 1, none⟩ (.int .i64 slo)).setCell ⟨bp, 2, none⟩ (.int .i64 shi)).setCell ⟨bq, 0, none⟩ (.bool false)).setCell ⟨bq, 1, none⟩ (.int .i64 cm)).setCell ⟨bq, 2, none⟩ (.int .i64 cr) |>.heap[bp]? = some (.cells #[.bool true, .int .i64 slo, .int .i64 shi] 23) := by
        (iterate 3 (refine (Below.heap_setCell _ _ _ _ (by dsimp only; omega)).trans ?_))
        exact blk_set3 h4
      have kq : (((((w1.setCell ⟨bp, 0, none⟩ (.bool true)).setCell ⟨bp, 1, none⟩ (.int .i64 slo)).setCell ⟨bp, 2, none⟩ (.int .i64 shi)).setCell ⟨bq, 0, none⟩ (.bool false)).setCell ⟨bq, 1, none⟩ (.int .i64 cm)).setCell ⟨bq, 2, none⟩ (.int .i64 cr) |>.heap[bq]? = some (.cells #[.bool false, .int .i64 cm, .int .i64 cr] 25) := by
        refine blk_set3 (c0 := .bool false) (c1 := .int .i64 0) (c2 := .int .i64 0) ?_
        (iterate 3 (refine (Below.heap_setCell _ _ _ _ (by dsimp only; omega)).trans ?_))
        exact h5
      have HX : Below W.heap.size W ((((((w1.setCell ⟨bp, 0, none⟩ (.bool true)).setCell ⟨bp, 1, none⟩ (.int .i64 slo)).setCell ⟨bp, 2, none⟩ (.int .i64 shi)).setCell ⟨bq, 0, none⟩ (.bool false)).setCell ⟨bq, 1, none⟩ (.int .i64 cm)).setCell ⟨bq, 2, none⟩ (.int .i64 cr)) := (by repeat (first | (with_reducible assumption) | (with_reducible exact Below.refl _ _) | (with_reducible refine Below.alloc ?_ (by first | omega | (simp; omega) | (simp; done) | (dsimp only; omega)) _) | (with_reducible refine Below.setCell ?_ (by first | omega | (simp; omega) | (simp; done) | (dsimp only; omega)) _) | (with_reducible refine Below.drew ?_) | (with_reducible refine Below.trans ?_ (Below.mono (by assumption) (by first | omega | (simp; omega) | (simp; done) | (dsimp only; omega))))))
      generalize (((((w1.setCell ⟨bp, 0, none⟩ (.bool true)).setCell ⟨bp, 1, none⟩ (.int .i64 slo)).setCell ⟨bp, 2, none⟩ (.int .i64 shi)).setCell ⟨bq, 0, none⟩ (.bool false)).setCell ⟨bq, 1, none⟩ (.int .i64 cm)).setCell ⟨bq, 2, none⟩ (.int .i64 cr) = X at *
      clear g4 g5 f4 f5 h4 h5 x4 x5 hB1 HWH
      have p_0 := blk_cell kp 0
      have p_1 := blk_cell kp 1
      have p_2 := blk_cell kp 2
      simp only [List.getElem?_toArray, List.getElem?_cons_zero, List.getElem?_cons_succ] at p_0 p_1 p_2
      have fp := blk_free kp
      have zp := blk_lt kp
      have q_0 := blk_cell kq 0
      have q_1 := blk_cell kq 1
      have q_2 := blk_cell kq 2
      simp only [List.getElem?_toArray, List.getElem?_cons_zero, List.getElem?_cons_succ] at q_0 q_1 q_2
      have fq := blk_free kq
      have zq := blk_lt kq
      go_upto_region 5 with fail
      have jq := blk_set3 (v0 := .bool false) (v1 := .int .i64 0) (v2 := .int .i64 0) ((show (((X.setCell ⟨bp, 0, none⟩ (.bool false)).setCell ⟨bp, 1, none⟩ (.int .i64 0)).setCell ⟨bp, 2, none⟩ (.int .i64 0)).heap[bq]? = X.heap[bq]? by
        iterate 3 (refine (Below.heap_setCell _ _ _ _ (by dsimp only; omega)).trans ?_)
        rfl).trans kq)
      have jp := blk_set3 (v0 := .bool false) (v1 := .int .i64 0) (v2 := .int .i64 0) kp
      replace jp := (show ((((((X.setCell ⟨bp, 0, none⟩ (.bool false)).setCell ⟨bp, 1, none⟩ (.int .i64 0)).setCell ⟨bp, 2, none⟩ (.int .i64 0)).setCell ⟨bq, 0, none⟩ (.bool false)).setCell ⟨bq, 1, none⟩ (.int .i64 0)).setCell ⟨bq, 2, none⟩ (.int .i64 0)).heap[bp]? = (((X.setCell ⟨bp, 0, none⟩ (.bool false)).setCell ⟨bp, 1, none⟩ (.int .i64 0)).setCell ⟨bp, 2, none⟩ (.int .i64 0)).heap[bp]? by
        iterate 3 (refine (Below.heap_setCell _ _ _ _ (by dsimp only; omega)).trans ?_)
        rfl).trans jp
      replace HX : Below W.heap.size W ((((((X.setCell ⟨bp, 0, none⟩ (.bool false)).setCell ⟨bp, 1, none⟩ (.int .i64 0)).setCell ⟨bp, 2, none⟩ (.int .i64 0)).setCell ⟨bq, 0, none⟩ (.bool false)).setCell ⟨bq, 1, none⟩ (.int .i64 0)).setCell ⟨bq, 2, none⟩ (.int .i64 0)) := (by repeat (first | (with_reducible assumption) | (with_reducible exact Below.refl _ _) | (with_reducible refine Below.alloc ?_ (by first | omega | (simp; omega) | (simp; done) | (dsimp only; omega)) _) | (with_reducible refine Below.setCell ?_ (by first | omega | (simp; omega) | (simp; done) | (dsimp only; omega)) _) | (with_reducible refine Below.drew ?_) | (with_reducible refine Below.trans ?_ (Below.mono (by assumption) (by first | omega | (simp; omega) | (simp; done) | (dsimp only; omega))))))
      generalize (((((X.setCell ⟨bp, 0, none⟩ (.bool false)).setCell ⟨bp, 1, none⟩ (.int .i64 0)).setCell ⟨bp, 2, none⟩ (.int .i64 0)).setCell ⟨bq, 0, none⟩ (.bool false)).setCell ⟨bq, 1, none⟩ (.int .i64 0)).setCell ⟨bq, 2, none⟩ (.int .i64 0) = Y at *
      clear p_0 p_1 p_2 q_0 q_1 q_2 fp fq zp zq kp kq
      have p_0 := blk_cell jp 0
      have p_1 := blk_cell jp 1
      have p_2 := blk_cell jp 2
      simp only [List.getElem?_toArray, List.getElem?_cons_zero, List.getElem?_cons_succ] at p_0 p_1 p_2
      have fp := blk_free jp
      have zp := blk_lt jp
      have q_0 := blk_cell jq 0
      have q_1 := blk_cell jq 1
      have q_2 := blk_cell jq 2
      simp only [List.getElem?_toArray, List.getElem?_cons_zero, List.getElem?_cons_succ] at q_0 q_1 q_2
      have fq := blk_free jq
      have zq := blk_lt jq
      replace f1 := fun o => (HX.frozen (p := ⟨w.heap.size + 1, o, none⟩) z1).trans (f1 o)
      have HWX := HW.trans (HX.mono (by omega))
      have zz : w.heap.size + 2 ≤ Y.heap.size := by have := HX.size; omega
      replace q0_0 := (HX.cell (p := ⟨w.heap.size, 0, none⟩) z0).trans q0_0
      replace q0_1 := (HX.cell (p := ⟨w.heap.size, 1, none⟩) z0).trans q0_1
      replace q0_2 := (HX.cell (p := ⟨w.heap.size, 2, none⟩) z0).trans q0_2
      replace q0_3 := (HX.cell (p := ⟨w.heap.size, 3, none⟩) z0).trans q0_3
      replace q0_4 := (HX.cell (p := ⟨w.heap.size, 4, none⟩) z0).trans q0_4
      replace q0_5 := (HX.cell (p := ⟨w.heap.size, 5, none⟩) z0).trans q0_5
      replace q0_6 := (HX.cell (p := ⟨w.heap.size, 6, none⟩) z0).trans q0_6
      replace q0_7 := (HX.cell (p := ⟨w.heap.size, 7, none⟩) z0).trans q0_7
      replace q1_0 := (HX.cell (p := ⟨w.heap.size + 1, 0, none⟩) z1).trans q1_0
      replace q1_1 := (HX.cell (p := ⟨w.heap.size + 1, 1, none⟩) z1).trans q1_1
      replace q1_2 := (HX.cell (p := ⟨w.heap.size + 1, 2, none⟩) z1).trans q1_2
      replace q1_3 := (HX.cell (p := ⟨w.heap.size + 1, 3, none⟩) z1).trans q1_3
      replace q1_4 := (HX.cell (p := ⟨w.heap.size + 1, 4, none⟩) z1).trans q1_4
      replace q1_5 := (HX.cell (p := ⟨w.heap.size + 1, 5, none⟩) z1).trans q1_5
      replace q1_6 := (HX.cell (p := ⟨w.heap.size + 1, 6, none⟩) z1).trans q1_6
      replace q1_7 := (HX.cell (p := ⟨w.heap.size + 1, 7, none⟩) z1).trans q1_7
      replace z0 := Nat.lt_of_lt_of_le z0 HX.size
      replace z1 := Nat.lt_of_lt_of_le z1 HX.size
      clear f0 HX
      refine region_seqg (W := Y) [_, _, _, _, _, _] [_] rfl (by kernel_rfl) (by kernel_rfl) (by repeat (first | (with_reducible assumption) | (with_reducible exact Below.refl _ _) | (with_reducible refine Below.alloc ?_ (by first | omega | (simp; omega) | (simp; done) | (dsimp only; omega)) _) | (with_reducible refine Below.setCell ?_ (by first | omega | (simp; omega) | (simp; done) | (dsimp only; omega)) _) | (with_reducible refine Below.drew ?_) | (with_reducible refine Below.trans ?_ (Below.mono (by assumption) (by first | omega | (simp; omega) | (simp; done) | (dsimp only; omega)))))) (fun fin hfin => ?_)
      iterate 4
        first
          | (refine SeqG.yes (v := ?_) (A' := ?_) rfl (fun γ => by rfl) ?_ ?_ ?_
             rotate_left 2
             · intro γ w' K hS hK
               obtain ⟨hc, hf⟩ := bcell hS
               have hz := hS.size
               go_simp
               first
                 | exact hK.out _ (Below.refl _ _)
                 | trace_state
             · intro γ; simp only [Act.put, List.setIfInBounds_toArray, List.set_cons_zero, List.set_cons_succ]; exact rfl)
          | (refine SeqG.no (A' := ?_) rfl (fun γ => by rfl) ?_ ?_
             rotate_left
             · intro γ; simp only [Act.put, List.setIfInBounds_toArray, List.set_cons_zero, List.set_cons_succ]; exact rfl)
      refine SeqG.make (k := 4) (A' := ?_) (fun g => .agg #[.bool (n), .slice (gA g) (srt l).length (g 2)]) (RSetG (srt l)) rfl (fun γ => by rfl) (RSetG.stable _) ?_ ?_ ?_
      rotate_left
      · intro γ w' K hS hF hK
        obtain ⟨hc, hf⟩ := bcell hS
        have hz := hS.size
        go_simp
        (go_at_call 72; refine (HC.out w' (HWX.trans (hS.mono (by omega)))).mono ?_; rintro e w1 ⟨⟨v, rfl, hset⟩, hb1⟩; obtain ⟨g, rfl, hg⟩ := SetV.ghost hset (by omega) (lo := w'.heap.size); exact hK.out g w1 hb1 hg)
      · intro γ; simp only [Act.put, List.setIfInBounds_toArray, List.set_cons_zero, List.set_cons_succ]; exact rfl
      refine SeqG.hang (k := 5) (A' := ?_) (fun γ => .agg #[.bool false, .int .i64 0, .int .i64 0, .bool false, .int .i64 0, .int .i64 0, .bool n, .slice (gA (γ 4)) (srt l).length (γ 4 2)]) rfl (fun γ => by rfl) (fun i _ hn γ g => ?_) (fun γ g => ?_) ?_ ?_ ?_
      rotate_left
      · have hne4 : 4 ≠ i := fun e => hn (by rw [← e]; exact reachL_spec (of_decide_eq_true (by kernel_rfl)))
        (try dsimp only); rw [updG_ne γ g hne4]
      · (try dsimp only); rw [updG_ne γ g (show 4 ≠ 5 by decide)]
      · intro γ w' K hS _ hK
        obtain ⟨hc, hf⟩ := bcell hS
        have hz := hS.size
        go_simp
        exact hK.out _ (Below.refl _ _)
      · intro γ; simp only [Act.put, List.setIfInBounds_toArray, List.set_cons_zero, List.set_cons_succ]; exact rfl
      refine SeqG.nil (hfin.out _ _ ?_)
      clear hfin fin
      intro γ lo hi w1 hB1 hF hD
      replace hF := listF1 hF
      dsimp only at hF
      clear hD
      obtain ⟨y8, l8, o8, hR⟩ := hF
      have hM := RSetG.made hR
      have HB := HWX.trans (hB1.mono HWX.size)
      replace f1 := fun o => (hB1.frozen (p := ⟨w.heap.size + 1, o, none⟩) z1).trans (f1 o)
      replace q0_0 := (hB1.cell (p := ⟨w.heap.size, 0, none⟩) z0).trans q0_0
      replace q0_1 := (hB1.cell (p := ⟨w.heap.size, 1, none⟩) z0).trans q0_1
      replace q0_2 := (hB1.cell (p := ⟨w.heap.size, 2, none⟩) z0).trans q0_2
      replace q0_3 := (hB1.cell (p := ⟨w.heap.size, 3, none⟩) z0).trans q0_3
      replace q0_4 := (hB1.cell (p := ⟨w.heap.size, 4, none⟩) z0).trans q0_4
      replace q0_5 := (hB1.cell (p := ⟨w.heap.size, 5, none⟩) z0).trans q0_5
      replace q0_6 := (hB1.cell (p := ⟨w.heap.size, 6, none⟩) z0).trans q0_6
      replace q0_7 := (hB1.cell (p := ⟨w.heap.size, 7, none⟩) z0).trans q0_7
      replace q1_0 := (hB1.cell (p := ⟨w.heap.size + 1, 0, none⟩) z1).trans q1_0
      replace q1_1 := (hB1.cell (p := ⟨w.heap.size + 1, 1, none⟩) z1).trans q1_1
      replace q1_2 := (hB1.cell (p := ⟨w.heap.size + 1, 2, none⟩) z1).trans q1_2
      replace q1_3 := (hB1.cell (p := ⟨w.heap.size + 1, 3, none⟩) z1).trans q1_3
      replace q1_4 := (hB1.cell (p := ⟨w.heap.size + 1, 4, none⟩) z1).trans q1_4
      replace q1_5 := (hB1.cell (p := ⟨w.heap.size + 1, 5, none⟩) z1).trans q1_5
      replace q1_6 := (hB1.cell (p := ⟨w.heap.size + 1, 6, none⟩) z1).trans q1_6
      replace q1_7 := (hB1.cell (p := ⟨w.heap.size + 1, 7, none⟩) z1).trans q1_7
      replace z0 := Nat.lt_of_lt_of_le z0 hB1.size
      replace z1 := Nat.lt_of_lt_of_le z1 hB1.size
      generalize gA (γ 4) = A1 at *
      generalize γ 4 2 = c1 at *
      clear hR hB1 p_0 p_1 p_2 q_0 q_1 q_2 q0_0 q0_1 q0_2 q0_3 q0_4 q0_5 q0_6 q0_7 fp fq zp zq
      refine TailL.cons (fun K hK => ?_)
      go_simp
      refine hK.out _ _ ?_
      clear hK K
      refine TailL.nil ?_
      go_wp2
      refine bodyPost_ret (by simp [results, Tryz.results29, go_sem, *] <;> rfl) rfl ⟨⟨A1, c1, rfl, (by (refine MadeV.base (b := w.heap.size + 2) ?_ (by omega)); (repeat refine MadeV.setCell ?_ (by first | omega | (simp; omega)) _); first | exact hM | exact hM.base (by omega))⟩, (by repeat (first | (with_reducible assumption) | (with_reducible exact Below.refl _ _) | (with_reducible refine Below.alloc ?_ (by first | omega | (simp; omega) | (simp; done) | (dsimp only; omega)) _) | (with_reducible refine Below.setCell ?_ (by first | omega | (simp; omega) | (simp; done) | (dsimp only; omega)) _) | (with_reducible refine Below.drew ?_) | (with_reducible refine Below.trans ?_ (Below.mono (by assumption) (by first | omega | (simp; omega) | (simp; done) | (dsimp only; omega))))))⟩
    · rw [Sp.clean_none e1, show Sp.zero = ⟨false, 0, 0⟩ from rfl] at h1
      dsimp only at h1
      generalize i.c.clean = cc at *
      obtain ⟨⟨ss0, slo, shi⟩, c0⟩ := i
      obtain ⟨cs, cm, cr⟩ := cc
      dsimp only at *
      have H1 := Lib.hid h1
      clear h1 hn e1 hcs
      go_enter Tryz.func29, Tryz.ntmps29
      go_upto_region 1 with fail
      generalize hW : ((w.alloc (.cells #[.bool ss0, .int .i64 slo, .int .i64 shi, .bool c0.s, .int .i64 c0.m, .int .i64 c0.r, .bool n, .slice A l.length c] 30)).alloc (.cells #[.bool false, .int .i64 0, .int .i64 0, .bool false, .int .i64 0, .int .i64 0, .bool false, .slice none 0 0] 30)) = W
      have q0_0 : W.cell? ⟨w.heap.size, 0, none⟩ = some (.bool ss0) := by rw [← hW]; simp [go_sem]
      have q0_1 : W.cell? ⟨w.heap.size, 1, none⟩ = some (.int .i64 slo) := by rw [← hW]; simp [go_sem]
      have q0_2 : W.cell? ⟨w.heap.size, 2, none⟩ = some (.int .i64 shi) := by rw [← hW]; simp [go_sem]
      have q0_3 : W.cell? ⟨w.heap.size, 3, none⟩ = some (.bool c0.s) := by rw [← hW]; simp [go_sem]
      have q0_4 : W.cell? ⟨w.heap.size, 4, none⟩ = some (.int .i64 c0.m) := by rw [← hW]; simp [go_sem]
      have q0_5 : W.cell? ⟨w.heap.size, 5, none⟩ = some (.int .i64 c0.r) := by rw [← hW]; simp [go_sem]
      have q0_6 : W.cell? ⟨w.heap.size, 6, none⟩ = some (.bool n) := by rw [← hW]; simp [go_sem]
      have q0_7 : W.cell? ⟨w.heap.size, 7, none⟩ = some (.slice A l.length c) := by rw [← hW]; simp [go_sem]
      have q1_0 : W.cell? ⟨w.heap.size + 1, 0, none⟩ = some (.bool false) := by rw [← hW]; simp [go_sem]
      have q1_1 : W.cell? ⟨w.heap.size + 1, 1, none⟩ = some (.int .i64 0) := by rw [← hW]; simp [go_sem]
      have q1_2 : W.cell? ⟨w.heap.size + 1, 2, none⟩ = some (.int .i64 0) := by rw [← hW]; simp [go_sem]
      have q1_3 : W.cell? ⟨w.heap.size + 1, 3, none⟩ = some (.bool false) := by rw [← hW]; simp [go_sem]
      have q1_4 : W.cell? ⟨w.heap.size + 1, 4, none⟩ = some (.int .i64 0) := by rw [← hW]; simp [go_sem]
      have q1_5 : W.cell? ⟨w.heap.size + 1, 5, none⟩ = some (.int .i64 0) := by rw [← hW]; simp [go_sem]
      have q1_6 : W.cell? ⟨w.heap.size + 1, 6, none⟩ = some (.bool false) := by rw [← hW]; simp [go_sem]
      have q1_7 : W.cell? ⟨w.heap.size + 1, 7, none⟩ = some (.slice none 0 0) := by rw [← hW]; simp [go_sem]
      have f0 : ∀ o, W.frozen? ⟨w.heap.size, o, none⟩ = false := by intro o; rw [← hW]; simp [go_sem]
      have f1 : ∀ o, W.frozen? ⟨w.heap.size + 1, o, none⟩ = false := by intro o; rw [← hW]; simp [go_sem]
      have z0 : w.heap.size < W.heap.size := by rw [← hW]; first | (simp; done) | (simp; omega)
      have z1 : w.heap.size + 1 < W.heap.size := by rw [← hW]; first | (simp; done) | (simp; omega)
      have HW : Below w.heap.size w W := by rw [← hW]; exact (by repeat (first | (with_reducible assumption) | (with_reducible exact Below.refl _ _) | (with_reducible refine Below.alloc ?_ (by first | omega | (simp; omega) | (simp; done) | (dsimp only; omega)) _) | (with_reducible refine Below.setCell ?_ (by first | omega | (simp; omega) | (simp; done) | (dsimp only; omega)) _) | (with_reducible refine Below.drew ?_) | (with_reducible refine Below.trans ?_ (Below.mono (by assumption) (by first | omega | (simp; omega) | (simp; done) | (dsimp only; omega))))))
      clear hW
      refine region_seqg (W := W) [_, _, _, _, _, _, _, _, _] [_, _] rfl (by kernel_rfl) (by kernel_rfl) (by repeat (first | (with_reducible assumption) | (with_reducible exact Below.refl _ _) | (with_reducible refine Below.alloc ?_ (by first | omega | (simp; omega) | (simp; done) | (dsimp only; omega)) _) | (with_reducible refine Below.setCell ?_ (by first | omega | (simp; omega) | (simp; done) | (dsimp only; omega)) _) | (with_reducible refine Below.drew ?_) | (with_reducible refine Below.trans ?_ (Below.mono (by assumption) (by first | omega | (simp; omega) | (simp; done) | (dsimp only; omega)))))) (fun fin hfin => ?_)
      iterate 7
        first
          | (refine SeqG.yes (v := ?_) (A' := ?_) rfl (fun γ => by rfl) ?_ ?_ ?_
             rotate_left 2
             · intro γ w' K hS hK
               obtain ⟨hc, hf⟩ := bcell hS
               have hz := hS.size
               go_simp
               first
                 | exact hK.out _ (Below.refl _ _)
                 | (go_at_call 71; (with_reducible refine (H1.out _).mono ?_); rintro e w1 ⟨rfl, hb1⟩; exact hK.out _ hb1)
                 | (go_at_call 18; (with_reducible refine (H2.out _).mono ?_); rintro e w1 ⟨rfl, hb1⟩; exact hK.out _ hb1)
                 | trace_state
             · intro γ; simp only [Act.put, List.setIfInBounds_toArray, List.set_cons_zero, List.set_cons_succ]; exact rfl)
          | (refine SeqG.no (A' := ?_) rfl (fun γ => by rfl) ?_ ?_
             rotate_left
             · intro γ; simp only [Act.put, List.setIfInBounds_toArray, List.set_cons_zero, List.set_cons_succ]; exact rfl)
      refine SeqG.make (k := 7) (A' := ?_) (fun g => .pointer (some ⟨g 0, 0, none⟩)) (RCell #[.bool false, .int .i64 0, .int .i64 0] 23) rfl (fun γ => by rfl) (RCell.stable _ _) ?_ ?_ ?_
      rotate_left
      · intro γ w' K hS _ hK
        have hm := RCell.made (#[.bool false, .int .i64 0, .int .i64 0]) (23) w'
        have HK := Lib.hid (hK.out (fun _ => w'.heap.size) (w'.alloc (.cells #[.bool false, .int .i64 0, .int .i64 0] 23)) ((Below.refl _ _).alloc (Nat.le_refl _) _) hm); clear hK hm
        go_simp
        exact HK.out
      · intro γ; simp only [Act.put, List.setIfInBounds_toArray, List.set_cons_zero, List.set_cons_succ]; exact rfl
      refine SeqG.make (k := 8) (A' := ?_) (fun g => .pointer (some ⟨g 0, 0, none⟩)) (RCell #[.bool false, .int .i64 0, .int .i64 0] 25) rfl (fun γ => by rfl) (RCell.stable _ _) ?_ ?_ ?_
      rotate_left
      · intro γ w' K hS _ hK
        have hm := RCell.made (#[.bool false, .int .i64 0, .int .i64 0]) (25) w'
        have HK := Lib.hid (hK.out (fun _ => w'.heap.size) (w'.alloc (.cells #[.bool false, .int .i64 0, .int .i64 0] 25)) ((Below.refl _ _).alloc (Nat.le_refl _) _) hm); clear hK hm
        go_simp
        exact HK.out
      · intro γ; simp only [Act.put, List.setIfInBounds_toArray, List.set_cons_zero, List.set_cons_succ]; exact rfl
      refine SeqG.nil (hfin.out _ _ ?_)
      clear hfin fin
      intro γ lo hi w1 hB1 hF hD
      replace hF := listF2 hF
      dsimp only at hF
      replace hD := listD2 hD
      dsimp only at hD
      replace hD := hD (by decide)
      obtain ⟨⟨y4, l4, o4, p4, p4', h4⟩, ⟨y5, l5, o5, p5, p5', h5⟩⟩ := hF
      have w4 : W.heap.size ≤ γ 7 0 := by omega
      have w5 : W.heap.size ≤ γ 8 0 := by omega
      have x4 : γ 7 0 < w1.heap.size := by omega
      have x5 : γ 8 0 < w1.heap.size := by omega
      have n45 : γ 7 0 ≠ γ 8 0 := by omega
      clear hD y4 l4 o4 p4 p4' y5 l5 o5 p5 p5'
      generalize γ 7 0 = bp at *
      generalize γ 8 0 = bq at *
      have g4 := blk_cell h4
      have g5 := blk_cell h5
      have f4 := blk_free h4
      have f5 := blk_free h5
      have n54 := Ne.symm n45
      have HWH := Lib.hid (hB1.mono (Nat.le_refl _))
      refine TailL.cons (fun K hK => ?_)
      go_simp
      refine hK.out _ _ ?_
      clear hK K
      refine TailL.cons (fun K hK => ?_)
      go_simp
      refine hK.out _ _ ?_
      clear hK K
      refine TailL.nil ?_
      have kp : (((((w1.setCell ⟨bp, 0, none⟩ (.bool false)).setCell ⟨bp, 1, none⟩ (.int .i64 0)).setCell ⟨bp, 2, none⟩ (.int .i64 0)).setCell ⟨bq, 0, none⟩ (.bool cs)).setCell ⟨bq, 1, none⟩ (.int .i64 cm)).setCell ⟨bq, 2, none⟩ (.int .i64 cr) |>.heap[bp]? = some (.cells #[.bool false, .int .i64 0, .int .i64 0] 23) := by
        (iterate 3 (refine (Below.heap_setCell _ _ _ _ (by dsimp only; omega)).trans ?_))
        exact blk_set3 h4
      have kq : (((((w1.setCell ⟨bp, 0, none⟩ (.bool false)).setCell ⟨bp, 1, none⟩ (.int .i64 0)).setCell ⟨bp, 2, none⟩ (.int .i64 0)).setCell ⟨bq, 0, none⟩ (.bool cs)).setCell ⟨bq, 1, none⟩ (.int .i64 cm)).setCell ⟨bq, 2, none⟩ (.int .i64 cr) |>.heap[bq]? = some (.cells #[.bool cs, .int .i64 cm, .int .i64 cr] 25) := by
        refine blk_set3 (c0 := .bool false) (c1 := .int .i64 0) (c2 := .int .i64 0) ?_
        (iterate 3 (refine (Below.heap_setCell _ _ _ _ (by dsimp only; omega)).trans ?_))
        exact h5
      have HX : Below W.heap.size W ((((((w1.setCell ⟨bp, 0, none⟩ (.bool false)).setCell ⟨bp, 1, none⟩ (.int .i64 0)).setCell ⟨bp, 2, none⟩ (.int .i64 0)).setCell ⟨bq, 0, none⟩ (.bool cs)).setCell ⟨bq, 1, none⟩ (.int .i64 cm)).setCell ⟨bq, 2, none⟩ (.int .i64 cr)) := (by repeat (first | (with_reducible assumption) | (with_reducible exact Below.refl _ _) | (with_reducible refine Below.alloc ?_ (by first | omega | (simp; omega) | (simp; done) | (dsimp only; omega)) _) | (with_reducible refine Below.setCell ?_ (by first | omega | (simp; omega) | (simp; done) | (dsimp only; omega)) _) | (with_reducible refine Below.drew ?_) | (with_reducible refine Below.trans ?_ (Below.mono (by assumption) (by first | omega | (simp; omega) | (simp; done) | (dsimp only; omega))))))
      generalize (((((w1.setCell ⟨bp, 0, none⟩ (.bool false)).setCell ⟨bp, 1, none⟩ (.int .i64 0)).setCell ⟨bp, 2, none⟩ (.int .i64 0)).setCell ⟨bq, 0, none⟩ (.bool cs)).setCell ⟨bq, 1, none⟩ (.int .i64 cm)).setCell ⟨bq, 2, none⟩ (.int .i64 cr) = X at *
      clear g4 g5 f4 f5 h4 h5 x4 x5 hB1 HWH
      have p_0 := blk_cell kp 0
      have p_1 := blk_cell kp 1
      have p_2 := blk_cell kp 2
      simp only [List.getElem?_toArray, List.getElem?_cons_zero, List.getElem?_cons_succ] at p_0 p_1 p_2
      have fp := blk_free kp
      have zp := blk_lt kp
      have q_0 := blk_cell kq 0
      have q_1 := blk_cell kq 1
      have q_2 := blk_cell kq 2
      simp only [List.getElem?_toArray, List.getElem?_cons_zero, List.getElem?_cons_succ] at q_0 q_1 q_2
      have fq := blk_free kq
      have zq := blk_lt kq
      go_upto_region 5 with fail
      have jq := blk_set3 (v0 := .bool false) (v1 := .int .i64 0) (v2 := .int .i64 0) ((show (((X.setCell ⟨bp, 0, none⟩ (.bool false)).setCell ⟨bp, 1, none⟩ (.int .i64 0)).setCell ⟨bp, 2, none⟩ (.int .i64 0)).heap[bq]? = X.heap[bq]? by
        iterate 3 (refine (Below.heap_setCell _ _ _ _ (by dsimp only; omega)).trans ?_)
        rfl).trans kq)
      have jp := blk_set3 (v0 := .bool false) (v1 := .int .i64 0) (v2 := .int .i64 0) kp
      replace jp := (show ((((((X.setCell ⟨bp, 0, none⟩ (.bool false)).setCell ⟨bp, 1, none⟩ (.int .i64 0)).setCell ⟨bp, 2, none⟩ (.int .i64 0)).setCell ⟨bq, 0, none⟩ (.bool false)).setCell ⟨bq, 1, none⟩ (.int .i64 0)).setCell ⟨bq, 2, none⟩ (.int .i64 0)).heap[bp]? = (((X.setCell ⟨bp, 0, none⟩ (.bool false)).setCell ⟨bp, 1, none⟩ (.int .i64 0)).setCell ⟨bp, 2, none⟩ (.int .i64 0)).heap[bp]? by
        iterate 3 (refine (Below.heap_setCell _ _ _ _ (by dsimp only; omega)).trans ?_)
        rfl).trans jp
      replace HX : Below W.heap.size W ((((((X.setCell ⟨bp, 0, none⟩ (.bool false)).setCell ⟨bp, 1, none⟩ (.int .i64 0)).setCell ⟨bp, 2, none⟩ (.int .i64 0)).setCell ⟨bq, 0, none⟩ (.bool false)).setCell ⟨bq, 1, none⟩ (.int .i64 0)).setCell ⟨bq, 2, none⟩ (.int .i64 0)) := (by repeat (first | (with_reducible assumption) | (with_reducible exact Below.refl _ _) | (with_reducible refine Below.alloc ?_ (by first | omega | (simp; omega) | (simp; done) | (dsimp only; omega)) _) | (with_reducible refine Below.setCell ?_ (by first | omega | (simp; omega) | (simp; done) | (dsimp only; omega)) _) | (with_reducible refine Below.drew ?_) | (with_reducible refine Below.trans ?_ (Below.mono (by assumption) (by first | omega | (simp; omega) | (simp; done) | (dsimp only; omega))))))
      generalize (((((X.setCell ⟨bp, 0, none⟩ (.bool false)).setCell ⟨bp, 1, none⟩ (.int .i64 0)).setCell ⟨bp, 2, none⟩ (.int .i64 0)).setCell ⟨bq, 0, none⟩ (.bool false)).setCell ⟨bq, 1, none⟩ (.int .i64 0)).setCell ⟨bq, 2, none⟩ (.int .i64 0) = Y at *
      clear p_0 p_1 p_2 q_0 q_1 q_2 fp fq zp zq kp kq
      have p_0 := blk_cell jp 0
      have p_1 := blk_cell jp 1
      have p_2 := blk_cell jp 2
      simp only [List.getElem?_toArray, List.getElem?_cons_zero, List.getElem?_cons_succ] at p_0 p_1 p_2
      have fp := blk_free jp
      have zp := blk_lt jp
      have q_0 := blk_cell jq 0
      have q_1 := blk_cell jq 1
      have q_2 := blk_cell jq 2
      simp only [List.getElem?_toArray, List.getElem?_cons_zero, List.getElem?_cons_succ] at q_0 q_1 q_2
      have fq := blk_free jq
      have zq := blk_lt jq
      replace f1 := fun o => (HX.frozen (p := ⟨w.heap.size + 1, o, none⟩) z1).trans (f1 o)
      have HWX := HW.trans (HX.mono (by omega))
      have zz : w.heap.size + 2 ≤ Y.heap.size := by have := HX.size; omega
      replace q0_0 := (HX.cell (p := ⟨w.heap.size, 0, none⟩) z0).trans q0_0
      replace q0_1 := (HX.cell (p := ⟨w.heap.size, 1, none⟩) z0).trans q0_1
      replace q0_2 := (HX.cell (p := ⟨w.heap.size, 2, none⟩) z0).trans q0_2
      replace q0_3 := (HX.cell (p := ⟨w.heap.size, 3, none⟩) z0).trans q0_3
      replace q0_4 := (HX.cell (p := ⟨w.heap.size, 4, none⟩) z0).trans q0_4
      replace q0_5 := (HX.cell (p := ⟨w.heap.size, 5, none⟩) z0).trans q0_5
      replace q0_6 := (HX.cell (p := ⟨w.heap.size, 6, none⟩) z0).trans q0_6
      replace q0_7 := (HX.cell (p := ⟨w.heap.size, 7, none⟩) z0).trans q0_7
      replace q1_0 := (HX.cell (p := ⟨w.heap.size + 1, 0, none⟩) z1).trans q1_0
      replace q1_1 := (HX.cell (p := ⟨w.heap.size + 1, 1, none⟩) z1).trans q1_1
      replace q1_2 := (HX.cell (p := ⟨w.heap.size + 1, 2, none⟩) z1).trans q1_2
      replace q1_3 := (HX.cell (p := ⟨w.heap.size + 1, 3, none⟩) z1).trans q1_3
      replace q1_4 := (HX.cell (p := ⟨w.heap.size + 1, 4, none⟩) z1).trans q1_4
      replace q1_5 := (HX.cell (p := ⟨w.heap.size + 1, 5, none⟩) z1).trans q1_5
      replace q1_6 := (HX.cell (p := ⟨w.heap.size + 1, 6, none⟩) z1).trans q1_6
      replace q1_7 := (HX.cell (p := ⟨w.heap.size + 1, 7, none⟩) z1).trans q1_7
      replace z0 := Nat.lt_of_lt_of_le z0 HX.size
      replace z1 := Nat.lt_of_lt_of_le z1 HX.size
      clear f0 HX
      refine region_seqg (W := Y) [_, _, _, _, _, _] [_] rfl (by kernel_rfl) (by kernel_rfl) (by repeat (first | (with_reducible assumption) | (with_reducible exact Below.refl _ _) | (with_reducible refine Below.alloc ?_ (by first | omega | (simp; omega) | (simp; done) | (dsimp only; omega)) _) | (with_reducible refine Below.setCell ?_ (by first | omega | (simp; omega) | (simp; done) | (dsimp only; omega)) _) | (with_reducible refine Below.drew ?_) | (with_reducible refine Below.trans ?_ (Below.mono (by assumption) (by first | omega | (simp; omega) | (simp; done) | (dsimp only; omega)))))) (fun fin hfin => ?_)
      iterate 4
        first
          | (refine SeqG.yes (v := ?_) (A' := ?_) rfl (fun γ => by rfl) ?_ ?_ ?_
             rotate_left 2
             · intro γ w' K hS hK
               obtain ⟨hc, hf⟩ := bcell hS
               have hz := hS.size
               go_simp
               first
                 | exact hK.out _ (Below.refl _ _)
                 | trace_state
             · intro γ; simp only [Act.put, List.setIfInBounds_toArray, List.set_cons_zero, List.set_cons_succ]; exact rfl)
          | (refine SeqG.no (A' := ?_) rfl (fun γ => by rfl) ?_ ?_
             rotate_left
             · intro γ; simp only [Act.put, List.setIfInBounds_toArray, List.set_cons_zero, List.set_cons_succ]; exact rfl)
      refine SeqG.make (k := 4) (A' := ?_) (fun g => .agg #[.bool (n), .slice (gA g) (srt l).length (g 2)]) (RSetG (srt l)) rfl (fun γ => by rfl) (RSetG.stable _) ?_ ?_ ?_
      rotate_left
      · intro γ w' K hS hF hK
        obtain ⟨hc, hf⟩ := bcell hS
        have hz := hS.size
        go_simp
        (go_at_call 72; refine (HC.out w' (HWX.trans (hS.mono (by omega)))).mono ?_; rintro e w1 ⟨⟨v, rfl, hset⟩, hb1⟩; obtain ⟨g, rfl, hg⟩ := SetV.ghost hset (by omega) (lo := w'.heap.size); exact hK.out g w1 hb1 hg)
      · intro γ; simp only [Act.put, List.setIfInBounds_toArray, List.set_cons_zero, List.set_cons_succ]; exact rfl
      refine SeqG.hang (k := 5) (A' := ?_) (fun γ => .agg #[.bool false, .int .i64 0, .int .i64 0, .bool false, .int .i64 0, .int .i64 0, .bool n, .slice (gA (γ 4)) (srt l).length (γ 4 2)]) rfl (fun γ => by rfl) (fun i _ hn γ g => ?_) (fun γ g => ?_) ?_ ?_ ?_
      rotate_left
      · have hne4 : 4 ≠ i := fun e => hn (by rw [← e]; exact reachL_spec (of_decide_eq_true (by kernel_rfl)))
        (try dsimp only); rw [updG_ne γ g hne4]
      · (try dsimp only); rw [updG_ne γ g (show 4 ≠ 5 by decide)]
      · intro γ w' K hS _ hK
        obtain ⟨hc, hf⟩ := bcell hS
        have hz := hS.size
        go_simp
        exact hK.out _ (Below.refl _ _)
      · intro γ; simp only [Act.put, List.setIfInBounds_toArray, List.set_cons_zero, List.set_cons_succ]; exact rfl
      refine SeqG.nil (hfin.out _ _ ?_)
      clear hfin fin
      intro γ lo hi w1 hB1 hF hD
      replace hF := listF1 hF
      dsimp only at hF
      clear hD
      obtain ⟨y8, l8, o8, hR⟩ := hF
      have hM := RSetG.made hR
      have HB := HWX.trans (hB1.mono HWX.size)
      replace f1 := fun o => (hB1.frozen (p := ⟨w.heap.size + 1, o, none⟩) z1).trans (f1 o)
      replace q0_0 := (hB1.cell (p := ⟨w.heap.size, 0, none⟩) z0).trans q0_0
      replace q0_1 := (hB1.cell (p := ⟨w.heap.size, 1, none⟩) z0).trans q0_1
      replace q0_2 := (hB1.cell (p := ⟨w.heap.size, 2, none⟩) z0).trans q0_2
      replace q0_3 := (hB1.cell (p := ⟨w.heap.size, 3, none⟩) z0).trans q0_3
      replace q0_4 := (hB1.cell (p := ⟨w.heap.size, 4, none⟩) z0).trans q0_4
      replace q0_5 := (hB1.cell (p := ⟨w.heap.size, 5, none⟩) z0).trans q0_5
      replace q0_6 := (hB1.cell (p := ⟨w.heap.size, 6, none⟩) z0).trans q0_6
      replace q0_7 := (hB1.cell (p := ⟨w.heap.size, 7, none⟩) z0).trans q0_7
      replace q1_0 := (hB1.cell (p := ⟨w.heap.size + 1, 0, none⟩) z1).trans q1_0
      replace q1_1 := (hB1.cell (p := ⟨w.heap.size + 1, 1, none⟩) z1).trans q1_1
      replace q1_2 := (hB1.cell (p := ⟨w.heap.size + 1, 2, none⟩) z1).trans q1_2
      replace q1_3 := (hB1.cell (p := ⟨w.heap.size + 1, 3, none⟩) z1).trans q1_3
      replace q1_4 := (hB1.cell (p := ⟨w.heap.size + 1, 4, none⟩) z1).trans q1_4
      replace q1_5 := (hB1.cell (p := ⟨w.heap.size + 1, 5, none⟩) z1).trans q1_5
      replace q1_6 := (hB1.cell (p := ⟨w.heap.size + 1, 6, none⟩) z1).trans q1_6
      replace q1_7 := (hB1.cell (p := ⟨w.heap.size + 1, 7, none⟩) z1).trans q1_7
      replace z0 := Nat.lt_of_lt_of_le z0 hB1.size
      replace z1 := Nat.lt_of_lt_of_le z1 hB1.size
      generalize gA (γ 4) = A1 at *
      generalize γ 4 2 = c1 at *
      clear hR hB1 p_0 p_1 p_2 q_0 q_1 q_2 q0_0 q0_1 q0_2 q0_3 q0_4 q0_5 q0_6 q0_7 fp fq zp zq
      refine TailL.cons (fun K hK => ?_)
      go_simp
      refine hK.out _ _ ?_
      clear hK K
      refine TailL.nil ?_
      go_wp2
      refine bodyPost_ret (by simp [results, Tryz.results29, go_sem, *] <;> rfl) rfl ⟨⟨A1, c1, rfl, (by (refine MadeV.base (b := w.heap.size + 2) ?_ (by omega)); (repeat refine MadeV.setCell ?_ (by first | omega | (simp; omega)) _); first | exact hM | exact hM.base (by omega))⟩, (by repeat (first | (with_reducible assumption) | (with_reducible exact Below.refl _ _) | (with_reducible refine Below.alloc ?_ (by first | omega | (simp; omega) | (simp; done) | (dsimp only; omega)) _) | (with_reducible refine Below.setCell ?_ (by first | omega | (simp; omega) | (simp; done) | (dsimp only; omega)) _) | (with_reducible refine Below.drew ?_) | (with_reducible refine Below.trans ?_ (Below.mono (by assumption) (by first | omega | (simp; omega) | (simp; done) | (dsimp only; omega))))))⟩
end Go.Proofs.YtdpnphnafidpiaaGreat

/- X-PARTIAL What sondageref08.Reduce, HasInt, Exact return: layer 8. -/
namespace Go.Proofs.YtdpnphnafidpiaaGreat
open Go.RowKit

set_option maxRecDepth 100000 in
set_option maxHeartbeats 4000000 in
theorem r8_HasInt (i : In) (hi : i.c.ok) (n : Bool) (l : List Str) (A : Option Addr) (c : Nat) (k : Int) (w : World) :
    Calls Tryz.prog 13 #[.agg #[.bool i.s.s, .int .i64 i.s.lo, .int .i64 i.s.hi, .bool i.c.s, .int .i64 i.c.m, .int .i64 i.c.r, .bool n, .slice A l.length c], .int .i64 k] w fun e w' => e = .returned (.bool (i.has k)) ∧ Below w.heap.size w w' := by
  have h1 := r3_has i.s k
  have H2 := Lib.hid (r5_has i.c k hi)
  unfold In.has
  cases h : i.s.has k
  all_goals
    rw [h] at h1
    have H1 := Lib.hid h1
    clear h1 h
    generalize i.c.has k = b at *
    go_enter Tryz.func13, Tryz.ntmps13
    go_wp2_with (first | (go_at_call 45; (with_reducible refine (H1.out _).mono ?_); rintro e w1 ⟨rfl, hb1⟩; obtain ⟨hc1, hf1⟩ := bcell hb1; have hz1 := hb1.size; (try simp at hz1); (try have hy1 := Nat.lt_of_succ_le hz1); (try have hv1 := Nat.lt_of_succ_lt hy1); (try have hw10 : w.heap.size < w1.heap.size := by omega); (try have hw11 : w.heap.size + 1 < w1.heap.size := by omega); (try have hw12 : w.heap.size + 1 + 1 < w1.heap.size := by omega); (try have hw13 : w.heap.size + 1 + 1 + 1 < w1.heap.size := by omega)) | (go_at_call 46; (with_reducible refine (H2.out _).mono ?_); rintro e w2 ⟨rfl, hb2⟩; obtain ⟨hc2, hf2⟩ := bcell hb2; have hz2 := hb2.size; (try simp at hz2); (try have hy2 := Nat.lt_of_succ_le hz2); (try have hv2 := Nat.lt_of_succ_lt hy2); (try have hw20 : w.heap.size < w2.heap.size := by omega); (try have hw21 : w.heap.size + 1 < w2.heap.size := by omega); (try have hw22 : w.heap.size + 1 + 1 < w2.heap.size := by omega); (try have hw23 : w.heap.size + 1 + 1 + 1 < w2.heap.size := by omega)))
    go_ret
    exact ⟨rfl, (by repeat (first | (with_reducible assumption) | (with_reducible exact Below.refl _ _) | (with_reducible refine Below.alloc ?_ (by first | omega | (simp; omega) | (simp; done) | (dsimp only; omega)) _) | (with_reducible refine Below.setCell ?_ (by first | omega | (simp; omega) | (simp; done) | (dsimp only; omega)) _) | (with_reducible refine Below.drew ?_) | (with_reducible refine Below.trans ?_ (Below.mono (by assumption) (by first | omega | (simp; omega) | (simp; done) | (dsimp only; omega))))))⟩

set_option maxRecDepth 100000 in
set_option maxHeartbeats 4000000 in
/-- Two values that hold the same. -/
theorem r8_Exact (i : In) (n : Bool) (l : List Str) (A B : Option Addr) (ca cb : Nat) (w : World) (hm : l.length ≤ 9223372036854775807) (hra : SRow w A l) (hrb : SRow w B l) :
    Calls Tryz.prog 5 #[.agg #[.bool i.s.s, .int .i64 i.s.lo, .int .i64 i.s.hi, .bool i.c.s, .int .i64 i.c.m, .int .i64 i.c.r, .bool n, .slice A l.length ca], .agg #[.bool i.s.s, .int .i64 i.s.lo, .int .i64 i.s.hi, .bool i.c.s, .int .i64 i.c.m, .int .i64 i.c.r, .bool n, .slice B l.length cb]] w fun e w' => e = .returned (.bool true) ∧ Below w.heap.size w w' := by
  have H1 : Hid (∀ w', Below w.heap.size w w' → _) := Lib.hid (fun w' h => exact_refl n l A B ca cb w' hm (hra.mono h) (hrb.mono h))
  clear hra hrb
  go_enter Tryz.func5, Tryz.ntmps5
  go_wp2_with fail
  go_at_call 22
  refine (H1.out _ (by repeat (first | (with_reducible assumption) | (with_reducible exact Below.refl _ _) | (with_reducible refine Below.alloc ?_ (by first | omega | (simp; omega) | (simp; done) | (dsimp only; omega)) _) | (with_reducible refine Below.setCell ?_ (by first | omega | (simp; omega) | (simp; done) | (dsimp only; omega)) _) | (with_reducible refine Below.drew ?_) | (with_reducible refine Below.trans ?_ (Below.mono (by assumption) (by first | omega | (simp; omega) | (simp; done) | (dsimp only; omega))))))).mono ?_
  rintro e w2 ⟨rfl, hb2⟩
  go_wp2
  go_ret
  exact ⟨rfl, (by repeat (first | (with_reducible assumption) | (with_reducible exact Below.refl _ _) | (with_reducible refine Below.alloc ?_ (by first | omega | (simp; omega) | (simp; done) | (dsimp only; omega)) _) | (with_reducible refine Below.setCell ?_ (by first | omega | (simp; omega) | (simp; done) | (dsimp only; omega)) _) | (with_reducible refine Below.drew ?_) | (with_reducible refine Below.trans ?_ (Below.mono (by assumption) (by first | omega | (simp; omega) | (simp; done) | (dsimp only; omega))))))⟩

end Go.Proofs.YtdpnphnafidpiaaGreat
