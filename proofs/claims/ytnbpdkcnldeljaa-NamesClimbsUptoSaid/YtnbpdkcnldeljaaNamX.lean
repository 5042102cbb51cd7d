/- The law NamesClimbs, walked. -/
import Derived.Test.YtnbpdkcnldeljaaNamV
namespace Go.Proofs.Ytnbpdkcnldeljaa
open Go.RowKit

def NClimb (L : List NSet) (N : Nat) (w : World) (vn vi : Value) (wx : World) : Prop :=
  ∃ (k n : Nat) (np : Bool) (P : List Str) (A3 : Option Addr) (c3 : Nat) (A4 : Option Addr) (c4 : Nat), k ≤ L.length ∧ vi = .int .i64 k ∧ vn = .int .i64 n ∧ n ≤ rankS np P ∧ Strict P ∧ P.length ≤ sumS (L.take k) ∧
    wx.heap[N]? = some (.cells #[.bool np, .slice A3 P.length c3] 24) ∧ wx.heap[N + 1]? = some (.cells #[.bool np, .slice A4 P.length c4] 24) ∧ SRow wx A3 P ∧ SRow wx A4 P ∧
    (A3 = none → c3 = 0) ∧ (A4 = none → c4 = 0) ∧ (∀ a, A3 = some a → N + 2 ≤ a.block) ∧ (∀ a, A4 = some a → N + 2 ≤ a.block) ∧ Below N w wx

set_option maxRecDepth 100000 in
set_option maxHeartbeats 8000000 in
theorem law_namesClimbs (L : List NSet) (A : Option Addr) (c : Nat) (w : World) (hm : sumS L ≤ 1048576) (hl : L.length ≤ 1048576) (hr : NRow w A L) (hall : NAll w L) :
    Calls Try.prog 6 #[.slice A L.length c] w fun e w' => e = .returned (.bool true) ∧ Below w.heap.size w w' := by
  have HALL := Lib.hid hall
  clear hall
  go_enter Try.func6, Try.ntmps6
  go_wp2
  go_loopw [5, 6] (fun vn vi wx => NClimb L w.heap.size w vn vi wx) (fun _ vi _ => L.length - (intOf vi).toNat)
  case atStart =>
    refine ⟨0, 0, false, [], none, 0, none, 0, Nat.zero_le _, rfl, rfl, Nat.zero_le _, strict_nil, Nat.zero_le _, ?_, ?_, rfl, rfl, (fun _ => rfl), (fun _ => rfl), (fun a e => by cases e), (fun a e => by cases e), (by repeat (first | (with_reducible assumption) | (with_reducible exact Below.refl _ _) | (with_reducible refine Below.alloc ?_ (by first | omega | (simp; omega) | (simp; done) | (dsimp only; omega)) _) | (with_reducible refine Below.setCell ?_ (by first | omega | (simp; omega) | (simp; done) | (dsimp only; omega)) _) | (with_reducible refine Below.drew ?_) | (with_reducible refine Below.trans ?_ (Below.mono (by assumption) (by first | omega | (simp; omega) | (simp; done) | (dsimp only; omega))))))⟩
    · exact al2_0 _ _ _
    · exact al2_1 _ _ _
  case round =>
    obtain ⟨k, n, np, P, A3, c3, A4, c4, hk, rfl, rfl, hn, hP, hPl, h3, h4, r3, r4, n3, n4, s3, s4, hB⟩ := hrel
    have q0_0 := blk_cell h3 0
    have q0_1 := blk_cell h3 1
    have q1_0 := blk_cell h4 0
    have q1_1 := blk_cell h4 1
    simp only [List.getElem?_toArray, List.getElem?_cons_zero, List.getElem?_cons_succ] at q0_0 q0_1 q1_0 q1_1
    have z0 := blk_lt h3
    have z1 := blk_lt h4
    have hsl := sumS_take_le L k
    by_cases hlt : k < L.length
    · have hsk := sumS_take L k hlt
      have hsk' := sumS_take_le L (k + 1)
      have hx := HALL.out L[k] (List.getElem_mem hlt)
      obtain ⟨bb, oo, rfl, e0, e1, hbb⟩ := hr.cell hlt
      generalize L[k] = x at *
      obtain ⟨xn, xA, X, xc⟩ := x
      dsimp only at hx e0 e1 hsk
      obtain ⟨hxr, hxz⟩ := hx
      have hcl := climb np xn P X hP
      have hT := srt_len_le (P ++ X)
      rw [List.length_append] at hT
      have hTs := strict_srt (P ++ X)
      have y0 := (hB.cell (p := ⟨bb, oo + k * 2, none⟩) hbb).trans e0
      have y1 := (hB.cell (p := ⟨bb, oo + k * 2 + 1, none⟩) hbb).trans e1
      have zb : bb < wr.heap.size := Nat.lt_trans hbb z0
      have rx := hxr.mono hB
      have hzr : w.heap.size ≤ wr.heap.size := by omega
      have hr1 : rankS np P ≤ P.length + 1 := by unfold rankS; split <;> omega
      have hn3 : (n : Int) ≤ 1048577 := by omega
      clear hr1
      have H1 : Hid (∀ w', Below wr.heap.size wr w' → _) := Lib.hid (fun w' h => names_Join np xn P X A3 xA c3 xc w' (by omega) n3 hxz (r3.mono h) (rx.mono h))
      go_wp2
      refine region_seqg (W := wr) [_, _, _, _, _, _, _] [_] rfl (by kernel_rfl) (by kernel_rfl) (by repeat (first | (with_reducible assumption) | (with_reducible exact Below.refl _ _) | (with_reducible refine Below.alloc ?_ (by first | omega | (simp; omega) | (simp; done) | (dsimp only; omega)) _) | (with_reducible refine Below.setCell ?_ (by first | omega | (simp; omega) | (simp; done) | (dsimp only; omega)) _) | (with_reducible refine Below.drew ?_) | (with_reducible refine Below.trans ?_ (Below.mono (by assumption) (by first | omega | (simp; omega) | (simp; done) | (dsimp only; omega)))))) (fun fin hfin => ?_)
      iterate 5
        first
          | (refine SeqG.yes (v := ?_) (A' := ?_) rfl (fun γ => by rfl) ?_ ?_ ?_
             rotate_left 2
             · intro γ w' K hS hK
               obtain ⟨hc, hf⟩ := bcell hS
               have hz := hS.size
               go_simp
               first
                 | exact hK.out _ (Below.refl _ _)
                 | trace_state
             · intro γ; simp only [Act.put, List.setIfInBounds_toArray, List.set_cons_zero, List.set_cons_succ]; exact rfl)
          | (refine SeqG.no (A' := ?_) rfl (fun γ => by rfl) ?_ ?_
             rotate_left
             · intro γ; simp only [Act.put, List.setIfInBounds_toArray, List.set_cons_zero, List.set_cons_succ]; exact rfl)
      refine SeqG.make (k := 5) (A' := ?_) (fun g => .agg #[.bool (np || xn), .slice (gA g) (srt (P ++ X)).length (g 2)]) (RSetG (srt (P ++ X))) rfl (fun γ => by rfl) (RSetG.stable _) ?_ ?_ ?_
      rotate_left
      · intro γ w' K hS hF hK
        obtain ⟨hc, hf⟩ := bcell hS
        have hz := hS.size
        go_simp
        (go_at_call 13; refine (H1.out w' hS).mono ?_; rintro e w1 ⟨⟨v, rfl, hset⟩, hb1⟩; obtain ⟨g, rfl, hg⟩ := SetV.ghost hset (by omega) (lo := w'.heap.size); exact hK.out g w1 hb1 hg)
      · intro γ; simp only [Act.put, List.setIfInBounds_toArray, List.set_cons_zero, List.set_cons_succ]; exact rfl
      refine SeqG.make (k := 6) (A' := ?_) (fun g => .pointer (some ⟨g 0, 0, none⟩)) (RCell #[.bool false, .slice none 0 0] 24) rfl (fun γ => by rfl) (RCell.stable _ _) ?_ ?_ ?_
      rotate_left
      · intro γ w' K hS _ hK
        have hm := RCell.made (#[.bool false, .slice none 0 0]) (24) w'
        have HK := Lib.hid (hK.out (fun _ => w'.heap.size) (w'.alloc (.cells #[.bool false, .slice none 0 0] 24)) ((Below.refl _ _).alloc (Nat.le_refl _) _) hm); clear hK hm
        go_simp
        exact HK.out
      · intro γ; simp only [Act.put, List.setIfInBounds_toArray, List.set_cons_zero, List.set_cons_succ]; exact rfl
      refine SeqG.nil (hfin.out _ _ ?_)
      clear hfin fin
      intro γ lo hi w1 hB1 hF hD
      replace hF := listF2 hF
      dsimp only at hF
      replace hD := listD2 hD
      dsimp only at hD
      replace hD := hD (by decide)
      obtain ⟨⟨y5, l5, o5, rT, m5, t5, nT, sT⟩, ⟨y6, l6, o6, p6, p6', h6⟩⟩ := hF
      have w6 : wr.heap.size ≤ γ 6 0 := by omega
      have x6 : γ 6 0 < w1.heap.size := by omega
      have FT : ∀ a, gA (γ 5) = some a → srt (P ++ X) ≠ [] → a.block ≠ γ 6 0 := fun a e hne => by
        have h1 := (sT a e).1; have h2 := (sT a e).2 hne; omega
      have GT : ∀ a, gA (γ 5) = some a → wr.heap.size ≤ a.block := fun a e => by
        have h1 := (sT a e).1; omega
      clear hD sT p6 p6' o6 l6
      generalize γ 6 0 = b7 at *
      generalize gA (γ 5) = AT at *
      generalize γ 5 2 = cT at *
      have g6 := blk_cell h6
      have f6 := blk_free h6
      have K6 := Lib.hid h6; clear h6
      refine TailL.cons (fun K hK => ?_)
      go_simp
      refine hK.out _ _ ?_
      clear hK K
      refine TailL.nil ?_
      generalize hX : (w1.setCell ⟨b7, 0, none⟩ (.bool (np || xn))).setCell ⟨b7, 1, none⟩ (.slice AT (srt (P ++ X)).length cT) = U
      have HU : Below wr.heap.size wr U := by rw [← hX]; exact (by repeat (first | (with_reducible assumption) | (with_reducible exact Below.refl _ _) | (with_reducible refine Below.alloc ?_ (by first | omega | (simp; omega) | (simp; done) | (dsimp only; omega)) _) | (with_reducible refine Below.setCell ?_ (by first | omega | (simp; omega) | (simp; done) | (dsimp only; omega)) _) | (with_reducible refine Below.drew ?_) | (with_reducible refine Below.trans ?_ (Below.mono (by assumption) (by first | omega | (simp; omega) | (simp; done) | (dsimp only; omega))))))
      have q7 : U.heap[b7]? = some (.cells #[.bool (np || xn), .slice AT (srt (P ++ X)).length cT] 24) := by rw [← hX]; exact blk_set2 K6.out
      have rTU : SRow U AT (srt (P ++ X)) := rT.far (fun a e hne p hp => by rw [← hX]; exact cell_far2 _ _ _ _ _ (by rw [hp]; exact FT a e hne))
      clear hX g6 f6 hB1 rT FT K6 H1
      have q7_0 := blk_cell q7 0
      have q7_1 := blk_cell q7 1
      simp only [List.getElem?_toArray, List.getElem?_cons_zero, List.getElem?_cons_succ] at q7_0 q7_1
      have z7 := blk_lt q7
      have u3 : U.heap[w.heap.size]? = some (.cells #[.bool np, .slice A3 P.length c3] 24) := by rw [HU.block _ z0]; exact h3
      have u4 : U.heap[w.heap.size + 1]? = some (.cells #[.bool np, .slice A4 P.length c4] 24) := by rw [HU.block _ z1]; exact h4
      have HS := Lib.hid (names_Same (np || xn) np (srt (P ++ X)) P AT A3 cT c3 U (by omega) (by omega) rTU (r3.mono HU))
      have HBU : Below w.heap.size w U := hB.trans (HU.mono (by omega))
      have r4U := r4.mono HU
      clear h3 h4 r3 r4 q0_0 q0_1 q1_0 q1_1 y0 y1 rx hB
      generalize (leqS (np || xn) (srt (P ++ X)) np P && leqS np P (np || xn) (srt (P ++ X))) = same at *
      have q0_0 := blk_cell u3 0
      have q0_1 := blk_cell u3 1
      have q1_0 := blk_cell u4 0
      have q1_1 := blk_cell u4 1
      simp only [List.getElem?_toArray, List.getElem?_cons_zero, List.getElem?_cons_succ] at q0_0 q0_1 q1_0 q1_1
      have v0 := blk_lt u3
      have v1 := blk_lt u4
      have hzU := HU.size
      go_wp2_with fail
      go_at_call 19
      refine HS.out.mono ?_
      rintro e x2 ⟨rfl, hb2⟩
      have hz2 := hb2.size
      replace q7_0 := (hb2.cell (p := ⟨b7, 0, none⟩) z7).trans q7_0
      replace q7_1 := (hb2.cell (p := ⟨b7, 1, none⟩) z7).trans q7_1
      have k3 := (hb2.block _ v0).trans u3
      have k4 := (hb2.block _ v1).trans u4
      have f3 := blk_free k3
      have k3_0 := blk_cell k3 0
      have k3_1 := blk_cell k3 1
      simp only [List.getElem?_toArray, List.getElem?_cons_zero, List.getElem?_cons_succ] at k3_0 k3_1
      have rT2 := rTU.mono hb2
      have r42 := r4U.mono hb2
      have HB2 : Below w.heap.size w x2 := HBU.trans (hb2.mono (by omega))
      clear u3 u4 q0_0 q0_1 q1_0 q1_1 rTU r4U HBU q7 HU HS
      cases same
      all_goals
        go_upto_region 10 with fail
        generalize hY : (x2.setCell ⟨w.heap.size, 0, none⟩ (.bool (np || xn))).setCell ⟨w.heap.size, 1, none⟩ (.slice AT (srt (P ++ X)).length cT) = Y
        have HY : Below w.heap.size w Y := by rw [← hY]; exact (by repeat (first | (with_reducible assumption) | (with_reducible exact Below.refl _ _) | (with_reducible refine Below.alloc ?_ (by first | omega | (simp; omega) | (simp; done) | (dsimp only; omega)) _) | (with_reducible refine Below.setCell ?_ (by first | omega | (simp; omega) | (simp; done) | (dsimp only; omega)) _) | (with_reducible refine Below.drew ?_) | (with_reducible refine Below.trans ?_ (Below.mono (by assumption) (by first | omega | (simp; omega) | (simp; done) | (dsimp only; omega))))))
        have j3 : Y.heap[w.heap.size]? = some (.cells #[.bool (np || xn), .slice AT (srt (P ++ X)).length cT] 24) := by rw [← hY]; exact blk_set2 k3
        have j4 : Y.heap[w.heap.size + 1]? = some (.cells #[.bool np, .slice A4 P.length c4] 24) := by
          rw [← hY]
          (iterate 2 (refine (Below.heap_setCell _ _ _ _ (by dsimp only; omega)).trans ?_))
          exact k4
        have rTY : SRow Y AT (srt (P ++ X)) := rT2.far (fun a e hne p hp => by rw [← hY]; exact cell_far2 _ _ _ _ _ (by rw [hp]; have := GT a e; omega))
        have r4Y : SRow Y A4 P := r42.far (fun a e hne p hp => by rw [← hY]; exact cell_far2 _ _ _ _ _ (by rw [hp]; have := s4 a e; omega))
        have hYs : Y.heap.size = x2.heap.size := by rw [← hY]; simp
        clear hY k3 k4 f3 k3_0 k3_1 rT2 r42 q7_0 q7_1
        have y0 := (HY.cell (p := ⟨bb, oo + k * 2, none⟩) hbb).trans e0
        have y1 := (HY.cell (p := ⟨bb, oo + k * 2 + 1, none⟩) hbb).trans e1
        have rx := hxr.mono HY
        have q1_0 := blk_cell j4 0
        have q1_1 := blk_cell j4 1
        simp only [List.getElem?_toArray, List.getElem?_cons_zero, List.getElem?_cons_succ] at q1_0 q1_1
        have d0 := blk_lt j3
        have d1 := blk_lt j4
        have d2 : bb < Y.heap.size := by omega
        have f4 := blk_free j4
        have H2 : Hid (∀ w', Below Y.heap.size Y w' → _) := Lib.hid (fun w' h => r7_Join np xn P X A4 xA c4 xc w' (by omega) n4 hxz (r4Y.mono h) (rx.mono h))
        have HCL := Lib.hid hcl
        have HTK := Lib.hid (show (srt (P ++ X)).length ≤ sumS (L.take (k + 1)) by omega)
        have HGT := Lib.hid GT
        have HS4 := Lib.hid s4
        have HJ3 := Lib.hid j3
        have HJ4 := Lib.hid j4
        have HN4 := Lib.hid n4
        have HNT := Lib.hid nT
        clear hYs hcl GT s3 s4 j3 j4 n3 n4 nT hb2 HB2 hz2 hzU z7 v0 v1 hsk hsk' hsl hPl e0 e1 hr hT m5 t5 y5 l5 o5 y6 w6 x6
        refine region_seqg (W := Y) [_, _, _, _, _, _] [_] rfl (by kernel_rfl) (by kernel_rfl) (by repeat (first | (with_reducible assumption) | (with_reducible exact Below.refl _ _) | (with_reducible refine Below.alloc ?_ (by first | omega | (simp; omega) | (simp; done) | (dsimp only; omega)) _) | (with_reducible refine Below.setCell ?_ (by first | omega | (simp; omega) | (simp; done) | (dsimp only; omega)) _) | (with_reducible refine Below.drew ?_) | (with_reducible refine Below.trans ?_ (Below.mono (by assumption) (by first | omega | (simp; omega) | (simp; done) | (dsimp only; omega)))))) (fun fin hfin => ?_)
        iterate 5
          first
            | (refine SeqG.yes (v := ?_) (A' := ?_) rfl (fun γ => by rfl) ?_ ?_ ?_
               rotate_left 2
               · intro γ w' K hS hK
                 obtain ⟨hc, hf⟩ := bcell hS
                 have hz := hS.size
                 go_simp
                 first
                   | exact hK.out _ (Below.refl _ _)
                   | trace_state
               · intro γ; simp only [Act.put, List.setIfInBounds_toArray, List.set_cons_zero, List.set_cons_succ]; exact rfl)
            | (refine SeqG.no (A' := ?_) rfl (fun γ => by rfl) ?_ ?_
               rotate_left
               · intro γ; simp only [Act.put, List.setIfInBounds_toArray, List.set_cons_zero, List.set_cons_succ]; exact rfl)
        refine SeqG.make (k := 5) (A' := ?_) (fun g => .agg #[.bool (np || xn), .slice (gA g) (srt (P ++ X)).length (g 2)]) (RSetG (srt (P ++ X))) rfl (fun γ => by rfl) (RSetG.stable _) ?_ ?_ ?_
        rotate_left
        · intro γ w' K hS hF hK
          obtain ⟨hc, hf⟩ := bcell hS
          have hz := hS.size
          go_simp
          (go_at_call 14; refine (H2.out w' hS).mono ?_; rintro e w1 ⟨⟨v, rfl, hset⟩, hb1⟩; obtain ⟨g, rfl, hg⟩ := SetV.ghost hset (by omega) (lo := w'.heap.size); exact hK.out g w1 hb1 hg)
        · intro γ; simp only [Act.put, List.setIfInBounds_toArray, List.set_cons_zero, List.set_cons_succ]; exact rfl
        refine SeqG.nil (hfin.out _ _ ?_)
        clear hfin fin
        intro γ lo hi w1 hB1 hF hD
        replace hF := listF1 hF
        dsimp only at hF
        clear hD
        obtain ⟨y5, l5, o5, rQ, m5, t5, nQ, sQ⟩ := hF
        have GQ : ∀ a, gA (γ 5) = some a → Y.heap.size ≤ a.block := fun a e => by
          have h1 := (sQ a e).1; omega
        clear sQ m5 t5
        generalize gA (γ 5) = AQ at *
        generalize γ 5 2 = cQ at *
        have HGQ := Lib.hid GQ
        have HNQ := Lib.hid nQ
        have k4 := (hB1.block _ d1).trans HJ4.out
        have f5 := blk_free k4
        have p1_0 := blk_cell k4 0
        have p1_1 := blk_cell k4 1
        simp only [List.getElem?_toArray, List.getElem?_cons_zero, List.getElem?_cons_succ] at p1_0 p1_1
        have hz1 := hB1.size
        have HB1 : Below w.heap.size w w1 := HY.trans (hB1.mono (by omega))
        clear GQ nQ q1_0 q1_1 y0 y1 f4 y5 l5 o5
        refine TailL.cons (fun K hK => ?_)
        go_simp
        refine hK.out _ _ ?_
        clear hK K
        refine TailL.nil ?_
        generalize hZ : (w1.setCell ⟨w.heap.size + 1, 0, none⟩ (.bool (np || xn))).setCell ⟨w.heap.size + 1, 1, none⟩ (.slice AQ (srt (P ++ X)).length cQ) = Z
        have HZ : Below w.heap.size w Z := by rw [← hZ]; exact (by repeat (first | (with_reducible assumption) | (with_reducible exact Below.refl _ _) | (with_reducible refine Below.alloc ?_ (by first | omega | (simp; omega) | (simp; done) | (dsimp only; omega)) _) | (with_reducible refine Below.setCell ?_ (by first | omega | (simp; omega) | (simp; done) | (dsimp only; omega)) _) | (with_reducible refine Below.drew ?_) | (with_reducible refine Below.trans ?_ (Below.mono (by assumption) (by first | omega | (simp; omega) | (simp; done) | (dsimp only; omega))))))
        have j3 : Z.heap[w.heap.size]? = some (.cells #[.bool (np || xn), .slice AT (srt (P ++ X)).length cT] 24) := by
          rw [← hZ]
          (iterate 2 (refine (Below.heap_setCell _ _ _ _ (by dsimp only; omega)).trans ?_))
          exact (hB1.block _ d0).trans HJ3.out
        have j4 : Z.heap[w.heap.size + 1]? = some (.cells #[.bool (np || xn), .slice AQ (srt (P ++ X)).length cQ] 24) := by rw [← hZ]; exact blk_set2 k4
        have rTZ : SRow Z AT (srt (P ++ X)) := (rTY.mono hB1).far (fun a e hne p hp => by rw [← hZ]; exact cell_far2 _ _ _ _ _ (by rw [hp]; have := HGT.out a e; omega))
        have rQZ : SRow Z AQ (srt (P ++ X)) := rQ.far (fun a e hne p hp => by rw [← hZ]; exact cell_far2 _ _ _ _ _ (by rw [hp]; have := HGQ.out a e; omega))
        have HJ5 := Lib.hid j3
        have HJ6 := Lib.hid j4
        clear hZ j3 j4 k4 f5 p1_0 p1_1 HB1 hB1 rTY rQ
        go_wp2
        go_roundw
        case rel =>
          first
            | exact ⟨k + 1, n + 1, np || xn, srt (P ++ X), AT, cT, AQ, cQ, by omega, by go_num, by go_num, (by have h9 := HCL.out; simp at h9; omega), hTs, HTK.out, HJ5.out, HJ6.out, rTZ, rQZ, HNT.out, HNQ.out, (fun a e => by have := HGT.out a e; omega), (fun a e => by have := HGQ.out a e; omega), HZ⟩
            | exact ⟨k + 1, n, np || xn, srt (P ++ X), AT, cT, AQ, cQ, by omega, by go_num, rfl, (by have h9 := HCL.out; simp at h9; omega), hTs, HTK.out, HJ5.out, HJ6.out, rTZ, rQZ, HNT.out, HNQ.out, (fun a e => by have := HGT.out a e; omega), (fun a e => by have := HGQ.out a e; omega), HZ⟩
        case measure => simp [intOf]; omega
    · have hr1 : rankS np P ≤ P.length + 1 := by unfold rankS; split <;> omega
      have hPI : (P.length : Int) ≤ 1048576 := by omega
      have hnd : decide ((n : Int) ≤ (P.length : Int) + 1) = true := by simp; omega
      have HX := Lib.hid (exact_refl np P A3 A4 c3 c4 wr (by omega) r3 r4)
      have HBH := Lib.hid hB
      clear hr1 h3 h4 r3 r4 n3 n4 s3 s4 hr hsl hPl hB
      go_wp2_with fail
      go_at_call 12
      refine HX.out.mono ?_
      rintro e x1 ⟨rfl, hb1⟩
      go_wp2_with fail
      go_at_call 23
      refine (law07_lives x1).mono ?_
      rintro e x2 ⟨rfl, hb2⟩
      go_wp2
      go_ret
      exact ⟨rfl, HBH.out.trans ((hb1.trans (hb2.mono hb1.size)).mono (by omega))⟩
end Go.Proofs.Ytnbpdkcnldeljaa
