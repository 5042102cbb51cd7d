/- The law ValueClimbs, walked. -/
import Derived.Test.YtdpnphnafidpiaaVRow
import Derived.Test.YtdpnphnafidpiaaValL
namespace Go.Proofs.Ytdpnphnafidpiaa
open Go.RowKit

def VClimb (L : List NVal) (R : List Int) (N : Nat) (w : World) (vn vi : Value) (wx : World) : Prop :=
  ∃ (k n : Nat) (v : In) (np : Bool) (P : List Str) (A3 : Option Addr) (c3 : Nat) (A4 : Option Addr) (c4 : Nat), k ≤ L.length ∧ vi = .int .i64 k ∧ vn = .int .i64 n ∧ n + (v.s.wrank R + v.c.rank) ≤ 2 * R.length + 68 + rankS np P ∧ v.std ∧ Strict P ∧ P.length ≤ sumV (L.take k) ∧
    wx.heap[N]? = some (.cells #[.bool v.s.s, .int .i64 v.s.lo, .int .i64 v.s.hi, .bool v.c.s, .int .i64 v.c.m, .int .i64 v.c.r, .bool np, .slice A3 P.length c3] 30) ∧ wx.heap[N + 1]? = some (.cells #[.bool np, .slice A4 P.length c4] 28) ∧ SRow wx A3 P ∧ SRow wx A4 P ∧
    (A3 = none → c3 = 0) ∧ (A4 = none → c4 = 0) ∧ (∀ a, A3 = some a → N + 2 ≤ a.block) ∧ (∀ a, A4 = some a → N + 2 ≤ a.block) ∧ Below N w wx

set_option maxRecDepth 100000 in
set_option maxHeartbeats 8000000 in
theorem law_valueClimbs (L : List NVal) (A : Option Addr) (c : Nat) (R : List Int) (B : Option Addr) (d : Nat) (w : World) (hm : sumV L ≤ 1048576) (hl : L.length ≤ 1048576) (hlR : R.length ≤ 1048576) (hr : VRow w A L) (hall : VAll w L) (hrR : IRow w B R) :
    Calls Try.prog 4 #[.slice A L.length c, .slice B R.length d] w fun e w' => e = .returned (.bool true) ∧ Below w.heap.size w w' := by
  have HALL := Lib.hid hall
  have HRR : Hid (∀ w', Below w.heap.size w w' → IRow w' B R) := Lib.hid (fun w' h => hrR.mono h)
  clear hall hrR
  go_enter Try.func4, Try.ntmps4
  go_wp2
  go_loopw [7, 8] (fun vn vi wx => VClimb L R w.heap.size w vn vi wx) (fun _ vi _ => L.length - (intOf vi).toNat)
  case atStart =>
    refine ⟨0, 0, In.zero, false, [], none, 0, none, 0, Nat.zero_le _, rfl, rfl, by have := In.zero_rank R; omega, In.zero_std, strict_nil, Nat.zero_le _, ?_, ?_, rfl, rfl, (fun _ => rfl), (fun _ => rfl), (fun a e => by cases e), (fun a e => by cases e), (by repeat (first | (with_reducible assumption) | (with_reducible exact Below.refl _ _) | (with_reducible refine Below.alloc ?_ (by first | omega | (simp; omega) | (simp; done) | (dsimp only; omega)) _) | (with_reducible refine Below.setCell ?_ (by first | omega | (simp; omega) | (simp; done) | (dsimp only; omega)) _) | (with_reducible refine Below.drew ?_) | (with_reducible refine Below.trans ?_ (Below.mono (by assumption) (by first | omega | (simp; omega) | (simp; done) | (dsimp only; omega))))))⟩
    · exact al2_0 _ _ _
    · exact al2_1 _ _ _
  case round =>
    obtain ⟨k, n, v, np, P, A3, c3, A4, c4, hk, rfl, rfl, hn, hv, hP, hPl, h3, h4, r3, r4, n3, n4, s3, s4, hB⟩ := hrel
    have z0 := blk_lt h3
    have z1 := blk_lt h4
    have hsl := sumV_take_le L k
    by_cases hlt : k < L.length
    · have hsk := sumV_take L k hlt
      have hsk' := sumV_take_le L (k + 1)
      have hx := HALL.out L[k] (List.getElem_mem hlt)
      obtain ⟨bb, oo, rfl, e0, hbb⟩ := hr.cell hlt
      generalize L[k] = x at *
      obtain ⟨xi, xn, xA, X, xc⟩ := x
      unfold NVal.cells at e0
      dsimp only at hx e0 hsk
      obtain ⟨hxo, hxr, hxz⟩ := hx
      have hT := srt_len_le (P ++ X)
      rw [List.length_append] at hT
      have hTs := strict_srt (P ++ X)
      have hcl := climb np xn P X hP
      obtain ⟨u1, u2, u3, u4⟩ := In.widen_step R hv hxo
      obtain ⟨lj1, lj2⟩ := lat_j np xn P X
      have y0 := (hB.cell (p := ⟨bb, oo + k * 8 + 0, none⟩) hbb).trans (e0 0 (by omega))
      have y1 := (hB.cell (p := ⟨bb, oo + k * 8 + 1, none⟩) hbb).trans (e0 1 (by omega))
      have y2 := (hB.cell (p := ⟨bb, oo + k * 8 + 2, none⟩) hbb).trans (e0 2 (by omega))
      have y3 := (hB.cell (p := ⟨bb, oo + k * 8 + 3, none⟩) hbb).trans (e0 3 (by omega))
      have y4 := (hB.cell (p := ⟨bb, oo + k * 8 + 4, none⟩) hbb).trans (e0 4 (by omega))
      have y5 := (hB.cell (p := ⟨bb, oo + k * 8 + 5, none⟩) hbb).trans (e0 5 (by omega))
      have y6 := (hB.cell (p := ⟨bb, oo + k * 8 + 6, none⟩) hbb).trans (e0 6 (by omega))
      have y7 := (hB.cell (p := ⟨bb, oo + k * 8 + 7, none⟩) hbb).trans (e0 7 (by omega))
      simp only [Nat.add_zero, List.getElem?_cons_zero, List.getElem?_cons_succ] at y0 y1 y2 y3 y4 y5 y6 y7
      have zb : bb < wr.heap.size := Nat.lt_trans hbb z0
      have rx := hxr.mono hB
      have hzr : w.heap.size ≤ wr.heap.size := by omega
      have hr1 : rankS np P ≤ P.length + 1 := by unfold rankS; split <;> omega
      have hn3 : (n : Int) ≤ 5000000 := by omega
      clear hr1
      have H1 : Hid (∀ w', Below wr.heap.size wr w' → _) := Lib.hid (fun w' h => value_Widen v xi (In.std_ok hv) hxo np xn P X A3 xA c3 xc R B d w' (by omega) n3 hxz (r3.mono h) (rx.mono h) (by omega) (HRR.out _ (hB.trans (h.mono hzr))))
      have hvo := In.std_ok hv
      have huo := In.std_ok u1
      have h2 := fun AT cT w' (nT : AT = none → cT = 0) (rT : SRow w' AT (srt (P ++ X))) (h : Below wr.heap.size wr w') => value_Leq v (v.widen xi R) hvo huo np (np || xn) P (srt (P ++ X)) A3 AT c3 cT w' (by omega) (by omega) n3 nT (r3.mono h) rT
      rw [u2, lj1] at h2
      have h3' := fun AT cT w' (nT : AT = none → cT = 0) (rT : SRow w' AT (srt (P ++ X))) (h : Below wr.heap.size wr w') => value_Leq xi (v.widen xi R) hxo huo xn (np || xn) X (srt (P ++ X)) xA AT xc cT w' (by omega) (by omega) hxz nT (rx.mono h) rT
      rw [u3, lj2] at h3'
      have h4' := fun AT cT w' (nT : AT = none → cT = 0) (rT : SRow w' AT (srt (P ++ X))) (h : Below wr.heap.size wr w') => value_Same (v.widen xi R) v huo hvo (np || xn) np (srt (P ++ X)) P AT A3 cT c3 w' (by omega) (by omega) nT n3 rT (r3.mono h)
      have hstep : (if ((v.widen xi R).clean.same v.clean && (leqS (np || xn) (srt (P ++ X)) np P && leqS np P (np || xn) (srt (P ++ X)))) = true then n else n + 1) + ((v.widen xi R).s.wrank R + (v.widen xi R).c.rank) ≤ 2 * R.length + 68 + rankS (np || xn) (srt (P ++ X)) := by
        clear h2 h3' h4' H1
        revert hcl u4
        generalize (v.widen xi R).clean.same v.clean = b1
        generalize (leqS (np || xn) (srt (P ++ X)) np P && leqS np P (np || xn) (srt (P ++ X))) = b2
        intro u4 hcl
        cases b1 <;> cases b2 <;> simp at u4 hcl ⊢ <;> omega
      generalize ((v.widen xi R).clean.same v.clean && (leqS (np || xn) (srt (P ++ X)) np P && leqS np P (np || xn) (srt (P ++ X)))) = sm at *
      clear u2 u3 u4 lj1 lj2 hcl hvo huo
      have hTk : (srt (P ++ X)).length ≤ sumV (L.take (k + 1)) := by omega
      have HJ : Hid (∀ A4 c4 w', (A4 = none → c4 = 0) → SRow w' A4 P → SRow w' xA X → _) := Lib.hid (fun A4 c4 w' n4 r4 rx => r7_Join np xn P X A4 xA c4 xc w' (by omega) n4 hxz r4 rx)
      generalize v.widen xi R = u at *
      generalize hTT : srt (P ++ X) = T at *
      generalize (np || xn) = nu at *
      have H2 : Hid (∀ AT cT w', _) := Lib.hid h2
      have H3 : Hid (∀ AT cT w', _) := Lib.hid h3'
      have H4 : Hid (∀ AT cT w', _) := Lib.hid h4'
      have HST := Lib.hid hstep; have HTK := Lib.hid hTk; have HTS := Lib.hid hTs; have HU1 := Lib.hid u1
      have HN4 := Lib.hid n4; have HS4 := Lib.hid s4; have HR4 := Lib.hid r4; have HX := Lib.hid hxr
      have HE := Lib.hid e0; have K3 := Lib.hid h3; have K4 := Lib.hid h4; have HBB := Lib.hid hB
      clear h2 h3' h4' hstep hTk hTs u1 n4 s4 r4 hxr hTT hT hsk hsk' hsl hPl hn n3 s3 r3 hv hP hr e0
      have a_0 := blk_cell h3 0
      have a_1 := blk_cell h3 1
      have a_2 := blk_cell h3 2
      have a_3 := blk_cell h3 3
      have a_4 := blk_cell h3 4
      have a_5 := blk_cell h3 5
      have a_6 := blk_cell h3 6
      have a_7 := blk_cell h3 7
      simp only [List.getElem?_toArray, List.getElem?_cons_zero, List.getElem?_cons_succ] at a_0 a_1 a_2 a_3 a_4 a_5 a_6 a_7
      have fa := blk_free h3
      have za := blk_lt h3
      clear h3 h4
      go_wp2
      refine region_seqg (W := wr) [_, _, _, _, _, _, _, _] [_] rfl (by kernel_rfl) (by kernel_rfl) (by repeat (first | (with_reducible assumption) | (with_reducible exact Below.refl _ _) | (with_reducible refine Below.alloc ?_ (by first | omega | (simp; omega) | (simp; done) | (dsimp only; omega)) _) | (with_reducible refine Below.setCell ?_ (by first | omega | (simp; omega) | (simp; done) | (dsimp only; omega)) _) | (with_reducible refine Below.drew ?_) | (with_reducible refine Below.trans ?_ (Below.mono (by assumption) (by first | omega | (simp; omega) | (simp; done) | (dsimp only; omega)))))) (fun fin hfin => ?_)
      iterate 6
        first
          | (refine SeqG.yes (v := ?_) (A' := ?_) rfl (fun γ => by rfl) ?_ ?_ ?_
             rotate_left 2
             · intro γ w' K hS hK
               obtain ⟨hc, hf⟩ := bcell hS
               have hz := hS.size
               go_simp
               first
                 | exact hK.out _ (Below.refl _ _)
                 | trace_state
             · intro γ; simp only [Act.put, List.setIfInBounds_toArray, List.set_cons_zero, List.set_cons_succ]; exact rfl)
          | (refine SeqG.no (A' := ?_) rfl (fun γ => by rfl) ?_ ?_
             rotate_left
             · intro γ; simp only [Act.put, List.setIfInBounds_toArray, List.set_cons_zero, List.set_cons_succ]; exact rfl)
      refine SeqG.make (k := 6) (A' := ?_) (fun g => .agg #[.bool u.s.s, .int .i64 u.s.lo, .int .i64 u.s.hi, .bool u.c.s, .int .i64 u.c.m, .int .i64 u.c.r, .bool nu, .slice (gA g) T.length (g 2)]) (RSetG (T)) rfl (fun γ => by rfl) (RSetG.stable _) ?_ ?_ ?_
      rotate_left
      · intro γ w' K hS hF hK
        obtain ⟨hc, hf⟩ := bcell hS
        have hz := hS.size
        go_simp
        (go_at_call 17; refine (H1.out w' hS).mono ?_; rintro e w1 ⟨⟨A1, c1, rfl, hmade⟩, hb1⟩; obtain ⟨g, rfl, rfl, hg⟩ := MadeV.ghost hmade (by omega) (lo := w'.heap.size); exact hK.out g w1 hb1 hg)
      · intro γ; simp only [Act.put, List.setIfInBounds_toArray, List.set_cons_zero, List.set_cons_succ]; exact rfl
      refine SeqG.make (k := 7) (A' := ?_) (fun g => .pointer (some ⟨g 0, 0, none⟩)) (RCell #[.bool false, .int .i64 0, .int .i64 0, .bool false, .int .i64 0, .int .i64 0, .bool false, .slice none 0 0] 30) rfl (fun γ => by rfl) (RCell.stable _ _) ?_ ?_ ?_
      rotate_left
      · intro γ w' K hS _ hK
        have hm := RCell.made (#[.bool false, .int .i64 0, .int .i64 0, .bool false, .int .i64 0, .int .i64 0, .bool false, .slice none 0 0]) (30) w'
        have HK := Lib.hid (hK.out (fun _ => w'.heap.size) (w'.alloc (.cells #[.bool false, .int .i64 0, .int .i64 0, .bool false, .int .i64 0, .int .i64 0, .bool false, .slice none 0 0] 30)) ((Below.refl _ _).alloc (Nat.le_refl _) _) hm); clear hK hm
        go_simp
        exact HK.out
      · intro γ; simp only [Act.put, List.setIfInBounds_toArray, List.set_cons_zero, List.set_cons_succ]; exact rfl
      refine SeqG.nil (hfin.out _ _ ?_)
      clear hfin fin
      intro γ lo hi w1 hB1 hF hD
      replace hF := listF2 hF
      dsimp only at hF
      replace hD := listD2 hD
      dsimp only at hD
      replace hD := hD (by decide)
      obtain ⟨⟨v6, l6, o6, r6, m6, t6, n6, s6⟩, ⟨v7, l7, o7, p7, p7', h7⟩⟩ := hF
      have w7 : wr.heap.size ≤ γ 7 0 := by omega
      have FT : ∀ a, gA (γ 6) = some a → T ≠ [] → a.block ≠ γ 7 0 := fun a e hne => by
        have h1 := (s6 a e).1; have h2 := (s6 a e).2 hne; omega
      have GT : ∀ a, gA (γ 6) = some a → wr.heap.size ≤ a.block := fun a e => by
        have h1 := (s6 a e).1; omega
      clear hD s6 p7 p7' o7 l7 v7 v6 l6 o6 m6 t6
      generalize γ 7 0 = b7 at *
      generalize gA (γ 6) = AT at *
      generalize γ 6 2 = cT at *
      have H7 := Lib.hid h7; have HFT := Lib.hid FT; have HGT := Lib.hid GT; have HR6 := Lib.hid r6; have HN6 := Lib.hid n6
      clear h7 FT GT r6 n6
      refine TailL.cons (fun K hK => ?_)
      refine wp_store_mid _ _ _ rfl b7 0 _ rfl rfl (st8_there H7.out) (by kernel_rfl) (by simp [Value.oneCell']) ?_
      rw [st8_set]
      generalize hX1 : st8 w1 b7 (.bool u.s.s) (.int .i64 u.s.lo) (.int .i64 u.s.hi) (.bool u.c.s) (.int .i64 u.c.m) (.int .i64 u.c.r) (.bool nu) (.slice AT T.length cT) = U
      have kw : U.heap[b7]? = some (.cells #[.bool u.s.s, .int .i64 u.s.lo, .int .i64 u.s.hi, .bool u.c.s, .int .i64 u.c.m, .int .i64 u.c.r, .bool nu, .slice AT T.length cT] 30) := by rw [← hX1]; exact st8_blk H7.out
      have HU : Below wr.heap.size wr U := by rw [← hX1]; exact st8_below hB1 w7
      have RT := Lib.hid (show SRow U AT T from HR6.out.far (fun a e hne p hp => by rw [← hX1]; exact st8_cell _ _ (by rw [hp]; exact HFT.out a e hne)))
      clear hX1 H7 hB1 HR6 HFT
      refine hK.out _ _ ?_
      clear hK K
      simp only [Act.put]
      refine TailL.nil ?_
      have k3 := (HU.block _ z0).trans K3.out
      replace y0 := (HU.cell (p := ⟨bb, oo + k * 8, none⟩) zb).trans y0
      replace y1 := (HU.cell (p := ⟨bb, oo + k * 8 + 1, none⟩) zb).trans y1
      replace y2 := (HU.cell (p := ⟨bb, oo + k * 8 + 2, none⟩) zb).trans y2
      replace y3 := (HU.cell (p := ⟨bb, oo + k * 8 + 3, none⟩) zb).trans y3
      replace y4 := (HU.cell (p := ⟨bb, oo + k * 8 + 4, none⟩) zb).trans y4
      replace y5 := (HU.cell (p := ⟨bb, oo + k * 8 + 5, none⟩) zb).trans y5
      replace y6 := (HU.cell (p := ⟨bb, oo + k * 8 + 6, none⟩) zb).trans y6
      replace y7 := (HU.cell (p := ⟨bb, oo + k * 8 + 7, none⟩) zb).trans y7
      have zbU : bb < U.heap.size := Nat.lt_of_lt_of_le zb HU.size
      clear a_0 a_1 a_2 a_3 a_4 a_5 a_6 a_7 fa za
      have a_0 := blk_cell k3 0
      have a_1 := blk_cell k3 1
      have a_2 := blk_cell k3 2
      have a_3 := blk_cell k3 3
      have a_4 := blk_cell k3 4
      have a_5 := blk_cell k3 5
      have a_6 := blk_cell k3 6
      have a_7 := blk_cell k3 7
      simp only [List.getElem?_toArray, List.getElem?_cons_zero, List.getElem?_cons_succ] at a_0 a_1 a_2 a_3 a_4 a_5 a_6 a_7
      have fa := blk_free k3
      have za := blk_lt k3
      have b_0 := blk_cell kw 0
      have b_1 := blk_cell kw 1
      have b_2 := blk_cell kw 2
      have b_3 := blk_cell kw 3
      have b_4 := blk_cell kw 4
      have b_5 := blk_cell kw 5
      have b_6 := blk_cell kw 6
      have b_7 := blk_cell kw 7
      simp only [List.getElem?_toArray, List.getElem?_cons_zero, List.getElem?_cons_succ] at b_0 b_1 b_2 b_3 b_4 b_5 b_6 b_7
      have fb := blk_free kw
      have zb := blk_lt kw
      have HK3 := Lib.hid k3; have HKW := Lib.hid kw
      clear k3 kw
      go_upto_region 8 with fail
      refine region_seq (S := fun w' => Below U.heap.size U w') rfl (by kernel_rfl) (by kernel_rfl) (by repeat (first | (with_reducible assumption) | (with_reducible exact Below.refl _ _) | (with_reducible refine Below.alloc ?_ (by first | omega | (simp; omega) | (simp; done) | (dsimp only; omega)) _) | (with_reducible refine Below.setCell ?_ (by first | omega | (simp; omega) | (simp; done) | (dsimp only; omega)) _) | (with_reducible refine Below.drew ?_) | (with_reducible refine Below.trans ?_ (Below.mono (by assumption) (by first | omega | (simp; omega) | (simp; done) | (dsimp only; omega)))))) (fun fin hfin => ?_)
      iterate 13
        first
          | (refine SeqL.yes (v := ?_) (A' := ?_) rfl (by rfl) ?_ ?_ ?_
             rotate_left 2
             · intro w' K hS hK
               obtain ⟨hc, hf⟩ := bcell hS
               have hz := hS.size
               go_simp
               first
                 | exact hK.out _ hS
                 | (go_at_call 11; (with_reducible refine (H2.out AT cT w' HN6.out (RT.out.mono hS) (HU.trans (hS.mono HU.size))).mono ?_); rintro e w1 ⟨rfl, hb1⟩; exact hK.out _ (hS.trans (hb1.mono hz)))
                 | (go_at_call 11; (with_reducible refine (H3.out AT cT w' HN6.out (RT.out.mono hS) (HU.trans (hS.mono HU.size))).mono ?_); rintro e w1 ⟨rfl, hb1⟩; exact hK.out _ (hS.trans (hb1.mono hz)))
                 | trace_state
             · simp only [Act.put, List.setIfInBounds_toArray, List.set_cons_zero, List.set_cons_succ]; exact rfl)
          | (refine SeqL.no (A' := ?_) rfl (by rfl) ?_ ?_
             rotate_left
             · simp only [Act.put, List.setIfInBounds_toArray, List.set_cons_zero, List.set_cons_succ]; exact rfl)
      refine SeqL.nil (hfin.out _ ?_)
      clear hfin fin
      intro w1 hS1
      have k3 := (hS1.block _ za).trans HK3.out
      have kw := (hS1.block _ zb).trans HKW.out
      have HUw := HU.trans (hS1.mono HU.size)
      have zaU := za; have zbb := zb
      clear y0 y1 y2 y3 y4 y5 y6 y7 a_0 a_1 a_2 a_3 a_4 a_5 a_6 a_7 fa za b_0 b_1 b_2 b_3 b_4 b_5 b_6 b_7 fb zb HK3 HKW
      have a_0 := blk_cell k3 0
      have a_1 := blk_cell k3 1
      have a_2 := blk_cell k3 2
      have a_3 := blk_cell k3 3
      have a_4 := blk_cell k3 4
      have a_5 := blk_cell k3 5
      have a_6 := blk_cell k3 6
      have a_7 := blk_cell k3 7
      simp only [List.getElem?_toArray, List.getElem?_cons_zero, List.getElem?_cons_succ] at a_0 a_1 a_2 a_3 a_4 a_5 a_6 a_7
      have fa := blk_free k3
      have za := blk_lt k3
      have b_0 := blk_cell kw 0
      have b_1 := blk_cell kw 1
      have b_2 := blk_cell kw 2
      have b_3 := blk_cell kw 3
      have b_4 := blk_cell kw 4
      have b_5 := blk_cell kw 5
      have b_6 := blk_cell kw 6
      have b_7 := blk_cell kw 7
      simp only [List.getElem?_toArray, List.getElem?_cons_zero, List.getElem?_cons_succ] at b_0 b_1 b_2 b_3 b_4 b_5 b_6 b_7
      have fb := blk_free kw
      have zb := blk_lt kw
      have HK3 := Lib.hid k3; have HKW := Lib.hid kw
      have RT2 := Lib.hid (RT.out.mono hS1)
      clear k3 kw RT hS1
      go_wp2_with fail
      go_at_call 18
      refine (H4.out AT cT _ HN6.out RT2.out HUw).mono ?_
      rintro e x2 ⟨rfl, hb2⟩
      have k3 := (hb2.block _ za).trans HK3.out
      have kw := (hb2.block _ zb).trans HKW.out
      have HUx := HUw.trans (hb2.mono HUw.size)
      have RT3 := Lib.hid (RT2.out.mono hb2)
      clear a_0 a_1 a_2 a_3 a_4 a_5 a_6 a_7 fa za b_0 b_1 b_2 b_3 b_4 b_5 b_6 b_7 fb zb HK3 HKW RT2
      have a_0 := blk_cell k3 0
      have a_1 := blk_cell k3 1
      have a_2 := blk_cell k3 2
      have a_3 := blk_cell k3 3
      have a_4 := blk_cell k3 4
      have a_5 := blk_cell k3 5
      have a_6 := blk_cell k3 6
      have a_7 := blk_cell k3 7
      simp only [List.getElem?_toArray, List.getElem?_cons_zero, List.getElem?_cons_succ] at a_0 a_1 a_2 a_3 a_4 a_5 a_6 a_7
      have fa := blk_free k3
      have za := blk_lt k3
      have b_0 := blk_cell kw 0
      have b_1 := blk_cell kw 1
      have b_2 := blk_cell kw 2
      have b_3 := blk_cell kw 3
      have b_4 := blk_cell kw 4
      have b_5 := blk_cell kw 5
      have b_6 := blk_cell kw 6
      have b_7 := blk_cell kw 7
      simp only [List.getElem?_toArray, List.getElem?_cons_zero, List.getElem?_cons_succ] at b_0 b_1 b_2 b_3 b_4 b_5 b_6 b_7
      have fb := blk_free kw
      have zb := blk_lt kw
      have HK3 := Lib.hid k3
      have k4 := Lib.hid ((HUx.block _ z1).trans K4.out)
      have R4 := Lib.hid (HR4.out.mono HUx)
      have HBx := Lib.hid (HBB.out.trans (HUx.mono hzr))
      have hzx : w.heap.size < x2.heap.size := by omega
      clear k3 kw hb2 HUw HU rx hB zbU zaU zbb H1 H2 H3 H4 HRR
      cases sm
      all_goals
        go_upto_region 13 with fail
        simp only [st8_fold]
        generalize hY : st8 x2 w.heap.size (.bool u.s.s) (.int .i64 u.s.lo) (.int .i64 u.s.hi) (.bool u.c.s) (.int .i64 u.c.m) (.int .i64 u.c.r) (.bool nu) (.slice AT T.length cT) = Y
        have HY : Below w.heap.size w Y := by rw [← hY]; exact st8_below HBx.out (Nat.le_refl _)
        have J3 := Lib.hid (show Y.heap[w.heap.size]? = some (.cells #[.bool u.s.s, .int .i64 u.s.lo, .int .i64 u.s.hi, .bool u.c.s, .int .i64 u.c.m, .int .i64 u.c.r, .bool nu, .slice AT T.length cT] 30) by rw [← hY]; exact st8_blk HK3.out)
        have j4 : Y.heap[w.heap.size + 1]? = some (.cells #[.bool np, .slice A4 P.length c4] 28) := by rw [← hY]; exact (st8_far _ _ (by omega)).trans k4.out
        have RTY := Lib.hid (show SRow Y AT T from RT3.out.far (fun a e hne p hp => by rw [← hY]; exact st8_cell _ _ (by rw [hp]; have := HGT.out a e; omega)))
        have R4Y := Lib.hid (show SRow Y A4 P from R4.out.far (fun a e hne p hp => by rw [← hY]; exact st8_cell _ _ (by rw [hp]; have := HS4.out a e; omega)))
        have RXY := Lib.hid (HX.out.mono HY)
        have y6 := (HY.cell (p := ⟨bb, oo + k * 8 + 6, none⟩) hbb).trans (HE.out 6 (by omega))
        have y7 := (HY.cell (p := ⟨bb, oo + k * 8 + 7, none⟩) hbb).trans (HE.out 7 (by omega))
        simp only [List.getElem?_cons_zero, List.getElem?_cons_succ] at y6 y7
        have zY : bb < Y.heap.size := Nat.lt_of_lt_of_le hbb HY.size
        have zN : w.heap.size < Y.heap.size := by have := blk_lt J3.out; exact this
        have HHY := Lib.hid HY
        clear hY a_0 a_1 a_2 a_3 a_4 a_5 a_6 a_7 fa za b_0 b_1 b_2 b_3 b_4 b_5 b_6 b_7 fb zb HBx HK3 k4 RT3 R4 HY HUx
        have e_0 := blk_cell j4 0
        have e_1 := blk_cell j4 1
        simp only [List.getElem?_toArray, List.getElem?_cons_zero, List.getElem?_cons_succ] at e_0 e_1
        have fe := blk_free j4
        have ze := blk_lt j4
        have J4 := Lib.hid j4
        clear j4
        refine region_seqg (W := Y) [_, _, _, _, _, _, _] [_] rfl (by kernel_rfl) (by kernel_rfl) (by repeat (first | (with_reducible assumption) | (with_reducible exact Below.refl _ _) | (with_reducible refine Below.alloc ?_ (by first | omega | (simp; omega) | (simp; done) | (dsimp only; omega)) _) | (with_reducible refine Below.setCell ?_ (by first | omega | (simp; omega) | (simp; done) | (dsimp only; omega)) _) | (with_reducible refine Below.drew ?_) | (with_reducible refine Below.trans ?_ (Below.mono (by assumption) (by first | omega | (simp; omega) | (simp; done) | (dsimp only; omega)))))) (fun fin hfin => ?_)
        iterate 6
          first
            | (refine SeqG.yes (v := ?_) (A' := ?_) rfl (fun γ => by rfl) ?_ ?_ ?_
               rotate_left 2
               · intro γ w' K hS hK
                 obtain ⟨hc, hf⟩ := bcell hS
                 have hz := hS.size
                 go_simp
                 first
                   | exact hK.out _ (Below.refl _ _)
                   | trace_state
               · intro γ; simp only [Act.put, List.setIfInBounds_toArray, List.set_cons_zero, List.set_cons_succ]; exact rfl)
            | (refine SeqG.no (A' := ?_) rfl (fun γ => by rfl) ?_ ?_
               rotate_left
               · intro γ; simp only [Act.put, List.setIfInBounds_toArray, List.set_cons_zero, List.set_cons_succ]; exact rfl)
        refine SeqG.make (k := 6) (A' := ?_) (fun g => .agg #[.bool (nu), .slice (gA g) (T).length (g 2)]) (RSetG (T)) rfl (fun γ => by rfl) (RSetG.stable _) ?_ ?_ ?_
        rotate_left
        · intro γ w' K hS hF hK
          obtain ⟨hc, hf⟩ := bcell hS
          have hz := hS.size
          go_simp
          (go_at_call 19; refine (HJ.out A4 c4 w' HN4.out (R4Y.out.mono hS) (RXY.out.mono hS)).mono ?_; rintro e w1 ⟨⟨v, rfl, hset⟩, hb1⟩; obtain ⟨g, rfl, hg⟩ := SetV.ghost hset (by omega) (lo := w'.heap.size); exact hK.out g w1 hb1 hg)
        · intro γ; simp only [Act.put, List.setIfInBounds_toArray, List.set_cons_zero, List.set_cons_succ]; exact rfl
        refine SeqG.nil (hfin.out _ _ ?_)
        clear hfin fin
        intro γ lo hi w1 hB1 hF hD
        replace hF := listF1 hF
        dsimp only at hF
        clear hD
        obtain ⟨y5, l5, o5, rQ, m5, t5, nQ, sQ⟩ := hF
        have GQ : ∀ a, gA (γ 6) = some a → Y.heap.size ≤ a.block := fun a e => by
          have h1 := (sQ a e).1; omega
        clear sQ m5 t5
        generalize gA (γ 6) = AQ at *
        generalize γ 6 2 = cQ at *
        have HGQ := Lib.hid GQ
        have HNQ := Lib.hid nQ
        have k5 := (hB1.block _ ze).trans J4.out
        have k6 := Lib.hid ((hB1.block _ zN).trans J3.out)
        have RT1 := Lib.hid (RTY.out.mono hB1)
        have HB1 := HHY.out.trans (hB1.mono HHY.out.size)
        have zY1 : w.heap.size + 1 < Y.heap.size := ze
        clear GQ nQ e_0 e_1 fe ze y5 l5 o5 y6 y7 hB1 J3 J4 RTY R4Y RXY
        have e_0 := blk_cell k5 0
        have e_1 := blk_cell k5 1
        simp only [List.getElem?_toArray, List.getElem?_cons_zero, List.getElem?_cons_succ] at e_0 e_1
        have fe := blk_free k5
        have ze := blk_lt k5
        have K5 := Lib.hid k5; have RQ := Lib.hid rQ
        clear k5 rQ
        refine TailL.cons (fun K hK => ?_)
        go_simp
        refine hK.out _ _ ?_
        clear hK K
        refine TailL.nil ?_
        generalize hZ : (w1.setCell ⟨w.heap.size + 1, 0, none⟩ (.bool nu)).setCell ⟨w.heap.size + 1, 1, none⟩ (.slice AQ T.length cQ) = Z
        have HZ : Below w.heap.size w Z := by rw [← hZ]; exact (by repeat (first | (with_reducible assumption) | (with_reducible exact Below.refl _ _) | (with_reducible refine Below.alloc ?_ (by first | omega | (simp; omega) | (simp; done) | (dsimp only; omega)) _) | (with_reducible refine Below.setCell ?_ (by first | omega | (simp; omega) | (simp; done) | (dsimp only; omega)) _) | (with_reducible refine Below.drew ?_) | (with_reducible refine Below.trans ?_ (Below.mono (by assumption) (by first | omega | (simp; omega) | (simp; done) | (dsimp only; omega))))))
        have j3 : Z.heap[w.heap.size]? = some (.cells #[.bool u.s.s, .int .i64 u.s.lo, .int .i64 u.s.hi, .bool u.c.s, .int .i64 u.c.m, .int .i64 u.c.r, .bool nu, .slice AT T.length cT] 30) := by
          rw [← hZ]
          (iterate 2 (refine (Below.heap_setCell _ _ _ _ (by dsimp only; omega)).trans ?_))
          exact k6.out
        have j4 : Z.heap[w.heap.size + 1]? = some (.cells #[.bool nu, .slice AQ T.length cQ] 28) := by rw [← hZ]; exact blk_set2 K5.out
        have rTZ : SRow Z AT T := RT1.out.far (fun a e hne p hp => by rw [← hZ]; exact cell_far2 _ _ _ _ _ (by rw [hp]; have := HGT.out a e; omega))
        have rQZ : SRow Z AQ T := RQ.out.far (fun a e hne p hp => by rw [← hZ]; exact cell_far2 _ _ _ _ _ (by rw [hp]; have := HGQ.out a e; omega))
        have HJ3 := Lib.hid j3; have HJ4 := Lib.hid j4; have HRT := Lib.hid rTZ; have HRQ := Lib.hid rQZ
        clear hZ j3 j4 K5 k6 e_0 e_1 fe ze HB1 RT1 RQ rTZ rQZ HJ HX HE
        go_wp2
        go_roundw
        case rel =>
          first
            | exact ⟨k + 1, n + 1, u, nu, T, AT, cT, AQ, cQ, by omega, by go_num, by go_num, (by have h9 := HST.out; simp at h9; omega), HU1.out, HTS.out, HTK.out, HJ3.out, HJ4.out, HRT.out, HRQ.out, HN6.out, HNQ.out, (fun a e => by have := HGT.out a e; omega), (fun a e => by have := HGQ.out a e; omega), HZ⟩
            | exact ⟨k + 1, n, u, nu, T, AT, cT, AQ, cQ, by omega, by go_num, rfl, (by have h9 := HST.out; simp at h9; omega), HU1.out, HTS.out, HTK.out, HJ3.out, HJ4.out, HRT.out, HRQ.out, HN6.out, HNQ.out, (fun a e => by have := HGT.out a e; omega), (fun a e => by have := HGQ.out a e; omega), HZ⟩
        case measure => simp [intOf]; omega
    · have hr1 : rankS np P ≤ P.length + 1 := by unfold rankS; split <;> omega
      have hPI : (P.length : Int) ≤ 1048576 := by omega
      have hRI : (R.length : Int) ≤ 1048576 := by omega
      have hnd : decide ((n : Int) ≤ 2 * (R.length : Int) + (P.length : Int) + 71) = true := by simp; omega
      have HBH := Lib.hid hB
      have e_0 := blk_cell h4 0
      have e_1 := blk_cell h4 1
      simp only [List.getElem?_toArray, List.getElem?_cons_zero, List.getElem?_cons_succ] at e_0 e_1
      have fe := blk_free h4
      have ze := blk_lt h4
      clear hr1 h3 h4 r3 r4 n3 n4 s3 s4 hr hsl hPl hB hn hv hP
      go_wp2_with fail
      go_at_call 16
      refine (law08_lives _).mono ?_
      rintro e x2 ⟨rfl, hb2⟩
      go_wp2
      go_ret
      exact ⟨rfl, HBH.out.trans (hb2.mono (by omega))⟩
end Go.Proofs.Ytdpnphnafidpiaa
