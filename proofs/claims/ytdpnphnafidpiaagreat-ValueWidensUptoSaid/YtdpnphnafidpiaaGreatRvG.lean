/- X-PARTIAL What sondageref08.Narrow returns where it does not narrow: layer 8. -/
import Derived.Test.YtdpnphnafidpiaaGreatRvZ
namespace Go.Proofs.YtdpnphnafidpiaaGreat
open Go.RowKit

theorem In.leq_cleans {a b : In} (ha : a.ok) (hb : b.ok) : b.clean.leq a.clean = b.leq a := by
  unfold In.leq; rw [In.clean_clean ha, In.clean_clean hb]
theorem bd3 {x y C : Nat} (h : (x + 1) * 16 ≤ C) (h1 : y ≤ x) : (y + 1) * 16 ≤ C := Nat.le_trans (Nat.mul_le_mul_right 16 (show y + 1 ≤ x + 1 by omega)) h
theorem nonV_srt (x : In) (n : Bool) (l : List Str) : nonV x n (srt l) = nonV x n l := by unfold nonV; rw [srt_srt]
theorem st8_made {b : Nat} {w : World} {A : Option Addr} {c : Nat} {l : List Str} (h : MadeV b w A c l) {k : Nat} {v0 v1 v2 v3 v4 v5 v6 v7 : Value} (hk : k < b) : MadeV b (st8 w k v0 v1 v2 v3 v4 v5 v6 v7) A c l := by
  unfold st8
  iterate 8 refine MadeV.setCell ?_ hk _
  exact h

set_option maxRecDepth 100000 in
set_option maxHeartbeats 8000000 in
theorem r8_Narrow_1 (a b : In) (ha : a.ok) (hb : b.ok) (na nb : Bool) (la lb : List Str) (A B : Option Addr) (ca cb : Nat) (w : World) (hma : (la.length + 1) * 16 ≤ 140737488355328) (hmb : (lb.length + 1) * 16 ≤ 140737488355328) (hra : SRow w A la) (hrb : SRow w B lb)
    (h : (b.leq a && leqS nb lb na la) = false) :
    Calls Tryz.prog 9 #[.agg #[.bool a.s.s, .int .i64 a.s.lo, .int .i64 a.s.hi, .bool a.c.s, .int .i64 a.c.m, .int .i64 a.c.r, .bool na, .slice A la.length ca], .agg #[.bool b.s.s, .int .i64 b.s.lo, .int .i64 b.s.hi, .bool b.c.s, .int .i64 b.c.m, .int .i64 b.c.r, .bool nb, .slice B lb.length cb]] w fun e w' => (∃ A' c', e = .returned (.agg #[.bool (a.clean).s.s, .int .i64 (a.clean).s.lo, .int .i64 (a.clean).s.hi, .bool (a.clean).c.s, .int .i64 (a.clean).c.m, .int .i64 (a.clean).c.r, .bool na, .slice A' (srt la).length c']) ∧ MadeV w.heap.size w' A' c' (srt la)) ∧ Below w.heap.size w w' := by
  have HA : Hid (∀ w', Below w.heap.size w w' → _) := Lib.hid (fun w' h => r8_Clean a ha na la A ca w' hma (hra.mono h))
  have HB : Hid (∀ w', Below w.heap.size w w' → _) := Lib.hid (fun w' h => r8_Clean b hb nb lb B cb w' hmb (hrb.mono h))
  have hla := srt_len_le la
  have hlb := srt_len_le lb
  have hl := fun A1 A3 c1 c3 w' => r8_Leq b.clean a.clean (In.std_ok (In.clean_std hb)) (In.std_ok (In.clean_std ha)) nb na (srt lb) (srt la) A3 A1 c3 c1 w' (bd3 hmb hlb) (bd3 hma hla)
  rw [leqS_srt, In.leq_cleans ha hb, h] at hl
  have HL : Hid (∀ A1 A3 c1 c3 w', _) := Lib.hid hl
  clear hl h ha hb hra hrb hla hlb hma hmb
  generalize a.clean = x at *
  generalize b.clean = y at *
  go_enter Tryz.func9, Tryz.ntmps9
  go_upto_region 1 with fail
  generalize hW : (((w.alloc (.cells #[.bool a.s.s, .int .i64 a.s.lo, .int .i64 a.s.hi, .bool a.c.s, .int .i64 a.c.m, .int .i64 a.c.r, .bool na, .slice A la.length ca] 30)).alloc (.cells #[.bool b.s.s, .int .i64 b.s.lo, .int .i64 b.s.hi, .bool b.c.s, .int .i64 b.c.m, .int .i64 b.c.r, .bool nb, .slice B lb.length cb] 30)).alloc (.cells #[.bool false, .int .i64 0, .int .i64 0, .bool false, .int .i64 0, .int .i64 0, .bool false, .slice none 0 0] 30)) = W
  have q0_0 : W.cell? ⟨w.heap.size, 0, none⟩ = some (.bool a.s.s) := by rw [← hW]; simp [go_sem]
  have q0_1 : W.cell? ⟨w.heap.size, 1, none⟩ = some (.int .i64 a.s.lo) := by rw [← hW]; simp [go_sem]
  have q0_2 : W.cell? ⟨w.heap.size, 2, none⟩ = some (.int .i64 a.s.hi) := by rw [← hW]; simp [go_sem]
  have q0_3 : W.cell? ⟨w.heap.size, 3, none⟩ = some (.bool a.c.s) := by rw [← hW]; simp [go_sem]
  have q0_4 : W.cell? ⟨w.heap.size, 4, none⟩ = some (.int .i64 a.c.m) := by rw [← hW]; simp [go_sem]
  have q0_5 : W.cell? ⟨w.heap.size, 5, none⟩ = some (.int .i64 a.c.r) := by rw [← hW]; simp [go_sem]
  have q0_6 : W.cell? ⟨w.heap.size, 6, none⟩ = some (.bool na) := by rw [← hW]; simp [go_sem]
  have q0_7 : W.cell? ⟨w.heap.size, 7, none⟩ = some (.slice A la.length ca) := by rw [← hW]; simp [go_sem]
  have q1_0 : W.cell? ⟨w.heap.size + 1, 0, none⟩ = some (.bool b.s.s) := by rw [← hW]; simp [go_sem]
  have q1_1 : W.cell? ⟨w.heap.size + 1, 1, none⟩ = some (.int .i64 b.s.lo) := by rw [← hW]; simp [go_sem]
  have q1_2 : W.cell? ⟨w.heap.size + 1, 2, none⟩ = some (.int .i64 b.s.hi) := by rw [← hW]; simp [go_sem]
  have q1_3 : W.cell? ⟨w.heap.size + 1, 3, none⟩ = some (.bool b.c.s) := by rw [← hW]; simp [go_sem]
  have q1_4 : W.cell? ⟨w.heap.size + 1, 4, none⟩ = some (.int .i64 b.c.m) := by rw [← hW]; simp [go_sem]
  have q1_5 : W.cell? ⟨w.heap.size + 1, 5, none⟩ = some (.int .i64 b.c.r) := by rw [← hW]; simp [go_sem]
  have q1_6 : W.cell? ⟨w.heap.size + 1, 6, none⟩ = some (.bool nb) := by rw [← hW]; simp [go_sem]
  have q1_7 : W.cell? ⟨w.heap.size + 1, 7, none⟩ = some (.slice B lb.length cb) := by rw [← hW]; simp [go_sem]
  have q2_0 : W.cell? ⟨w.heap.size + 1 + 1, 0, none⟩ = some (.bool false) := by rw [← hW]; simp [go_sem]
  have q2_1 : W.cell? ⟨w.heap.size + 1 + 1, 1, none⟩ = some (.int .i64 0) := by rw [← hW]; simp [go_sem]
  have q2_2 : W.cell? ⟨w.heap.size + 1 + 1, 2, none⟩ = some (.int .i64 0) := by rw [← hW]; simp [go_sem]
  have q2_3 : W.cell? ⟨w.heap.size + 1 + 1, 3, none⟩ = some (.bool false) := by rw [← hW]; simp [go_sem]
  have q2_4 : W.cell? ⟨w.heap.size + 1 + 1, 4, none⟩ = some (.int .i64 0) := by rw [← hW]; simp [go_sem]
  have q2_5 : W.cell? ⟨w.heap.size + 1 + 1, 5, none⟩ = some (.int .i64 0) := by rw [← hW]; simp [go_sem]
  have q2_6 : W.cell? ⟨w.heap.size + 1 + 1, 6, none⟩ = some (.bool false) := by rw [← hW]; simp [go_sem]
  have q2_7 : W.cell? ⟨w.heap.size + 1 + 1, 7, none⟩ = some (.slice none 0 0) := by rw [← hW]; simp [go_sem]
  have f0 : ∀ o, W.frozen? ⟨w.heap.size, o, none⟩ = false := by intro o; rw [← hW]; simp [go_sem]
  have f1 : ∀ o, W.frozen? ⟨w.heap.size + 1, o, none⟩ = false := by intro o; rw [← hW]; simp [go_sem]
  have f2 : ∀ o, W.frozen? ⟨w.heap.size + 1 + 1, o, none⟩ = false := by intro o; rw [← hW]; simp [go_sem]
  have k0 : W.heap[w.heap.size]? = some (.cells #[.bool a.s.s, .int .i64 a.s.lo, .int .i64 a.s.hi, .bool a.c.s, .int .i64 a.c.m, .int .i64 a.c.r, .bool na, .slice A la.length ca] 30 (0, 0)) := by rw [← hW]; rw [al_old _ _ (by (repeat rw [al_size]); omega)]; rw [al_old _ _ (by (repeat rw [al_size]); omega)]; exact al_new _ _ (by (repeat rw [al_size]) <;> rfl)
  have k1 : W.heap[w.heap.size + 1]? = some (.cells #[.bool b.s.s, .int .i64 b.s.lo, .int .i64 b.s.hi, .bool b.c.s, .int .i64 b.c.m, .int .i64 b.c.r, .bool nb, .slice B lb.length cb] 30 (0, 0)) := by rw [← hW]; rw [al_old _ _ (by (repeat rw [al_size]); omega)]; exact al_new _ _ (by (repeat rw [al_size]) <;> rfl)
  have k2 : W.heap[w.heap.size + 1 + 1]? = some (.cells #[.bool false, .int .i64 0, .int .i64 0, .bool false, .int .i64 0, .int .i64 0, .bool false, .slice none 0 0] 30 (0, 0)) := by rw [← hW]; exact al_new _ _ (by (repeat rw [al_size]) <;> rfl)
  have z0 : w.heap.size < W.heap.size := by rw [← hW]; first | (simp; done) | (simp; omega)
  have z1 : w.heap.size + 1 < W.heap.size := by rw [← hW]; first | (simp; done) | (simp; omega)
  have z2 : w.heap.size + 1 + 1 < W.heap.size := by rw [← hW]; first | (simp; done) | (simp; omega)
  have HW : Below w.heap.size w W := by rw [← hW]; exact (by repeat (first | (with_reducible assumption) | (with_reducible exact Below.refl _ _) | (with_reducible refine Below.alloc ?_ (by first | omega | (simp; omega) | (simp; done) | (dsimp only; omega)) _) | (with_reducible refine Below.setCell ?_ (by first | omega | (simp; omega) | (simp; done) | (dsimp only; omega)) _) | (with_reducible refine Below.drew ?_) | (with_reducible refine Below.trans ?_ (Below.mono (by assumption) (by first | omega | (simp; omega) | (simp; done) | (dsimp only; omega))))))
  clear hW
  have zW2 := z2
  clear f0 f1 f2
  refine region_seqg (W := W) [_, _, _, _] [_, _] rfl (by kernel_rfl) (by kernel_rfl) (by repeat (first | (with_reducible assumption) | (with_reducible exact Below.refl _ _) | (with_reducible refine Below.alloc ?_ (by first | omega | (simp; omega) | (simp; done) | (dsimp only; omega)) _) | (with_reducible refine Below.setCell ?_ (by first | omega | (simp; omega) | (simp; done) | (dsimp only; omega)) _) | (with_reducible refine Below.drew ?_) | (with_reducible refine Below.trans ?_ (Below.mono (by assumption) (by first | omega | (simp; omega) | (simp; done) | (dsimp only; omega)))))) (fun fin hfin => ?_)
  iterate 1
    first
      | (refine SeqG.yes (v := ?_) (A' := ?_) rfl (fun γ => by rfl) ?_ ?_ ?_
         rotate_left 2
         · intro γ w' K hS hK
           obtain ⟨hc, hf⟩ := bcell hS
           have hz := hS.size
           go_simp
           first
             | exact hK.out _ (Below.refl _ _)
             | trace_state
         · intro γ; simp only [Act.put, List.setIfInBounds_toArray, List.set_cons_zero, List.set_cons_succ]; exact rfl)
      | (refine SeqG.no (A' := ?_) rfl (fun γ => by rfl) ?_ ?_
         rotate_left
         · intro γ; simp only [Act.put, List.setIfInBounds_toArray, List.set_cons_zero, List.set_cons_succ]; exact rfl)
  refine SeqG.make (k := 1) (A' := ?_) (fun g => .agg #[.bool x.s.s, .int .i64 x.s.lo, .int .i64 x.s.hi, .bool x.c.s, .int .i64 x.c.m, .int .i64 x.c.r, .bool na, .slice (gA g) (srt la).length (g 2)]) (RSetG (srt la)) rfl (fun γ => by rfl) (RSetG.stable _) ?_ ?_ ?_
  rotate_left
  · intro γ w' K hS hF hK
    obtain ⟨hc, hf⟩ := bcell hS
    have hz := hS.size
    go_simp
    (go_at_call 29; refine (HA.out w' (HW.trans (hS.mono HW.size))).mono ?_; rintro e w1 ⟨⟨A1, c1, rfl, hmade⟩, hb1⟩; obtain ⟨g, rfl, rfl, hg⟩ := MadeV.ghost hmade (by omega) (lo := w'.heap.size); exact hK.out g w1 hb1 hg)
  · intro γ; simp only [Act.put, List.setIfInBounds_toArray, List.set_cons_zero, List.set_cons_succ]; exact rfl
  iterate 1
    first
      | (refine SeqG.yes (v := ?_) (A' := ?_) rfl (fun γ => by rfl) ?_ ?_ ?_
         rotate_left 2
         · intro γ w' K hS hK
           obtain ⟨hc, hf⟩ := bcell hS
           have hz := hS.size
           go_simp
           first
             | exact hK.out _ (Below.refl _ _)
             | trace_state
         · intro γ; simp only [Act.put, List.setIfInBounds_toArray, List.set_cons_zero, List.set_cons_succ]; exact rfl)
      | (refine SeqG.no (A' := ?_) rfl (fun γ => by rfl) ?_ ?_
         rotate_left
         · intro γ; simp only [Act.put, List.setIfInBounds_toArray, List.set_cons_zero, List.set_cons_succ]; exact rfl)
  refine SeqG.make (k := 3) (A' := ?_) (fun g => .agg #[.bool y.s.s, .int .i64 y.s.lo, .int .i64 y.s.hi, .bool y.c.s, .int .i64 y.c.m, .int .i64 y.c.r, .bool nb, .slice (gA g) (srt lb).length (g 2)]) (RSetG (srt lb)) rfl (fun γ => by rfl) (RSetG.stable _) ?_ ?_ ?_
  rotate_left
  · intro γ w' K hS hF hK
    obtain ⟨hc, hf⟩ := bcell hS
    have hz := hS.size
    go_simp
    (go_at_call 29; refine (HB.out w' (HW.trans (hS.mono HW.size))).mono ?_; rintro e w1 ⟨⟨A1, c1, rfl, hmade⟩, hb1⟩; obtain ⟨g, rfl, rfl, hg⟩ := MadeV.ghost hmade (by omega) (lo := w'.heap.size); exact hK.out g w1 hb1 hg)
  · intro γ; simp only [Act.put, List.setIfInBounds_toArray, List.set_cons_zero, List.set_cons_succ]; exact rfl
  refine SeqG.nil (hfin.out _ _ ?_)
  clear hfin fin
  intro γ lo hi w1 hB1 hF hD
  replace hF := listF2 hF
  dsimp only at hF
  replace hD := listD2 hD
  dsimp only at hD
  replace hD := hD (by decide)
  obtain ⟨⟨y1, l1, o1, hR1⟩, ⟨y3, l3, o3, hR3⟩⟩ := hF
  have M1 := Lib.hid ((RSetG.made hR1).base (show W.heap.size ≤ lo 1 by omega))
  have M3 := Lib.hid ((RSetG.made hR3).base (show W.heap.size ≤ lo 3 by omega))
  obtain ⟨r1, m1, t1, n1, s1⟩ := hR1
  obtain ⟨r3, m3, t3, n3, s3⟩ := hR3
  have HF1 := Lib.hid (show ∀ a, gA (γ 1) = some a → W.heap.size ≤ a.block from fun a e => by have h1 := (s1 a e).1; omega)
  have HF3 := Lib.hid (show ∀ a, gA (γ 3) = some a → W.heap.size ≤ a.block from fun a e => by have h1 := (s3 a e).1; omega)
  clear hD s1 s3 y1 l1 o1 y3 l3 o3 m1 t1 m3 t3
  generalize gA (γ 1) = A1 at *
  generalize γ 1 2 = c1 at *
  generalize gA (γ 3) = A3 at *
  generalize γ 3 2 = c3 at *
  have HR1 := Lib.hid r1; have HR3 := Lib.hid r3; have HN1 := Lib.hid n1; have HN3 := Lib.hid n3
  clear r1 r3 n1 n3
  have H4 := Lib.hid ((hB1.block _ z0).trans k0)
  have H5 := Lib.hid ((hB1.block _ z1).trans k1)
  have HW1 := Lib.hid (HW.trans (hB1.mono HW.size))
  refine TailL.cons (fun K hK => ?_)
  refine wp_store_mid _ _ _ rfl w.heap.size 0 _ rfl rfl (st8_there H4.out) (by kernel_rfl) (by simp [Value.oneCell']) ?_
  rw [st8_set]
  generalize hX1 : st8 w1 w.heap.size (.bool x.s.s) (.int .i64 x.s.lo) (.int .i64 x.s.hi) (.bool x.c.s) (.int .i64 x.c.m) (.int .i64 x.c.r) (.bool na) (.slice A1 (srt la).length c1) = X1
  have K4 := Lib.hid (show X1.heap[w.heap.size]? = some (.cells #[.bool x.s.s, .int .i64 x.s.lo, .int .i64 x.s.hi, .bool x.c.s, .int .i64 x.c.m, .int .i64 x.c.r, .bool na, .slice A1 (srt la).length c1] 30) by rw [← hX1]; exact st8_blk H4.out)
  have HFA := Lib.hid (show ∀ b, b ≠ w.heap.size → X1.heap[b]? = w1.heap[b]? from fun b h => by rw [← hX1]; exact st8_far _ _ h)
  have HX1 := Lib.hid (show Below w.heap.size w X1 by rw [← hX1]; exact st8_below HW1.out (Nat.le_refl _))
  have Q1 := Lib.hid (show SRow X1 A1 (srt la) from HR1.out.far (fun a e hne p hp => by rw [← hX1]; exact st8_cell _ _ (by rw [hp]; have := HF1.out a e; omega)))
  have Q3 := Lib.hid (show SRow X1 A3 (srt lb) from HR3.out.far (fun a e hne p hp => by rw [← hX1]; exact st8_cell _ _ (by rw [hp]; have := HF3.out a e; omega)))
  have N1 := Lib.hid (show MadeV W.heap.size X1 A1 c1 (srt la) by rw [← hX1]; exact st8_made M1.out z0)
  have N3 := Lib.hid (show MadeV W.heap.size X1 A3 c3 (srt lb) by rw [← hX1]; exact st8_made M3.out z0)
  have K5 := Lib.hid ((HFA.out (w.heap.size + 1) (by omega)).trans H5.out)
  clear hX1 H4 H5 HR1 HR3 HW1
  refine hK.out _ _ ?_
  clear hK K
  refine TailL.cons (fun K hK => ?_)
  refine wp_store_mid _ _ _ rfl (w.heap.size + 1) 0 _ rfl rfl (st8_there K5.out) (by kernel_rfl) (by simp [Value.oneCell']) ?_
  rw [st8_set]
  generalize hX : st8 X1 (w.heap.size + 1) (.bool y.s.s) (.int .i64 y.s.lo) (.int .i64 y.s.hi) (.bool y.c.s) (.int .i64 y.c.m) (.int .i64 y.c.r) (.bool nb) (.slice A3 (srt lb).length c3) = X
  have kp : X.heap[w.heap.size]? = some (.cells #[.bool x.s.s, .int .i64 x.s.lo, .int .i64 x.s.hi, .bool x.c.s, .int .i64 x.c.m, .int .i64 x.c.r, .bool na, .slice A1 (srt la).length c1] 30) := by rw [← hX]; exact (st8_far _ _ (by omega)).trans K4.out
  have kq : X.heap[w.heap.size + 1]? = some (.cells #[.bool y.s.s, .int .i64 y.s.lo, .int .i64 y.s.hi, .bool y.c.s, .int .i64 y.c.m, .int .i64 y.c.r, .bool nb, .slice A3 (srt lb).length c3] 30) := by rw [← hX]; exact st8_blk K5.out
  have HM1 := Lib.hid (show MadeV W.heap.size X A1 c1 (srt la) by rw [← hX]; exact st8_made N1.out z1)
  have HM3 := Lib.hid (show MadeV W.heap.size X A3 c3 (srt lb) by rw [← hX]; exact st8_made N3.out z1)
  clear N1 N3 M1 M3
  have HX : Below w.heap.size w X := by rw [← hX]; exact st8_below HX1.out (by omega)
  have HFAR := Lib.hid (show ∀ b, b ≠ w.heap.size → b ≠ w.heap.size + 1 → X.heap[b]? = w1.heap[b]? from fun b h h' => by rw [← hX]; exact (st8_far _ _ h').trans (HFA.out b h))
  have R1 : SRow X A1 (srt la) := Q1.out.far (fun a e hne p hp => by rw [← hX]; exact st8_cell _ _ (by rw [hp]; have := HF1.out a e; omega))
  have R3 : SRow X A3 (srt lb) := Q3.out.far (fun a e hne p hp => by rw [← hX]; exact st8_cell _ _ (by rw [hp]; have := HF3.out a e; omega))
  clear hX K4 K5 Q1 Q3 HX1 HFA
  refine hK.out _ _ ?_
  clear hK K
  simp only [Act.put]
  refine TailL.nil ?_
  have kr := (HFAR.out (w.heap.size + 1 + 1) (by omega) (by omega)).trans ((hB1.block _ z2).trans k2)
  clear q0_0 q0_1 q0_2 q0_3 q0_4 q0_5 q0_6 q0_7 q1_0 q1_1 q1_2 q1_3 q1_4 q1_5 q1_6 q1_7 q2_0 q2_1 q2_2 q2_3 q2_4 q2_5 q2_6 q2_7 HA HB HFAR hB1 k0 k1 k2 z0 z1 z2
  have p_0 := blk_cell kp 0
  have p_1 := blk_cell kp 1
  have p_2 := blk_cell kp 2
  have p_3 := blk_cell kp 3
  have p_4 := blk_cell kp 4
  have p_5 := blk_cell kp 5
  have p_6 := blk_cell kp 6
  have p_7 := blk_cell kp 7
  simp only [List.getElem?_toArray, List.getElem?_cons_zero, List.getElem?_cons_succ] at p_0 p_1 p_2 p_3 p_4 p_5 p_6 p_7
  have fp := blk_free kp
  have zp := blk_lt kp
  have q_0 := blk_cell kq 0
  have q_1 := blk_cell kq 1
  have q_2 := blk_cell kq 2
  have q_3 := blk_cell kq 3
  have q_4 := blk_cell kq 4
  have q_5 := blk_cell kq 5
  have q_6 := blk_cell kq 6
  have q_7 := blk_cell kq 7
  simp only [List.getElem?_toArray, List.getElem?_cons_zero, List.getElem?_cons_succ] at q_0 q_1 q_2 q_3 q_4 q_5 q_6 q_7
  have fq := blk_free kq
  have zq := blk_lt kq
  have zr := blk_lt kr
  go_wp2_with fail
  go_at_call 36
  refine (HL.out _ _ _ _ _ R3 R1).mono ?_
  rintro e w5 ⟨rfl, hb5⟩
  have kp5 := (hb5.block _ zp).trans kp
  have kq5 := (hb5.block _ zq).trans kq
  have kr5 := (hb5.block _ zr).trans kr
  have HB := HX.trans (hb5.mono HX.size)
  have HM5 := Lib.hid ((HM1.out.base (show w.heap.size + 3 ≤ W.heap.size by omega)).mono hb5)
  have R35 := R3.mono hb5
  clear p_0 p_1 p_2 p_3 p_4 p_5 p_6 p_7 q_0 q_1 q_2 q_3 q_4 q_5 q_6 q_7 fp fq zp zq zr kp kq kr R1 R3 hb5 HX HM1 HM3 HF1 HF3 HN1 HN3 HL
  have p_0 := blk_cell kp5 0
  have p_1 := blk_cell kp5 1
  have p_2 := blk_cell kp5 2
  have p_3 := blk_cell kp5 3
  have p_4 := blk_cell kp5 4
  have p_5 := blk_cell kp5 5
  have p_6 := blk_cell kp5 6
  have p_7 := blk_cell kp5 7
  simp only [List.getElem?_toArray, List.getElem?_cons_zero, List.getElem?_cons_succ] at p_0 p_1 p_2 p_3 p_4 p_5 p_6 p_7
  have fp := blk_free kp5
  have zp := blk_lt kp5
  have q_0 := blk_cell kq5 0
  have q_1 := blk_cell kq5 1
  have q_2 := blk_cell kq5 2
  have q_3 := blk_cell kq5 3
  have q_4 := blk_cell kq5 4
  have q_5 := blk_cell kq5 5
  have q_6 := blk_cell kq5 6
  have q_7 := blk_cell kq5 7
  simp only [List.getElem?_toArray, List.getElem?_cons_zero, List.getElem?_cons_succ] at q_0 q_1 q_2 q_3 q_4 q_5 q_6 q_7
  have fq := blk_free kq5
  have zq := blk_lt kq5
  have r_0 := blk_cell kr5 0
  have r_1 := blk_cell kr5 1
  have r_2 := blk_cell kr5 2
  have r_3 := blk_cell kr5 3
  have r_4 := blk_cell kr5 4
  have r_5 := blk_cell kr5 5
  have r_6 := blk_cell kr5 6
  have r_7 := blk_cell kr5 7
  simp only [List.getElem?_toArray, List.getElem?_cons_zero, List.getElem?_cons_succ] at r_0 r_1 r_2 r_3 r_4 r_5 r_6 r_7
  have fr := blk_free kr5
  have zr := blk_lt kr5
  go_wp2
  refine bodyPost_ret (by simp [results, Tryz.results9, go_sem, *] <;> rfl) rfl ⟨⟨A1, c1, rfl, (by have HM := HM5.out; exact (by (refine MadeV.base (b := w.heap.size + 3) ?_ (by omega)); (repeat refine MadeV.setCell ?_ (by first | omega | (simp; omega)) _); first | exact HM | exact HM.base (by omega)))⟩, (by repeat (first | (with_reducible assumption) | (with_reducible exact Below.refl _ _) | (with_reducible refine Below.alloc ?_ (by first | omega | (simp; omega) | (simp; done) | (dsimp only; omega)) _) | (with_reducible refine Below.setCell ?_ (by first | omega | (simp; omega) | (simp; done) | (dsimp only; omega)) _) | (with_reducible refine Below.drew ?_) | (with_reducible refine Below.trans ?_ (Below.mono (by assumption) (by first | omega | (simp; omega) | (simp; done) | (dsimp only; omega))))))⟩

set_option maxRecDepth 100000 in
set_option maxHeartbeats 8000000 in
theorem r8_Narrow_2 (a b : In) (ha : a.ok) (hb : b.ok) (na nb : Bool) (la lb : List Str) (A B : Option Addr) (ca cb : Nat) (w : World) (hma : (la.length + 1) * 16 ≤ 140737488355328) (hmb : (lb.length + 1) * 16 ≤ 140737488355328) (hra : SRow w A la) (hrb : SRow w B lb)
    (h : (b.leq a && leqS nb lb na la) = true) (h' : nonV b.clean nb lb = true) :
    Calls Tryz.prog 9 #[.agg #[.bool a.s.s, .int .i64 a.s.lo, .int .i64 a.s.hi, .bool a.c.s, .int .i64 a.c.m, .int .i64 a.c.r, .bool na, .slice A la.length ca], .agg #[.bool b.s.s, .int .i64 b.s.lo, .int .i64 b.s.hi, .bool b.c.s, .int .i64 b.c.m, .int .i64 b.c.r, .bool nb, .slice B lb.length cb]] w fun e w' => (∃ A' c', e = .returned (.agg #[.bool (In.zero).s.s, .int .i64 (In.zero).s.lo, .int .i64 (In.zero).s.hi, .bool (In.zero).c.s, .int .i64 (In.zero).c.m, .int .i64 (In.zero).c.r, .bool false, .slice A' (([] : List Str)).length c']) ∧ MadeV w.heap.size w' A' c' ([])) ∧ Below w.heap.size w w' := by
  have HA : Hid (∀ w', Below w.heap.size w w' → _) := Lib.hid (fun w' h => r8_Clean a ha na la A ca w' hma (hra.mono h))
  have HB : Hid (∀ w', Below w.heap.size w w' → _) := Lib.hid (fun w' h => r8_Clean b hb nb lb B cb w' hmb (hrb.mono h))
  have hla := srt_len_le la
  have hlb := srt_len_le lb
  have hl := fun A1 A3 c1 c3 w' => r8_Leq b.clean a.clean (In.std_ok (In.clean_std hb)) (In.std_ok (In.clean_std ha)) nb na (srt lb) (srt la) A3 A1 c3 c1 w' (bd3 hmb hlb) (bd3 hma hla)
  rw [leqS_srt, In.leq_cleans ha hb, h] at hl
  have HL : Hid (∀ A1 A3 c1 c3 w', _) := Lib.hid hl
  have hn := fun A3 c3 w' => r8_None b.clean (In.std_ok (In.clean_std hb)) nb (srt lb) A3 c3 w' (bd3 hmb hlb)
  rw [In.clean_clean hb, nonV_srt, h'] at hn
  have HN : Hid (∀ A3 c3 w', _) := Lib.hid hn
  clear hl hn h h' ha hb hra hrb hla hlb hma hmb
  generalize a.clean = x at *
  generalize b.clean = y at *
  rw [show In.zero = ⟨⟨false, 0, 0⟩, ⟨false, 0, 0⟩⟩ from rfl]
  dsimp only
  go_enter Tryz.func9, Tryz.ntmps9
  go_upto_region 1 with fail
  generalize hW : (((w.alloc (.cells #[.bool a.s.s, .int .i64 a.s.lo, .int .i64 a.s.hi, .bool a.c.s, .int .i64 a.c.m, .int .i64 a.c.r, .bool na, .slice A la.length ca] 30)).alloc (.cells #[.bool b.s.s, .int .i64 b.s.lo, .int .i64 b.s.hi, .bool b.c.s, .int .i64 b.c.m, .int .i64 b.c.r, .bool nb, .slice B lb.length cb] 30)).alloc (.cells #[.bool false, .int .i64 0, .int .i64 0, .bool false, .int .i64 0, .int .i64 0, .bool false, .slice none 0 0] 30)) = W
  have q0_0 : W.cell? ⟨w.heap.size, 0, none⟩ = some (.bool a.s.s) := by rw [← hW]; simp [go_sem]
  have q0_1 : W.cell? ⟨w.heap.size, 1, none⟩ = some (.int .i64 a.s.lo) := by rw [← hW]; simp [go_sem]
  have q0_2 : W.cell? ⟨w.heap.size, 2, none⟩ = some (.int .i64 a.s.hi) := by rw [← hW]; simp [go_sem]
  have q0_3 : W.cell? ⟨w.heap.size, 3, none⟩ = some (.bool a.c.s) := by rw [← hW]; simp [go_sem]
  have q0_4 : W.cell? ⟨w.heap.size, 4, none⟩ = some (.int .i64 a.c.m) := by rw [← hW]; simp [go_sem]
  have q0_5 : W.cell? ⟨w.heap.size, 5, none⟩ = some (.int .i64 a.c.r) := by rw [← hW]; simp [go_sem]
  have q0_6 : W.cell? ⟨w.heap.size, 6, none⟩ = some (.bool na) := by rw [← hW]; simp [go_sem]
  have q0_7 : W.cell? ⟨w.heap.size, 7, none⟩ = some (.slice A la.length ca) := by rw [← hW]; simp [go_sem]
  have q1_0 : W.cell? ⟨w.heap.size + 1, 0, none⟩ = some (.bool b.s.s) := by rw [← hW]; simp [go_sem]
  have q1_1 : W.cell? ⟨w.heap.size + 1, 1, none⟩ = some (.int .i64 b.s.lo) := by rw [← hW]; simp [go_sem]
  have q1_2 : W.cell? ⟨w.heap.size + 1, 2, none⟩ = some (.int .i64 b.s.hi) := by rw [← hW]; simp [go_sem]
  have q1_3 : W.cell? ⟨w.heap.size + 1, 3, none⟩ = some (.bool b.c.s) := by rw [← hW]; simp [go_sem]
  have q1_4 : W.cell? ⟨w.heap.size + 1, 4, none⟩ = some (.int .i64 b.c.m) := by rw [← hW]; simp [go_sem]
  have q1_5 : W.cell? ⟨w.heap.size + 1, 5, none⟩ = some (.int .i64 b.c.r) := by rw [← hW]; simp [go_sem]
  have q1_6 : W.cell? ⟨w.heap.size + 1, 6, none⟩ = some (.bool nb) := by rw [← hW]; simp [go_sem]
  have q1_7 : W.cell? ⟨w.heap.size + 1, 7, none⟩ = some (.slice B lb.length cb) := by rw [← hW]; simp [go_sem]
  have q2_0 : W.cell? ⟨w.heap.size + 1 + 1, 0, none⟩ = some (.bool false) := by rw [← hW]; simp [go_sem]
  have q2_1 : W.cell? ⟨w.heap.size + 1 + 1, 1, none⟩ = some (.int .i64 0) := by rw [← hW]; simp [go_sem]
  have q2_2 : W.cell? ⟨w.heap.size + 1 + 1, 2, none⟩ = some (.int .i64 0) := by rw [← hW]; simp [go_sem]
  have q2_3 : W.cell? ⟨w.heap.size + 1 + 1, 3, none⟩ = some (.bool false) := by rw [← hW]; simp [go_sem]
  have q2_4 : W.cell? ⟨w.heap.size + 1 + 1, 4, none⟩ = some (.int .i64 0) := by rw [← hW]; simp [go_sem]
  have q2_5 : W.cell? ⟨w.heap.size + 1 + 1, 5, none⟩ = some (.int .i64 0) := by rw [← hW]; simp [go_sem]
  have q2_6 : W.cell? ⟨w.heap.size + 1 + 1, 6, none⟩ = some (.bool false) := by rw [← hW]; simp [go_sem]
  have q2_7 : W.cell? ⟨w.heap.size + 1 + 1, 7, none⟩ = some (.slice none 0 0) := by rw [← hW]; simp [go_sem]
  have f0 : ∀ o, W.frozen? ⟨w.heap.size, o, none⟩ = false := by intro o; rw [← hW]; simp [go_sem]
  have f1 : ∀ o, W.frozen? ⟨w.heap.size + 1, o, none⟩ = false := by intro o; rw [← hW]; simp [go_sem]
  have f2 : ∀ o, W.frozen? ⟨w.heap.size + 1 + 1, o, none⟩ = false := by intro o; rw [← hW]; simp [go_sem]
  have k0 : W.heap[w.heap.size]? = some (.cells #[.bool a.s.s, .int .i64 a.s.lo, .int .i64 a.s.hi, .bool a.c.s, .int .i64 a.c.m, .int .i64 a.c.r, .bool na, .slice A la.length ca] 30 (0, 0)) := by rw [← hW]; rw [al_old _ _ (by (repeat rw [al_size]); omega)]; rw [al_old _ _ (by (repeat rw [al_size]); omega)]; exact al_new _ _ (by (repeat rw [al_size]) <;> rfl)
  have k1 : W.heap[w.heap.size + 1]? = some (.cells #[.bool b.s.s, .int .i64 b.s.lo, .int .i64 b.s.hi, .bool b.c.s, .int .i64 b.c.m, .int .i64 b.c.r, .bool nb, .slice B lb.length cb] 30 (0, 0)) := by rw [← hW]; rw [al_old _ _ (by (repeat rw [al_size]); omega)]; exact al_new _ _ (by (repeat rw [al_size]) <;> rfl)
  have k2 : W.heap[w.heap.size + 1 + 1]? = some (.cells #[.bool false, .int .i64 0, .int .i64 0, .bool false, .int .i64 0, .int .i64 0, .bool false, .slice none 0 0] 30 (0, 0)) := by rw [← hW]; exact al_new _ _ (by (repeat rw [al_size]) <;> rfl)
  have z0 : w.heap.size < W.heap.size := by rw [← hW]; first | (simp; done) | (simp; omega)
  have z1 : w.heap.size + 1 < W.heap.size := by rw [← hW]; first | (simp; done) | (simp; omega)
  have z2 : w.heap.size + 1 + 1 < W.heap.size := by rw [← hW]; first | (simp; done) | (simp; omega)
  have HW : Below w.heap.size w W := by rw [← hW]; exact (by repeat (first | (with_reducible assumption) | (with_reducible exact Below.refl _ _) | (with_reducible refine Below.alloc ?_ (by first | omega | (simp; omega) | (simp; done) | (dsimp only; omega)) _) | (with_reducible refine Below.setCell ?_ (by first | omega | (simp; omega) | (simp; done) | (dsimp only; omega)) _) | (with_reducible refine Below.drew ?_) | (with_reducible refine Below.trans ?_ (Below.mono (by assumption) (by first | omega | (simp; omega) | (simp; done) | (dsimp only; omega))))))
  clear hW
  have zW2 := z2
  clear f0 f1 f2
  refine region_seqg (W := W) [_, _, _, _] [_, _] rfl (by kernel_rfl) (by kernel_rfl) (by repeat (first | (with_reducible assumption) | (with_reducible exact Below.refl _ _) | (with_reducible refine Below.alloc ?_ (by first | omega | (simp; omega) | (simp; done) | (dsimp only; omega)) _) | (with_reducible refine Below.setCell ?_ (by first | omega | (simp; omega) | (simp; done) | (dsimp only; omega)) _) | (with_reducible refine Below.drew ?_) | (with_reducible refine Below.trans ?_ (Below.mono (by assumption) (by first | omega | (simp; omega) | (simp; done) | (dsimp only; omega)))))) (fun fin hfin => ?_)
  iterate 1
    first
      | (refine SeqG.yes (v := ?_) (A' := ?_) rfl (fun γ => by rfl) ?_ ?_ ?_
         rotate_left 2
         · intro γ w' K hS hK
           obtain ⟨hc, hf⟩ := bcell hS
           have hz := hS.size
           go_simp
           first
             | exact hK.out _ (Below.refl _ _)
             | trace_state
         · intro γ; simp only [Act.put, List.setIfInBounds_toArray, List.set_cons_zero, List.set_cons_succ]; exact rfl)
      | (refine SeqG.no (A' := ?_) rfl (fun γ => by rfl) ?_ ?_
         rotate_left
         · intro γ; simp only [Act.put, List.setIfInBounds_toArray, List.set_cons_zero, List.set_cons_succ]; exact rfl)
  refine SeqG.make (k := 1) (A' := ?_) (fun g => .agg #[.bool x.s.s, .int .i64 x.s.lo, .int .i64 x.s.hi, .bool x.c.s, .int .i64 x.c.m, .int .i64 x.c.r, .bool na, .slice (gA g) (srt la).length (g 2)]) (RSetG (srt la)) rfl (fun γ => by rfl) (RSetG.stable _) ?_ ?_ ?_
  rotate_left
  · intro γ w' K hS hF hK
    obtain ⟨hc, hf⟩ := bcell hS
    have hz := hS.size
    go_simp
    (go_at_call 29; refine (HA.out w' (HW.trans (hS.mono HW.size))).mono ?_; rintro e w1 ⟨⟨A1, c1, rfl, hmade⟩, hb1⟩; obtain ⟨g, rfl, rfl, hg⟩ := MadeV.ghost hmade (by omega) (lo := w'.heap.size); exact hK.out g w1 hb1 hg)
  · intro γ; simp only [Act.put, List.setIfInBounds_toArray, List.set_cons_zero, List.set_cons_succ]; exact rfl
  iterate 1
    first
      | (refine SeqG.yes (v := ?_) (A' := ?_) rfl (fun γ => by rfl) ?_ ?_ ?_
         rotate_left 2
         · intro γ w' K hS hK
           obtain ⟨hc, hf⟩ := bcell hS
           have hz := hS.size
           go_simp
           first
             | exact hK.out _ (Below.refl _ _)
             | trace_state
         · intro γ; simp only [Act.put, List.setIfInBounds_toArray, List.set_cons_zero, List.set_cons_succ]; exact rfl)
      | (refine SeqG.no (A' := ?_) rfl (fun γ => by rfl) ?_ ?_
         rotate_left
         · intro γ; simp only [Act.put, List.setIfInBounds_toArray, List.set_cons_zero, List.set_cons_succ]; exact rfl)
  refine SeqG.make (k := 3) (A' := ?_) (fun g => .agg #[.bool y.s.s, .int .i64 y.s.lo, .int .i64 y.s.hi, .bool y.c.s, .int .i64 y.c.m, .int .i64 y.c.r, .bool nb, .slice (gA g) (srt lb).length (g 2)]) (RSetG (srt lb)) rfl (fun γ => by rfl) (RSetG.stable _) ?_ ?_ ?_
  rotate_left
  · intro γ w' K hS hF hK
    obtain ⟨hc, hf⟩ := bcell hS
    have hz := hS.size
    go_simp
    (go_at_call 29; refine (HB.out w' (HW.trans (hS.mono HW.size))).mono ?_; rintro e w1 ⟨⟨A1, c1, rfl, hmade⟩, hb1⟩; obtain ⟨g, rfl, rfl, hg⟩ := MadeV.ghost hmade (by omega) (lo := w'.heap.size); exact hK.out g w1 hb1 hg)
  · intro γ; simp only [Act.put, List.setIfInBounds_toArray, List.set_cons_zero, List.set_cons_succ]; exact rfl
  refine SeqG.nil (hfin.out _ _ ?_)
  clear hfin fin
  intro γ lo hi w1 hB1 hF hD
  replace hF := listF2 hF
  dsimp only at hF
  replace hD := listD2 hD
  dsimp only at hD
  replace hD := hD (by decide)
  obtain ⟨⟨y1, l1, o1, hR1⟩, ⟨y3, l3, o3, hR3⟩⟩ := hF
  have M1 := Lib.hid ((RSetG.made hR1).base (show W.heap.size ≤ lo 1 by omega))
  have M3 := Lib.hid ((RSetG.made hR3).base (show W.heap.size ≤ lo 3 by omega))
  obtain ⟨r1, m1, t1, n1, s1⟩ := hR1
  obtain ⟨r3, m3, t3, n3, s3⟩ := hR3
  have HF1 := Lib.hid (show ∀ a, gA (γ 1) = some a → W.heap.size ≤ a.block from fun a e => by have h1 := (s1 a e).1; omega)
  have HF3 := Lib.hid (show ∀ a, gA (γ 3) = some a → W.heap.size ≤ a.block from fun a e => by have h1 := (s3 a e).1; omega)
  clear hD s1 s3 y1 l1 o1 y3 l3 o3 m1 t1 m3 t3
  generalize gA (γ 1) = A1 at *
  generalize γ 1 2 = c1 at *
  generalize gA (γ 3) = A3 at *
  generalize γ 3 2 = c3 at *
  have HR1 := Lib.hid r1; have HR3 := Lib.hid r3; have HN1 := Lib.hid n1; have HN3 := Lib.hid n3
  clear r1 r3 n1 n3
  have H4 := Lib.hid ((hB1.block _ z0).trans k0)
  have H5 := Lib.hid ((hB1.block _ z1).trans k1)
  have HW1 := Lib.hid (HW.trans (hB1.mono HW.size))
  refine TailL.cons (fun K hK => ?_)
  refine wp_store_mid _ _ _ rfl w.heap.size 0 _ rfl rfl (st8_there H4.out) (by kernel_rfl) (by simp [Value.oneCell']) ?_
  rw [st8_set]
  generalize hX1 : st8 w1 w.heap.size (.bool x.s.s) (.int .i64 x.s.lo) (.int .i64 x.s.hi) (.bool x.c.s) (.int .i64 x.c.m) (.int .i64 x.c.r) (.bool na) (.slice A1 (srt la).length c1) = X1
  have K4 := Lib.hid (show X1.heap[w.heap.size]? = some (.cells #[.bool x.s.s, .int .i64 x.s.lo, .int .i64 x.s.hi, .bool x.c.s, .int .i64 x.c.m, .int .i64 x.c.r, .bool na, .slice A1 (srt la).length c1] 30) by rw [← hX1]; exact st8_blk H4.out)
  have HFA := Lib.hid (show ∀ b, b ≠ w.heap.size → X1.heap[b]? = w1.heap[b]? from fun b h => by rw [← hX1]; exact st8_far _ _ h)
  have HX1 := Lib.hid (show Below w.heap.size w X1 by rw [← hX1]; exact st8_below HW1.out (Nat.le_refl _))
  have Q1 := Lib.hid (show SRow X1 A1 (srt la) from HR1.out.far (fun a e hne p hp => by rw [← hX1]; exact st8_cell _ _ (by rw [hp]; have := HF1.out a e; omega)))
  have Q3 := Lib.hid (show SRow X1 A3 (srt lb) from HR3.out.far (fun a e hne p hp => by rw [← hX1]; exact st8_cell _ _ (by rw [hp]; have := HF3.out a e; omega)))
  have N1 := Lib.hid (show MadeV W.heap.size X1 A1 c1 (srt la) by rw [← hX1]; exact st8_made M1.out z0)
  have N3 := Lib.hid (show MadeV W.heap.size X1 A3 c3 (srt lb) by rw [← hX1]; exact st8_made M3.out z0)
  have K5 := Lib.hid ((HFA.out (w.heap.size + 1) (by omega)).trans H5.out)
  clear hX1 H4 H5 HR1 HR3 HW1
  refine hK.out _ _ ?_
  clear hK K
  refine TailL.cons (fun K hK => ?_)
  refine wp_store_mid _ _ _ rfl (w.heap.size + 1) 0 _ rfl rfl (st8_there K5.out) (by kernel_rfl) (by simp [Value.oneCell']) ?_
  rw [st8_set]
  generalize hX : st8 X1 (w.heap.size + 1) (.bool y.s.s) (.int .i64 y.s.lo) (.int .i64 y.s.hi) (.bool y.c.s) (.int .i64 y.c.m) (.int .i64 y.c.r) (.bool nb) (.slice A3 (srt lb).length c3) = X
  have kp : X.heap[w.heap.size]? = some (.cells #[.bool x.s.s, .int .i64 x.s.lo, .int .i64 x.s.hi, .bool x.c.s, .int .i64 x.c.m, .int .i64 x.c.r, .bool na, .slice A1 (srt la).length c1] 30) := by rw [← hX]; exact (st8_far _ _ (by omega)).trans K4.out
  have kq : X.heap[w.heap.size + 1]? = some (.cells #[.bool y.s.s, .int .i64 y.s.lo, .int .i64 y.s.hi, .bool y.c.s, .int .i64 y.c.m, .int .i64 y.c.r, .bool nb, .slice A3 (srt lb).length c3] 30) := by rw [← hX]; exact st8_blk K5.out
  have HM1 := Lib.hid (show MadeV W.heap.size X A1 c1 (srt la) by rw [← hX]; exact st8_made N1.out z1)
  have HM3 := Lib.hid (show MadeV W.heap.size X A3 c3 (srt lb) by rw [← hX]; exact st8_made N3.out z1)
  clear N1 N3 M1 M3
  have HX : Below w.heap.size w X := by rw [← hX]; exact st8_below HX1.out (by omega)
  have HFAR := Lib.hid (show ∀ b, b ≠ w.heap.size → b ≠ w.heap.size + 1 → X.heap[b]? = w1.heap[b]? from fun b h h' => by rw [← hX]; exact (st8_far _ _ h').trans (HFA.out b h))
  have R1 : SRow X A1 (srt la) := Q1.out.far (fun a e hne p hp => by rw [← hX]; exact st8_cell _ _ (by rw [hp]; have := HF1.out a e; omega))
  have R3 : SRow X A3 (srt lb) := Q3.out.far (fun a e hne p hp => by rw [← hX]; exact st8_cell _ _ (by rw [hp]; have := HF3.out a e; omega))
  clear hX K4 K5 Q1 Q3 HX1 HFA
  refine hK.out _ _ ?_
  clear hK K
  simp only [Act.put]
  refine TailL.nil ?_
  have kr := (HFAR.out (w.heap.size + 1 + 1) (by omega) (by omega)).trans ((hB1.block _ z2).trans k2)
  clear q0_0 q0_1 q0_2 q0_3 q0_4 q0_5 q0_6 q0_7 q1_0 q1_1 q1_2 q1_3 q1_4 q1_5 q1_6 q1_7 q2_0 q2_1 q2_2 q2_3 q2_4 q2_5 q2_6 q2_7 HA HB HFAR hB1 k0 k1 k2 z0 z1 z2
  have p_0 := blk_cell kp 0
  have p_1 := blk_cell kp 1
  have p_2 := blk_cell kp 2
  have p_3 := blk_cell kp 3
  have p_4 := blk_cell kp 4
  have p_5 := blk_cell kp 5
  have p_6 := blk_cell kp 6
  have p_7 := blk_cell kp 7
  simp only [List.getElem?_toArray, List.getElem?_cons_zero, List.getElem?_cons_succ] at p_0 p_1 p_2 p_3 p_4 p_5 p_6 p_7
  have fp := blk_free kp
  have zp := blk_lt kp
  have q_0 := blk_cell kq 0
  have q_1 := blk_cell kq 1
  have q_2 := blk_cell kq 2
  have q_3 := blk_cell kq 3
  have q_4 := blk_cell kq 4
  have q_5 := blk_cell kq 5
  have q_6 := blk_cell kq 6
  have q_7 := blk_cell kq 7
  simp only [List.getElem?_toArray, List.getElem?_cons_zero, List.getElem?_cons_succ] at q_0 q_1 q_2 q_3 q_4 q_5 q_6 q_7
  have fq := blk_free kq
  have zq := blk_lt kq
  have zr := blk_lt kr
  go_wp2_with fail
  go_at_call 36
  refine (HL.out _ _ _ _ _ R3 R1).mono ?_
  rintro e w5 ⟨rfl, hb5⟩
  have kp5 := (hb5.block _ zp).trans kp
  have kq5 := (hb5.block _ zq).trans kq
  have kr5 := (hb5.block _ zr).trans kr
  have HB := HX.trans (hb5.mono HX.size)
  have HM5 := Lib.hid ((HM1.out.base (show w.heap.size + 3 ≤ W.heap.size by omega)).mono hb5)
  have R35 := R3.mono hb5
  clear p_0 p_1 p_2 p_3 p_4 p_5 p_6 p_7 q_0 q_1 q_2 q_3 q_4 q_5 q_6 q_7 fp fq zp zq zr kp kq kr R1 R3 hb5 HX HM1 HM3 HF1 HF3 HN1 HN3 HL
  have p_0 := blk_cell kp5 0
  have p_1 := blk_cell kp5 1
  have p_2 := blk_cell kp5 2
  have p_3 := blk_cell kp5 3
  have p_4 := blk_cell kp5 4
  have p_5 := blk_cell kp5 5
  have p_6 := blk_cell kp5 6
  have p_7 := blk_cell kp5 7
  simp only [List.getElem?_toArray, List.getElem?_cons_zero, List.getElem?_cons_succ] at p_0 p_1 p_2 p_3 p_4 p_5 p_6 p_7
  have fp := blk_free kp5
  have zp := blk_lt kp5
  have q_0 := blk_cell kq5 0
  have q_1 := blk_cell kq5 1
  have q_2 := blk_cell kq5 2
  have q_3 := blk_cell kq5 3
  have q_4 := blk_cell kq5 4
  have q_5 := blk_cell kq5 5
  have q_6 := blk_cell kq5 6
  have q_7 := blk_cell kq5 7
  simp only [List.getElem?_toArray, List.getElem?_cons_zero, List.getElem?_cons_succ] at q_0 q_1 q_2 q_3 q_4 q_5 q_6 q_7
  have fq := blk_free kq5
  have zq := blk_lt kq5
  have r_0 := blk_cell kr5 0
  have r_1 := blk_cell kr5 1
  have r_2 := blk_cell kr5 2
  have r_3 := blk_cell kr5 3
  have r_4 := blk_cell kr5 4
  have r_5 := blk_cell kr5 5
  have r_6 := blk_cell kr5 6
  have r_7 := blk_cell kr5 7
  simp only [List.getElem?_toArray, List.getElem?_cons_zero, List.getElem?_cons_succ] at r_0 r_1 r_2 r_3 r_4 r_5 r_6 r_7
  have fr := blk_free kr5
  have zr := blk_lt kr5
  go_wp2_with fail
  go_at_call 37
  refine (HN.out _ _ _ R35).mono ?_
  rintro e w6 ⟨rfl, hb6⟩
  have kp6 := (hb6.block _ zp).trans kp5
  have kq6 := (hb6.block _ zq).trans kq5
  have kr6 := (hb6.block _ zr).trans kr5
  replace HB := HB.trans (hb6.mono HB.size)
  have HM6 := Lib.hid (HM5.out.mono hb6)
  clear p_0 p_1 p_2 p_3 p_4 p_5 p_6 p_7 q_0 q_1 q_2 q_3 q_4 q_5 q_6 q_7 r_0 r_1 r_2 r_3 r_4 r_5 r_6 r_7 fp fq fr zp zq zr kp5 kq5 kr5 R35 hb6 HM5 HN
  have p_0 := blk_cell kp6 0
  have p_1 := blk_cell kp6 1
  have p_2 := blk_cell kp6 2
  have p_3 := blk_cell kp6 3
  have p_4 := blk_cell kp6 4
  have p_5 := blk_cell kp6 5
  have p_6 := blk_cell kp6 6
  have p_7 := blk_cell kp6 7
  simp only [List.getElem?_toArray, List.getElem?_cons_zero, List.getElem?_cons_succ] at p_0 p_1 p_2 p_3 p_4 p_5 p_6 p_7
  have fp := blk_free kp6
  have zp := blk_lt kp6
  have q_0 := blk_cell kq6 0
  have q_1 := blk_cell kq6 1
  have q_2 := blk_cell kq6 2
  have q_3 := blk_cell kq6 3
  have q_4 := blk_cell kq6 4
  have q_5 := blk_cell kq6 5
  have q_6 := blk_cell kq6 6
  have q_7 := blk_cell kq6 7
  simp only [List.getElem?_toArray, List.getElem?_cons_zero, List.getElem?_cons_succ] at q_0 q_1 q_2 q_3 q_4 q_5 q_6 q_7
  have fq := blk_free kq6
  have zq := blk_lt kq6
  have r_0 := blk_cell kr6 0
  have r_1 := blk_cell kr6 1
  have r_2 := blk_cell kr6 2
  have r_3 := blk_cell kr6 3
  have r_4 := blk_cell kr6 4
  have r_5 := blk_cell kr6 5
  have r_6 := blk_cell kr6 6
  have r_7 := blk_cell kr6 7
  simp only [List.getElem?_toArray, List.getElem?_cons_zero, List.getElem?_cons_succ] at r_0 r_1 r_2 r_3 r_4 r_5 r_6 r_7
  have fr := blk_free kr6
  have zr := blk_lt kr6
  go_wp2
  refine bodyPost_ret (by simp [results, Tryz.results9, go_sem, *] <;> rfl) rfl ⟨⟨none, 0, rfl, MadeV.nil _ _⟩, (by repeat (first | (with_reducible assumption) | (with_reducible exact Below.refl _ _) | (with_reducible refine Below.alloc ?_ (by first | omega | (simp; omega) | (simp; done) | (dsimp only; omega)) _) | (with_reducible refine Below.setCell ?_ (by first | omega | (simp; omega) | (simp; done) | (dsimp only; omega)) _) | (with_reducible refine Below.drew ?_) | (with_reducible refine Below.trans ?_ (Below.mono (by assumption) (by first | omega | (simp; omega) | (simp; done) | (dsimp only; omega))))))⟩

end Go.Proofs.YtdpnphnafidpiaaGreat
