/- X-PARTIAL What value.Same, Widen return: layer 8. -/
import Derived.Test.YtdpnphnafidpiaaGreatValFG
namespace Go.Proofs.YtdpnphnafidpiaaGreat
open Go.RowKit

def In.same (x y : In) : Bool := (x.s.s == y.s.s) && ((x.s.lo == y.s.lo) && ((x.s.hi == y.s.hi) && ((x.c.s == y.c.s) && ((x.c.m == y.c.m) && (x.c.r == y.c.r)))))
theorem In.same_eq {x y : In} (h : x.same y = true) : x = y := by
  unfold In.same at h
  simp only [Bool.and_eq_true, beq_iff_eq] at h
  obtain ⟨h1, h2, h3, h4, h5, h6⟩ := h
  exact In.ext' (Sp.ext' h1 h2 h3) (Cg.ext' h4 h5 h6)
theorem In.same_self (x : In) : x.same x = true := by unfold In.same; simp
theorem In.same_ne {x y : In} (h : x.same y = false) : (x.s.s == y.s.s) = false ∨ ((x.s.s == y.s.s) = true ∧ (x.s.lo == y.s.lo) = false) ∨ ((x.s.s == y.s.s) = true ∧ (x.s.lo == y.s.lo) = true ∧ (x.s.hi == y.s.hi) = false) ∨
    ((x.s.s == y.s.s) = true ∧ (x.s.lo == y.s.lo) = true ∧ (x.s.hi == y.s.hi) = true ∧ (x.c.s == y.c.s) = false) ∨ ((x.s.s == y.s.s) = true ∧ (x.s.lo == y.s.lo) = true ∧ (x.s.hi == y.s.hi) = true ∧ (x.c.s == y.c.s) = true ∧ (x.c.m == y.c.m) = false) ∨
    ((x.s.s == y.s.s) = true ∧ (x.s.lo == y.s.lo) = true ∧ (x.s.hi == y.s.hi) = true ∧ (x.c.s == y.c.s) = true ∧ (x.c.m == y.c.m) = true ∧ (x.c.r == y.c.r) = false) := by
  unfold In.same at h
  generalize (x.s.s == y.s.s) = b1 at *
  generalize (x.s.lo == y.s.lo) = b2 at *
  generalize (x.s.hi == y.s.hi) = b3 at *
  generalize (x.c.s == y.c.s) = b4 at *
  generalize (x.c.m == y.c.m) = b5 at *
  generalize (x.c.r == y.c.r) = b6 at *
  revert h
  cases b1 <;> cases b2 <;> cases b3 <;> cases b4 <;> cases b5 <;> cases b6 <;> simp
theorem srt_join (la lb : List Str) : srt (srt la ++ srt lb) = srt (la ++ lb) :=
  srt_of (strict_srt _) (fun y => by simp only [mem_srt, List.mem_append])

set_option maxRecDepth 100000 in
set_option maxHeartbeats 8000000 in
theorem value_Widen (a b : In) (ha : a.ok) (hb : b.ok) (na nb : Bool) (la lb : List Str) (A B : Option Addr) (ca cb : Nat) (L : List Int) (C : Option Addr) (cc : Nat) (w : World) (hm : (la.length + lb.length) * 16 ≤ 140737488355328) (hza : A = none → ca = 0) (hzb : B = none → cb = 0) (hra : SRow w A la) (hrb : SRow w B lb)
    (hmL : L.length ≤ 9223372036854775807) (hrL : IRow w C L) :
    Calls Tryz.prog 6 #[.agg #[.bool a.s.s, .int .i64 a.s.lo, .int .i64 a.s.hi, .bool a.c.s, .int .i64 a.c.m, .int .i64 a.c.r, .bool na, .slice A la.length ca], .agg #[.bool b.s.s, .int .i64 b.s.lo, .int .i64 b.s.hi, .bool b.c.s, .int .i64 b.c.m, .int .i64 b.c.r, .bool nb, .slice B lb.length cb], .slice C L.length cc] w fun e w' => (∃ A' c', e = .returned (.agg #[.bool (a.widen b L).s.s, .int .i64 (a.widen b L).s.lo, .int .i64 (a.widen b L).s.hi, .bool (a.widen b L).c.s, .int .i64 (a.widen b L).c.m, .int .i64 (a.widen b L).c.r, .bool (na || nb), .slice A' (srt (la ++ lb)).length c']) ∧ MadeV w.heap.size w' A' c' (srt (la ++ lb))) ∧ Below w.heap.size w w' := by
  have HA : Hid (∀ w', Below w.heap.size w w' → _) := Lib.hid (fun w' h => value_split a ha na la A ca w' (by omega) hza (hra.mono h))
  have HB : Hid (∀ w', Below w.heap.size w w' → _) := Lib.hid (fun w' h => value_split b hb nb lb B cb w' (by omega) hzb (hrb.mono h))
  have hxs := In.clean_std ha
  have hys := In.clean_std hb
  have hla := srt_len_le la
  have hlb := srt_len_le lb
  unfold In.widen
  generalize a.clean = x at *
  generalize b.clean = y at *
  have H1 : Hid (∀ w', Below w.heap.size w w' → _) := Lib.hid (fun w' h => span_widen x.s y.s L C cc w' hmL (hrL.mono h))
  have H2 := Lib.hid (cong_join x.c y.c (In.std_ok hxs).2 (In.std_ok hys).2)
  have h3 := fun A1 A3 c1 c3 w' => names_Join na nb (srt la) (srt lb) A1 A3 c1 c3 w' (by omega)
  rw [srt_join] at h3
  have H3 : Hid (∀ A1 A3 c1 c3 w', _) := Lib.hid h3
  have hws := In.widenC_std L hxs hys
  have hlj := srt_len_le (la ++ lb)
  rw [List.length_append] at hlj
  have h4 := fun A1 c1 w' => value_clean (In.widenC x y L) (In.std_ok hws) (na || nb) (srt (la ++ lb)) A1 c1 w' (by omega)
  rw [In.std_clean hws, srt_srt] at h4
  have e1 : (In.widenC x y L).s = x.s.widen y.s L := rfl
  have e2 : (In.widenC x y L).c = x.c.join y.c := rfl
  rw [← e1] at H1
  rw [← e2] at H2
  clear e1 e2
  generalize In.widenC x y L = u at *
  have H4 : Hid (∀ A1 c1 w', _) := Lib.hid h4
  have H5 : Hid (∀ A1 c1 w', _) := Lib.hid (fun A1 c1 w' => parts_value u (na || nb) (srt (la ++ lb)) A1 c1 w')
  clear h3 h4 hws hxs hys hra hrb ha hb hrL hlj
  go_enter Tryz.func6, Tryz.ntmps6
  go_upto_region 1 with fail
  generalize hW : (((w.alloc (.cells #[.bool a.s.s, .int .i64 a.s.lo, .int .i64 a.s.hi, .bool a.c.s, .int .i64 a.c.m, .int .i64 a.c.r, .bool na, .slice A la.length ca] 30)).alloc (.cells #[.bool b.s.s, .int .i64 b.s.lo, .int .i64 b.s.hi, .bool b.c.s, .int .i64 b.c.m, .int .i64 b.c.r, .bool nb, .slice B lb.length cb] 30)).alloc (.cells #[.bool false, .int .i64 0, .int .i64 0, .bool false, .int .i64 0, .int .i64 0, .bool false, .slice none 0 0] 30)) = W
  have q0_0 : W.cell? ⟨w.heap.size, 0, none⟩ = some (.bool a.s.s) := by rw [← hW]; simp [go_sem]
  have q0_1 : W.cell? ⟨w.heap.size, 1, none⟩ = some (.int .i64 a.s.lo) := by rw [← hW]; simp [go_sem]
  have q0_2 : W.cell? ⟨w.heap.size, 2, none⟩ = some (.int .i64 a.s.hi) := by rw [← hW]; simp [go_sem]
  have q0_3 : W.cell? ⟨w.heap.size, 3, none⟩ = some (.bool a.c.s) := by rw [← hW]; simp [go_sem]
  have q0_4 : W.cell? ⟨w.heap.size, 4, none⟩ = some (.int .i64 a.c.m) := by rw [← hW]; simp [go_sem]
  have q0_5 : W.cell? ⟨w.heap.size, 5, none⟩ = some (.int .i64 a.c.r) := by rw [← hW]; simp [go_sem]
  have q0_6 : W.cell? ⟨w.heap.size, 6, none⟩ = some (.bool na) := by rw [← hW]; simp [go_sem]
  have q0_7 : W.cell? ⟨w.heap.size, 7, none⟩ = some (.slice A la.length ca) := by rw [← hW]; simp [go_sem]
  have q1_0 : W.cell? ⟨w.heap.size + 1, 0, none⟩ = some (.bool b.s.s) := by rw [← hW]; simp [go_sem]
  have q1_1 : W.cell? ⟨w.heap.size + 1, 1, none⟩ = some (.int .i64 b.s.lo) := by rw [← hW]; simp [go_sem]
  have q1_2 : W.cell? ⟨w.heap.size + 1, 2, none⟩ = some (.int .i64 b.s.hi) := by rw [← hW]; simp [go_sem]
  have q1_3 : W.cell? ⟨w.heap.size + 1, 3, none⟩ = some (.bool b.c.s) := by rw [← hW]; simp [go_sem]
  have q1_4 : W.cell? ⟨w.heap.size + 1, 4, none⟩ = some (.int .i64 b.c.m) := by rw [← hW]; simp [go_sem]
  have q1_5 : W.cell? ⟨w.heap.size + 1, 5, none⟩ = some (.int .i64 b.c.r) := by rw [← hW]; simp [go_sem]
  have q1_6 : W.cell? ⟨w.heap.size + 1, 6, none⟩ = some (.bool nb) := by rw [← hW]; simp [go_sem]
  have q1_7 : W.cell? ⟨w.heap.size + 1, 7, none⟩ = some (.slice B lb.length cb) := by rw [← hW]; simp [go_sem]
  have q2_0 : W.cell? ⟨w.heap.size + 1 + 1, 0, none⟩ = some (.bool false) := by rw [← hW]; simp [go_sem]
  have q2_1 : W.cell? ⟨w.heap.size + 1 + 1, 1, none⟩ = some (.int .i64 0) := by rw [← hW]; simp [go_sem]
  have q2_2 : W.cell? ⟨w.heap.size + 1 + 1, 2, none⟩ = some (.int .i64 0) := by rw [← hW]; simp [go_sem]
  have q2_3 : W.cell? ⟨w.heap.size + 1 + 1, 3, none⟩ = some (.bool false) := by rw [← hW]; simp [go_sem]
  have q2_4 : W.cell? ⟨w.heap.size + 1 + 1, 4, none⟩ = some (.int .i64 0) := by rw [← hW]; simp [go_sem]
  have q2_5 : W.cell? ⟨w.heap.size + 1 + 1, 5, none⟩ = some (.int .i64 0) := by rw [← hW]; simp [go_sem]
  have q2_6 : W.cell? ⟨w.heap.size + 1 + 1, 6, none⟩ = some (.bool false) := by rw [← hW]; simp [go_sem]
  have q2_7 : W.cell? ⟨w.heap.size + 1 + 1, 7, none⟩ = some (.slice none 0 0) := by rw [← hW]; simp [go_sem]
  have f0 : ∀ o, W.frozen? ⟨w.heap.size, o, none⟩ = false := by intro o; rw [← hW]; simp [go_sem]
  have f1 : ∀ o, W.frozen? ⟨w.heap.size + 1, o, none⟩ = false := by intro o; rw [← hW]; simp [go_sem]
  have f2 : ∀ o, W.frozen? ⟨w.heap.size + 1 + 1, o, none⟩ = false := by intro o; rw [← hW]; simp [go_sem]
  have k0 : W.heap[w.heap.size]? = some (.cells #[.bool a.s.s, .int .i64 a.s.lo, .int .i64 a.s.hi, .bool a.c.s, .int .i64 a.c.m, .int .i64 a.c.r, .bool na, .slice A la.length ca] 30 (0, 0)) := by rw [← hW]; rw [al_old _ _ (by (repeat rw [al_size]); omega)]; rw [al_old _ _ (by (repeat rw [al_size]); omega)]; exact al_new _ _ (by (repeat rw [al_size]) <;> rfl)
  have k1 : W.heap[w.heap.size + 1]? = some (.cells #[.bool b.s.s, .int .i64 b.s.lo, .int .i64 b.s.hi, .bool b.c.s, .int .i64 b.c.m, .int .i64 b.c.r, .bool nb, .slice B lb.length cb] 30 (0, 0)) := by rw [← hW]; rw [al_old _ _ (by (repeat rw [al_size]); omega)]; exact al_new _ _ (by (repeat rw [al_size]) <;> rfl)
  have k2 : W.heap[w.heap.size + 1 + 1]? = some (.cells #[.bool false, .int .i64 0, .int .i64 0, .bool false, .int .i64 0, .int .i64 0, .bool false, .slice none 0 0] 30 (0, 0)) := by rw [← hW]; exact al_new _ _ (by (repeat rw [al_size]) <;> rfl)
  have z0 : w.heap.size < W.heap.size := by rw [← hW]; first | (simp; done) | (simp; omega)
  have z1 : w.heap.size + 1 < W.heap.size := by rw [← hW]; first | (simp; done) | (simp; omega)
  have z2 : w.heap.size + 1 + 1 < W.heap.size := by rw [← hW]; first | (simp; done) | (simp; omega)
  have HW : Below w.heap.size w W := by rw [← hW]; exact (by repeat (first | (with_reducible assumption) | (with_reducible exact Below.refl _ _) | (with_reducible refine Below.alloc ?_ (by first | omega | (simp; omega) | (simp; done) | (dsimp only; omega)) _) | (with_reducible refine Below.setCell ?_ (by first | omega | (simp; omega) | (simp; done) | (dsimp only; omega)) _) | (with_reducible refine Below.drew ?_) | (with_reducible refine Below.trans ?_ (Below.mono (by assumption) (by first | omega | (simp; omega) | (simp; done) | (dsimp only; omega))))))
  clear hW
  have zW2 := z2
  clear f0 f1 f2 k0 k1
  refine region_seqg (W := W) [_, _, _, _, _, _] [_, _] rfl (by kernel_rfl) (by kernel_rfl) (by repeat (first | (with_reducible assumption) | (with_reducible exact Below.refl _ _) | (with_reducible refine Below.alloc ?_ (by first | omega | (simp; omega) | (simp; done) | (dsimp only; omega)) _) | (with_reducible refine Below.setCell ?_ (by first | omega | (simp; omega) | (simp; done) | (dsimp only; omega)) _) | (with_reducible refine Below.drew ?_) | (with_reducible refine Below.trans ?_ (Below.mono (by assumption) (by first | omega | (simp; omega) | (simp; done) | (dsimp only; omega)))))) (fun fin hfin => ?_)
  iterate 1
    first
      | (refine SeqG.yes (v := ?_) (A' := ?_) rfl (fun γ => by rfl) ?_ ?_ ?_
         rotate_left 2
         · intro γ w' K hS hK
           obtain ⟨hc, hf⟩ := bcell hS
           have hz := hS.size
           go_simp
           first
             | exact hK.out _ (Below.refl _ _)
             | trace_state
         · intro γ; simp only [Act.put, List.setIfInBounds_toArray, List.set_cons_zero, List.set_cons_succ]; exact rfl)
      | (refine SeqG.no (A' := ?_) rfl (fun γ => by rfl) ?_ ?_
         rotate_left
         · intro γ; simp only [Act.put, List.setIfInBounds_toArray, List.set_cons_zero, List.set_cons_succ]; exact rfl)
  refine SeqG.make (k := 1) (A' := ?_) (fun g => .agg #[.bool x.s.s, .int .i64 x.s.lo, .int .i64 x.s.hi, .bool x.c.s, .int .i64 x.c.m, .int .i64 x.c.r, .bool na, .slice (gA g) (srt la).length (g 2)]) (RSetG (srt la)) rfl (fun γ => by rfl) (RSetG.stable _) ?_ ?_ ?_
  rotate_left
  · intro γ w' K hS hF hK
    obtain ⟨hc, hf⟩ := bcell hS
    have hz := hS.size
    go_simp
    (go_at_call 23; refine (HA.out w' (HW.trans (hS.mono HW.size))).mono ?_; rintro e w1 ⟨⟨A1, c1, rfl, hmade⟩, hb1⟩; obtain ⟨g, rfl, rfl, hg⟩ := MadeV.ghost hmade (by omega) (lo := w'.heap.size); exact hK.out g w1 hb1 hg)
  · intro γ; simp only [Act.put, List.setIfInBounds_toArray, List.set_cons_zero, List.set_cons_succ]; exact rfl
  iterate 1
    first
      | (refine SeqG.yes (v := ?_) (A' := ?_) rfl (fun γ => by rfl) ?_ ?_ ?_
         rotate_left 2
         · intro γ w' K hS hK
           obtain ⟨hc, hf⟩ := bcell hS
           have hz := hS.size
           go_simp
           first
             | exact hK.out _ (Below.refl _ _)
             | trace_state
         · intro γ; simp only [Act.put, List.setIfInBounds_toArray, List.set_cons_zero, List.set_cons_succ]; exact rfl)
      | (refine SeqG.no (A' := ?_) rfl (fun γ => by rfl) ?_ ?_
         rotate_left
         · intro γ; simp only [Act.put, List.setIfInBounds_toArray, List.set_cons_zero, List.set_cons_succ]; exact rfl)
  refine SeqG.make (k := 3) (A' := ?_) (fun g => .agg #[.bool y.s.s, .int .i64 y.s.lo, .int .i64 y.s.hi, .bool y.c.s, .int .i64 y.c.m, .int .i64 y.c.r, .bool nb, .slice (gA g) (srt lb).length (g 2)]) (RSetG (srt lb)) rfl (fun γ => by rfl) (RSetG.stable _) ?_ ?_ ?_
  rotate_left
  · intro γ w' K hS hF hK
    obtain ⟨hc, hf⟩ := bcell hS
    have hz := hS.size
    go_simp
    (go_at_call 23; refine (HB.out w' (HW.trans (hS.mono HW.size))).mono ?_; rintro e w1 ⟨⟨A1, c1, rfl, hmade⟩, hb1⟩; obtain ⟨g, rfl, rfl, hg⟩ := MadeV.ghost hmade (by omega) (lo := w'.heap.size); exact hK.out g w1 hb1 hg)
  · intro γ; simp only [Act.put, List.setIfInBounds_toArray, List.set_cons_zero, List.set_cons_succ]; exact rfl
  refine SeqG.make (k := 4) (A' := ?_) (fun g => .pointer (some ⟨g 0, 0, none⟩)) (RCell #[.bool false, .int .i64 0, .int .i64 0, .bool false, .int .i64 0, .int .i64 0, .bool false, .slice none 0 0] 55) rfl (fun γ => by rfl) (RCell.stable _ _) ?_ ?_ ?_
  rotate_left
  · intro γ w' K hS _ hK
    have hm := RCell.made (#[.bool false, .int .i64 0, .int .i64 0, .bool false, .int .i64 0, .int .i64 0, .bool false, .slice none 0 0]) (55) w'
    have HK := Lib.hid (hK.out (fun _ => w'.heap.size) (w'.alloc (.cells #[.bool false, .int .i64 0, .int .i64 0, .bool false, .int .i64 0, .int .i64 0, .bool false, .slice none 0 0] 55)) ((Below.refl _ _).alloc (Nat.le_refl _) _) hm); clear hK hm
    go_simp
    exact HK.out
  · intro γ; simp only [Act.put, List.setIfInBounds_toArray, List.set_cons_zero, List.set_cons_succ]; exact rfl
  refine SeqG.make (k := 5) (A' := ?_) (fun g => .pointer (some ⟨g 0, 0, none⟩)) (RCell #[.bool false, .int .i64 0, .int .i64 0, .bool false, .int .i64 0, .int .i64 0, .bool false, .slice none 0 0] 55) rfl (fun γ => by rfl) (RCell.stable _ _) ?_ ?_ ?_
  rotate_left
  · intro γ w' K hS _ hK
    have hm := RCell.made (#[.bool false, .int .i64 0, .int .i64 0, .bool false, .int .i64 0, .int .i64 0, .bool false, .slice none 0 0]) (55) w'
    have HK := Lib.hid (hK.out (fun _ => w'.heap.size) (w'.alloc (.cells #[.bool false, .int .i64 0, .int .i64 0, .bool false, .int .i64 0, .int .i64 0, .bool false, .slice none 0 0] 55)) ((Below.refl _ _).alloc (Nat.le_refl _) _) hm); clear hK hm
    go_simp
    exact HK.out
  · intro γ; simp only [Act.put, List.setIfInBounds_toArray, List.set_cons_zero, List.set_cons_succ]; exact rfl
  refine SeqG.nil (hfin.out _ _ ?_)
  clear hfin fin
  intro γ lo hi w1 hB1 hF hD
  replace hF := listF4 hF
  dsimp only at hF
  replace hD := listD4 hD
  dsimp only at hD
  obtain ⟨hD0, hD1, hD2, hD3, hD4, hD5⟩ := hD
  replace hD0 := hD0 (by decide)
  replace hD1 := hD1 (by decide)
  replace hD2 := hD2 (by decide)
  replace hD3 := hD3 (by decide)
  replace hD4 := hD4 (by decide)
  replace hD5 := hD5 (by decide)
  obtain ⟨⟨y1, l1, o1, r1, m1, t1, n1, s1⟩, ⟨y3, l3, o3, r3, m3, t3, n3, s3⟩, ⟨y4, l4, o4, p4, p4', h4⟩, ⟨y5, l5, o5, p5, p5', h5⟩⟩ := hF
  have w4 : W.heap.size ≤ γ 4 0 := by omega
  have w5 : W.heap.size ≤ γ 5 0 := by omega
  have x4 : γ 4 0 < w1.heap.size := by omega
  have x5 : γ 5 0 < w1.heap.size := by omega
  have n45 : γ 4 0 ≠ γ 5 0 := by omega
  have F1 : ∀ a, gA (γ 1) = some a → srt la ≠ [] → a.block ≠ γ 4 0 ∧ a.block ≠ γ 5 0 := fun a e hne => by
    have h1 := (s1 a e).1; have h2 := (s1 a e).2 hne; omega
  have F3 : ∀ a, gA (γ 3) = some a → srt lb ≠ [] → a.block ≠ γ 4 0 ∧ a.block ≠ γ 5 0 := fun a e hne => by
    have h1 := (s3 a e).1; have h2 := (s3 a e).2 hne; omega
  clear hD0 hD1 hD2 hD3 hD4 hD5 s1 s3 y1 l1 o1 y3 l3 o3 y4 l4 o4 p4 p4' y5 l5 o5 p5 p5' m1 t1 m3 t3
  generalize γ 4 0 = bp at *
  generalize γ 5 0 = bq at *
  generalize gA (γ 1) = A1 at *
  generalize γ 1 2 = c1 at *
  generalize gA (γ 3) = A3 at *
  generalize γ 3 2 = c3 at *
  have n54 := Ne.symm n45
  have H4 := Lib.hid h4; have H5 := Lib.hid h5; have HF1 := Lib.hid F1; have HF3 := Lib.hid F3; have HR1 := Lib.hid r1; have HR3 := Lib.hid r3; have HN1 := Lib.hid n1; have HN3 := Lib.hid n3
  clear h4 h5 F1 F3 r1 r3 n1 n3
  refine TailL.cons (fun K hK => ?_)
  refine wp_store_mid _ _ _ rfl bp 0 _ rfl rfl (st8_there H4.out) (by kernel_rfl) (by simp [Value.oneCell']) ?_
  rw [st8_set]
  generalize hX1 : st8 w1 bp (.bool x.s.s) (.int .i64 x.s.lo) (.int .i64 x.s.hi) (.bool x.c.s) (.int .i64 x.c.m) (.int .i64 x.c.r) (.bool na) (.slice A1 (srt la).length c1) = X1
  have K4 := Lib.hid (show X1.heap[bp]? = some (.cells #[.bool x.s.s, .int .i64 x.s.lo, .int .i64 x.s.hi, .bool x.c.s, .int .i64 x.c.m, .int .i64 x.c.r, .bool na, .slice A1 (srt la).length c1] 55) by rw [← hX1]; exact st8_blk H4.out)
  have K5 := Lib.hid ((show X1.heap[bq]? = w1.heap[bq]? by rw [← hX1]; exact st8_far _ _ n54).trans H5.out)
  have HX1 : Below W.heap.size W X1 := by rw [← hX1]; exact st8_below hB1 w4
  have Q1 := Lib.hid (show SRow X1 A1 (srt la) from HR1.out.far (fun a e hne p hp => by rw [← hX1]; exact st8_cell _ _ (by rw [hp]; exact (HF1.out a e hne).1)))
  have Q3 := Lib.hid (show SRow X1 A3 (srt lb) from HR3.out.far (fun a e hne p hp => by rw [← hX1]; exact st8_cell _ _ (by rw [hp]; exact (HF3.out a e hne).1)))
  clear hX1 H4 H5 HR1 HR3 hB1 x4 x5
  refine hK.out _ _ ?_
  clear hK K
  refine TailL.cons (fun K hK => ?_)
  refine wp_store_mid _ _ _ rfl bq 0 _ rfl rfl (st8_there K5.out) (by kernel_rfl) (by simp [Value.oneCell']) ?_
  rw [st8_set]
  generalize hX : st8 X1 bq (.bool y.s.s) (.int .i64 y.s.lo) (.int .i64 y.s.hi) (.bool y.c.s) (.int .i64 y.c.m) (.int .i64 y.c.r) (.bool nb) (.slice A3 (srt lb).length c3) = X
  have kp : X.heap[bp]? = some (.cells #[.bool x.s.s, .int .i64 x.s.lo, .int .i64 x.s.hi, .bool x.c.s, .int .i64 x.c.m, .int .i64 x.c.r, .bool na, .slice A1 (srt la).length c1] 55) := by rw [← hX]; exact (st8_far _ _ n45).trans K4.out
  have kq : X.heap[bq]? = some (.cells #[.bool y.s.s, .int .i64 y.s.lo, .int .i64 y.s.hi, .bool y.c.s, .int .i64 y.c.m, .int .i64 y.c.r, .bool nb, .slice A3 (srt lb).length c3] 55) := by rw [← hX]; exact st8_blk K5.out
  have HX : Below W.heap.size W X := by rw [← hX]; exact st8_below HX1 w5
  have R1 : SRow X A1 (srt la) := Q1.out.far (fun a e hne p hp => by rw [← hX]; exact st8_cell _ _ (by rw [hp]; exact (HF1.out a e hne).2))
  have R3 : SRow X A3 (srt lb) := Q3.out.far (fun a e hne p hp => by rw [← hX]; exact st8_cell _ _ (by rw [hp]; exact (HF3.out a e hne).2))
  clear hX K4 K5 HF1 HF3 Q1 Q3 HX1
  refine hK.out _ _ ?_
  clear hK K
  simp only [Act.put]
  refine TailL.nil ?_
  have hwb : w.heap.size ≤ W.heap.size := by omega
  have kr := (HX.block _ z2).trans k2
  have HBX := HW.trans (HX.mono hwb)
  have hbX := HX.size
  clear q0_0 q0_1 q0_2 q0_3 q0_4 q0_5 q0_6 q0_7 q1_0 q1_1 q1_2 q1_3 q1_4 q1_5 q1_6 q1_7 q2_0 q2_1 q2_2 q2_3 q2_4 q2_5 q2_6 q2_7 HA HB hla hlb hza hzb k2 z0 z1 z2
  have p_0 := blk_cell kp 0
  have p_1 := blk_cell kp 1
  have p_2 := blk_cell kp 2
  have p_3 := blk_cell kp 3
  have p_4 := blk_cell kp 4
  have p_5 := blk_cell kp 5
  have p_6 := blk_cell kp 6
  have p_7 := blk_cell kp 7
  simp only [List.getElem?_toArray, List.getElem?_cons_zero, List.getElem?_cons_succ] at p_0 p_1 p_2 p_3 p_4 p_5 p_6 p_7
  have fp := blk_free kp
  have zp := blk_lt kp
  have q_0 := blk_cell kq 0
  have q_1 := blk_cell kq 1
  have q_2 := blk_cell kq 2
  have q_3 := blk_cell kq 3
  have q_4 := blk_cell kq 4
  have q_5 := blk_cell kq 5
  have q_6 := blk_cell kq 6
  have q_7 := blk_cell kq 7
  simp only [List.getElem?_toArray, List.getElem?_cons_zero, List.getElem?_cons_succ] at q_0 q_1 q_2 q_3 q_4 q_5 q_6 q_7
  have fq := blk_free kq
  have zq := blk_lt kq
  have zr := blk_lt kr
  clear HX HW
  have HR1 := Lib.hid R1; have HR3 := Lib.hid R3
  clear R1 R3
  go_upto_region 2 with fail
  refine region_seqg (W := X) [_, _, _, _, _, _, _, _, _, _, _, _, _, _, _, _, _, _, _, _, _, _, _] [_] rfl (by kernel_rfl) (by kernel_rfl) (by repeat (first | (with_reducible assumption) | (with_reducible exact Below.refl _ _) | (with_reducible refine Below.alloc ?_ (by first | omega | (simp; omega) | (simp; done) | (dsimp only; omega)) _) | (with_reducible refine Below.setCell ?_ (by first | omega | (simp; omega) | (simp; done) | (dsimp only; omega)) _) | (with_reducible refine Below.drew ?_) | (with_reducible refine Below.trans ?_ (Below.mono (by assumption) (by first | omega | (simp; omega) | (simp; done) | (dsimp only; omega)))))) (fun fin hfin => ?_)
  iterate 20
    first
      | (refine SeqG.yes (v := ?_) (A' := ?_) rfl (fun γ => by rfl) ?_ ?_ ?_
         rotate_left 2
         · intro γ w' K hS hK
           obtain ⟨hc, hf⟩ := bcell hS
           have hz := hS.size
           go_simp
           first
             | exact hK.out _ (Below.refl _ _)
             | (go_at_call 25; (with_reducible refine (H1.out w' (HBX.trans (hS.mono HBX.size))).mono ?_); rintro e w1 ⟨rfl, hb1⟩; exact hK.out _ hb1)
             | (go_at_call 26; (with_reducible refine (H2.out w').mono ?_); rintro e w1 ⟨rfl, hb1⟩; exact hK.out _ hb1)
             | trace_state
         · intro γ; simp only [Act.put, List.setIfInBounds_toArray, List.set_cons_zero, List.set_cons_succ]; exact rfl)
      | (refine SeqG.no (A' := ?_) rfl (fun γ => by rfl) ?_ ?_
         rotate_left
         · intro γ; simp only [Act.put, List.setIfInBounds_toArray, List.set_cons_zero, List.set_cons_succ]; exact rfl)
  refine SeqG.make (k := 20) (A' := ?_) (fun g => .agg #[.bool (na || nb), .slice (gA g) (srt (la ++ lb)).length (g 2)]) (RSetG (srt (la ++ lb))) rfl (fun γ => by rfl) (RSetG.stable _) ?_ ?_ ?_
  rotate_left
  · intro γ w' K hS hF hK
    obtain ⟨hc, hf⟩ := bcell hS
    have hz := hS.size
    go_simp
    (go_at_call 27; refine (H3.out A1 A3 c1 c3 w' HN1.out HN3.out (HR1.out.mono hS) (HR3.out.mono hS)).mono ?_; rintro e w1 ⟨⟨v, rfl, hset⟩, hb1⟩; obtain ⟨g, rfl, hg⟩ := SetV.ghost hset (by omega) (lo := w'.heap.size); exact hK.out g w1 hb1 hg)
  · intro γ; simp only [Act.put, List.setIfInBounds_toArray, List.set_cons_zero, List.set_cons_succ]; exact rfl
  refine SeqG.make (k := 21) (A' := ?_) (fun g => .agg #[.bool u.s.s, .int .i64 u.s.lo, .int .i64 u.s.hi, .bool u.c.s, .int .i64 u.c.m, .int .i64 u.c.r, .bool (na || nb), .slice (gA g) (srt (la ++ lb)).length (g 2)]) (RSetG (srt (la ++ lb))) rfl (fun γ => by rfl) (RSetG.stable _) ?_ ?_ ?_
  rotate_left
  · intro γ w' K hS hF hK
    obtain ⟨hc, hf⟩ := bcell hS
    have hz := hS.size
    obtain ⟨_, _, _, _, r20, m20, t20, n20, _⟩ := hF (20, RSetG (srt (la ++ lb))) (by simp) (reachL_spec (of_decide_eq_true (by kernel_rfl)))
    go_simp
    (go_at_call 24; refine (H4.out _ _ w' n20 r20).mono ?_; rintro e w1 ⟨⟨A1, c1, rfl, hmade⟩, hb1⟩; obtain ⟨g, rfl, rfl, hg⟩ := MadeV.ghost hmade (by omega) (lo := w'.heap.size); exact hK.out g w1 hb1 hg)
  · intro γ; simp only [Act.put, List.setIfInBounds_toArray, List.set_cons_zero, List.set_cons_succ]; exact rfl
  refine SeqG.hang (k := 22) (A' := ?_) (fun γ => .agg #[.bool u.s.s, .int .i64 u.s.lo, .int .i64 u.s.hi, .bool u.c.s, .int .i64 u.c.m, .int .i64 u.c.r, .bool (na || nb), .slice (gA (γ 21)) (srt (la ++ lb)).length (γ 21 2)]) rfl (fun γ => by rfl) (fun i _ hn γ g => ?_) (fun γ g => ?_) ?_ ?_ ?_
  rotate_left
  · have hne21 : 21 ≠ i := fun e => hn (by rw [← e]; exact reachL_spec (of_decide_eq_true (by kernel_rfl)))
    (try dsimp only); rw [updG_ne γ g hne21]
  · (try dsimp only); rw [updG_ne γ g (show 21 ≠ 22 by decide)]
  · intro γ w' K hS _ hK
    obtain ⟨hc, hf⟩ := bcell hS
    have hz := hS.size
    go_simp
    (go_at_call 28; (with_reducible refine (H5.out _ _ w').mono ?_); rintro e w1 ⟨rfl, hb1⟩; exact hK.out _ hb1)
  · intro γ; simp only [Act.put, List.setIfInBounds_toArray, List.set_cons_zero, List.set_cons_succ]; exact rfl
  refine SeqG.nil (hfin.out _ _ ?_)
  clear hfin fin
  intro γ lo hi w1 hB1 hF hD
  replace hF := listF2 hF
  dsimp only at hF
  replace hD := listD2 hD
  dsimp only at hD
  replace hD := hD (by decide)
  obtain ⟨_, ⟨y8, l8, o8, hR⟩⟩ := hF
  have hM := RSetG.made hR
  replace hM := hM.base (show w.heap.size + 3 ≤ lo 21 by omega)
  have kr1 := (hB1.block _ zr).trans kr
  have HB := HBX.trans (hB1.mono HBX.size)
  generalize gA (γ 21) = A7 at *
  generalize γ 21 2 = c7 at *
  clear hR hB1 p_0 p_1 p_2 p_3 p_4 p_5 p_6 p_7 q_0 q_1 q_2 q_3 q_4 q_5 q_6 q_7 fp fq zp zq kp kq kr zr HBX hbX y8 l8 o8
  have r_0 := blk_cell kr1 0
  have r_1 := blk_cell kr1 1
  have r_2 := blk_cell kr1 2
  have r_3 := blk_cell kr1 3
  have r_4 := blk_cell kr1 4
  have r_5 := blk_cell kr1 5
  have r_6 := blk_cell kr1 6
  have r_7 := blk_cell kr1 7
  simp only [List.getElem?_toArray, List.getElem?_cons_zero, List.getElem?_cons_succ] at r_0 r_1 r_2 r_3 r_4 r_5 r_6 r_7
  have fr := blk_free kr1
  have zr := blk_lt kr1
  refine TailL.cons (fun K hK => ?_)
  go_simp
  refine hK.out _ _ ?_
  clear hK K
  refine TailL.nil ?_
  go_wp2
  refine bodyPost_ret (by simp [results, Tryz.results6, go_sem, *] <;> rfl) rfl ⟨⟨A7, c7, rfl, (by (refine MadeV.base (b := w.heap.size + 3) ?_ (by omega)); (repeat refine MadeV.setCell ?_ (by first | omega | (simp; omega)) _); first | exact hM | exact hM.base (by omega))⟩, (by repeat (first | (with_reducible assumption) | (with_reducible exact Below.refl _ _) | (with_reducible refine Below.alloc ?_ (by first | omega | (simp; omega) | (simp; done) | (dsimp only; omega)) _) | (with_reducible refine Below.setCell ?_ (by first | omega | (simp; omega) | (simp; done) | (dsimp only; omega)) _) | (with_reducible refine Below.drew ?_) | (with_reducible refine Below.trans ?_ (Below.mono (by assumption) (by first | omega | (simp; omega) | (simp; done) | (dsimp only; omega))))))⟩
end Go.Proofs.YtdpnphnafidpiaaGreat
