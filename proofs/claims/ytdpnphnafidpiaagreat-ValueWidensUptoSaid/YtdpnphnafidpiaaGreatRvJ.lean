/- The law ValueWidens, walked. -/
import Derived.Test.YtdpnphnafidpiaaGreatRvEF
import Derived.Test.YtdpnphnafidpiaaGreatRvHI
import Derived.Test.YtdpnphnafidpiaaGreatValL
namespace Go.Proofs.YtdpnphnafidpiaaGreat
open Go.RowKit

set_option maxRecDepth 100000 in
set_option maxHeartbeats 8000000 in
theorem law_widens_of (a b : In) (ha : a.ok) (hb : b.ok) (na nb : Bool) (la lb : List Str) (A B : Option Addr) (ca cb : Nat) (L : List Int) (C : Option Addr) (cc : Nat) (w : World) (hm0 : (la.length + lb.length) * 16 ≤ 140737488355328) (hm : (la.length + lb.length + 1) * 16 ≤ 140737488355328)
    (hza : A = none → ca = 0) (hzb : B = none → cb = 0) (hra : SRow w A la) (hrb : SRow w B lb) (hmL : L.length ≤ 9223372036854775807) (hrL : IRow w C L) (R : In) (nn : Bool) (LL : List Str) (hLL : LL.length ≤ 9223372036854775807)
    (hV : ∀ w', Below w.heap.size w w' → Calls Tryz.prog 8 #[.agg #[.bool a.s.s, .int .i64 a.s.lo, .int .i64 a.s.hi, .bool a.c.s, .int .i64 a.c.m, .int .i64 a.c.r, .bool na, .slice A la.length ca], .agg #[.bool b.s.s, .int .i64 b.s.lo, .int .i64 b.s.hi, .bool b.c.s, .int .i64 b.c.m, .int .i64 b.c.r, .bool nb, .slice B lb.length cb]] w' fun e w'' => (∃ A' c', e = .returned (.agg #[.bool R.s.s, .int .i64 R.s.lo, .int .i64 R.s.hi, .bool R.c.s, .int .i64 R.c.m, .int .i64 R.c.r, .bool nn, .slice A' LL.length c']) ∧ MadeV w'.heap.size w'' A' c' LL) ∧ Below w'.heap.size w' w'')
    (hR : ∀ w', Below w.heap.size w w' → Calls Tryz.prog 9 #[.agg #[.bool a.s.s, .int .i64 a.s.lo, .int .i64 a.s.hi, .bool a.c.s, .int .i64 a.c.m, .int .i64 a.c.r, .bool na, .slice A la.length ca], .agg #[.bool b.s.s, .int .i64 b.s.lo, .int .i64 b.s.hi, .bool b.c.s, .int .i64 b.c.m, .int .i64 b.c.r, .bool nb, .slice B lb.length cb]] w' fun e w'' => (∃ A' c', e = .returned (.agg #[.bool R.s.s, .int .i64 R.s.lo, .int .i64 R.s.hi, .bool R.c.s, .int .i64 R.c.m, .int .i64 R.c.r, .bool nn, .slice A' LL.length c']) ∧ MadeV w'.heap.size w'' A' c' LL) ∧ Below w'.heap.size w' w'') :
    Calls Tryz.prog 3 #[.agg #[.bool a.s.s, .int .i64 a.s.lo, .int .i64 a.s.hi, .bool a.c.s, .int .i64 a.c.m, .int .i64 a.c.r, .bool na, .slice A la.length ca], .agg #[.bool b.s.s, .int .i64 b.s.lo, .int .i64 b.s.hi, .bool b.c.s, .int .i64 b.c.m, .int .i64 b.c.r, .bool nb, .slice B lb.length cb], .slice C L.length cc] w fun e w' => e = .returned (.bool true) ∧ Below w.heap.size w w' := by
  have H1 : Hid (∀ w', Below w.heap.size w w' → _) := Lib.hid (fun w' h => value_Widen a b ha hb na nb la lb A B ca cb L C cc w' hm0 hza hzb (hra.mono h) (hrb.mono h) hmL (hrL.mono h))
  have H2 : Hid (∀ w', Below w.heap.size w w' → _) := Lib.hid (fun w' h => r8_Widen a b ha hb na nb la lb A B ca cb L C cc w' hm (hra.mono h) (hrb.mono h) hmL (hrL.mono h))
  have hlj := srt_len_le (la ++ lb)
  rw [List.length_append] at hlj
  have H3 : Hid (∀ w', Below w.heap.size w w' → _) := Lib.hid hV
  have H4 : Hid (∀ w', Below w.heap.size w w' → _) := Lib.hid hR
  have E1 : Hid (∀ A1 A3 c1 c3 w', _) := Lib.hid (fun A1 A3 c1 c3 w' => r8_Exact (a.widen b L) (na || nb) (srt (la ++ lb)) A1 A3 c1 c3 w' (by omega))
  have E2 : Hid (∀ A1 A3 c1 c3 w', _) := Lib.hid (fun A1 A3 c1 c3 w' => r8_Exact R nn LL A1 A3 c1 c3 w' hLL)
  clear hV hR hra hrb hrL hm hm0 hlj hza hzb ha hb
  generalize a.widen b L = u at *
  go_enter Tryz.func3, Tryz.ntmps3
  go_upto_region 1 with fail
  generalize hW : ((w.alloc (.cells #[.bool a.s.s, .int .i64 a.s.lo, .int .i64 a.s.hi, .bool a.c.s, .int .i64 a.c.m, .int .i64 a.c.r, .bool na, .slice A la.length ca] 30)).alloc (.cells #[.bool b.s.s, .int .i64 b.s.lo, .int .i64 b.s.hi, .bool b.c.s, .int .i64 b.c.m, .int .i64 b.c.r, .bool nb, .slice B lb.length cb] 30)) = W
  have q0_0 : W.cell? ⟨w.heap.size, 0, none⟩ = some (.bool a.s.s) := by rw [← hW]; simp [go_sem]
  have q0_1 : W.cell? ⟨w.heap.size, 1, none⟩ = some (.int .i64 a.s.lo) := by rw [← hW]; simp [go_sem]
  have q0_2 : W.cell? ⟨w.heap.size, 2, none⟩ = some (.int .i64 a.s.hi) := by rw [← hW]; simp [go_sem]
  have q0_3 : W.cell? ⟨w.heap.size, 3, none⟩ = some (.bool a.c.s) := by rw [← hW]; simp [go_sem]
  have q0_4 : W.cell? ⟨w.heap.size, 4, none⟩ = some (.int .i64 a.c.m) := by rw [← hW]; simp [go_sem]
  have q0_5 : W.cell? ⟨w.heap.size, 5, none⟩ = some (.int .i64 a.c.r) := by rw [← hW]; simp [go_sem]
  have q0_6 : W.cell? ⟨w.heap.size, 6, none⟩ = some (.bool na) := by rw [← hW]; simp [go_sem]
  have q0_7 : W.cell? ⟨w.heap.size, 7, none⟩ = some (.slice A la.length ca) := by rw [← hW]; simp [go_sem]
  have q1_0 : W.cell? ⟨w.heap.size + 1, 0, none⟩ = some (.bool b.s.s) := by rw [← hW]; simp [go_sem]
  have q1_1 : W.cell? ⟨w.heap.size + 1, 1, none⟩ = some (.int .i64 b.s.lo) := by rw [← hW]; simp [go_sem]
  have q1_2 : W.cell? ⟨w.heap.size + 1, 2, none⟩ = some (.int .i64 b.s.hi) := by rw [← hW]; simp [go_sem]
  have q1_3 : W.cell? ⟨w.heap.size + 1, 3, none⟩ = some (.bool b.c.s) := by rw [← hW]; simp [go_sem]
  have q1_4 : W.cell? ⟨w.heap.size + 1, 4, none⟩ = some (.int .i64 b.c.m) := by rw [← hW]; simp [go_sem]
  have q1_5 : W.cell? ⟨w.heap.size + 1, 5, none⟩ = some (.int .i64 b.c.r) := by rw [← hW]; simp [go_sem]
  have q1_6 : W.cell? ⟨w.heap.size + 1, 6, none⟩ = some (.bool nb) := by rw [← hW]; simp [go_sem]
  have q1_7 : W.cell? ⟨w.heap.size + 1, 7, none⟩ = some (.slice B lb.length cb) := by rw [← hW]; simp [go_sem]
  have z0 : w.heap.size < W.heap.size := by rw [← hW]; first | (simp; done) | (simp; omega)
  have z1 : w.heap.size + 1 < W.heap.size := by rw [← hW]; first | (simp; done) | (simp; omega)
  have HW : Below w.heap.size w W := by rw [← hW]; exact (by repeat (first | (with_reducible assumption) | (with_reducible exact Below.refl _ _) | (with_reducible refine Below.alloc ?_ (by first | omega | (simp; omega) | (simp; done) | (dsimp only; omega)) _) | (with_reducible refine Below.setCell ?_ (by first | omega | (simp; omega) | (simp; done) | (dsimp only; omega)) _) | (with_reducible refine Below.drew ?_) | (with_reducible refine Below.trans ?_ (Below.mono (by assumption) (by first | omega | (simp; omega) | (simp; done) | (dsimp only; omega))))))
  clear hW
  refine region_seqg (W := W) [_, _, _, _, _, _, _, _, _, _, _, _, _, _, _, _, _, _, _, _, _, _] [] rfl (by kernel_rfl) (by kernel_rfl) (by repeat (first | (with_reducible assumption) | (with_reducible exact Below.refl _ _) | (with_reducible refine Below.alloc ?_ (by first | omega | (simp; omega) | (simp; done) | (dsimp only; omega)) _) | (with_reducible refine Below.setCell ?_ (by first | omega | (simp; omega) | (simp; done) | (dsimp only; omega)) _) | (with_reducible refine Below.drew ?_) | (with_reducible refine Below.trans ?_ (Below.mono (by assumption) (by first | omega | (simp; omega) | (simp; done) | (dsimp only; omega)))))) (fun fin hfin => ?_)
  iterate 3
    first
      | (refine SeqG.yes (v := ?_) (A' := ?_) rfl (fun γ => by rfl) ?_ ?_ ?_
         rotate_left 2
         · intro γ w' K hS hK
           obtain ⟨hc, hf⟩ := bcell hS
           have hz := hS.size
           go_simp
           first
             | exact hK.out _ (Below.refl _ _)
             | (go_at_call 10; (with_reducible refine (law08_lives w').mono ?_); rintro e w1 ⟨rfl, hb1⟩; exact hK.out _ hb1)
             | trace_state
         · intro γ; simp only [Act.put, List.setIfInBounds_toArray, List.set_cons_zero, List.set_cons_succ]; exact rfl)
      | (refine SeqG.no (A' := ?_) rfl (fun γ => by rfl) ?_ ?_
         rotate_left
         · intro γ; simp only [Act.put, List.setIfInBounds_toArray, List.set_cons_zero, List.set_cons_succ]; exact rfl)
  refine SeqG.make (k := 3) (A' := ?_) (fun g => .agg #[.bool u.s.s, .int .i64 u.s.lo, .int .i64 u.s.hi, .bool u.c.s, .int .i64 u.c.m, .int .i64 u.c.r, .bool (na || nb), .slice (gA g) (srt (la ++ lb)).length (g 2)]) (RSetG (srt (la ++ lb))) rfl (fun γ => by rfl) (RSetG.stable _) ?_ ?_ ?_
  rotate_left
  · intro γ w' K hS hF hK
    obtain ⟨hc, hf⟩ := bcell hS
    have hz := hS.size
    go_simp
    (go_at_call 6; refine (H1.out w' (HW.trans (hS.mono HW.size))).mono ?_; rintro e w1 ⟨⟨A1, c1, rfl, hmade⟩, hb1⟩; obtain ⟨g, rfl, rfl, hg⟩ := MadeV.ghost hmade (by omega) (lo := w'.heap.size); exact hK.out g w1 hb1 hg)
  · intro γ; simp only [Act.put, List.setIfInBounds_toArray, List.set_cons_zero, List.set_cons_succ]; exact rfl
  iterate 3
    first
      | (refine SeqG.yes (v := ?_) (A' := ?_) rfl (fun γ => by rfl) ?_ ?_ ?_
         rotate_left 2
         · intro γ w' K hS hK
           obtain ⟨hc, hf⟩ := bcell hS
           have hz := hS.size
           go_simp
           first
             | exact hK.out _ (Below.refl _ _)
             | (go_at_call 10; (with_reducible refine (law08_lives w').mono ?_); rintro e w1 ⟨rfl, hb1⟩; exact hK.out _ hb1)
             | trace_state
         · intro γ; simp only [Act.put, List.setIfInBounds_toArray, List.set_cons_zero, List.set_cons_succ]; exact rfl)
      | (refine SeqG.no (A' := ?_) rfl (fun γ => by rfl) ?_ ?_
         rotate_left
         · intro γ; simp only [Act.put, List.setIfInBounds_toArray, List.set_cons_zero, List.set_cons_succ]; exact rfl)
  refine SeqG.make (k := 7) (A' := ?_) (fun g => .agg #[.bool u.s.s, .int .i64 u.s.lo, .int .i64 u.s.hi, .bool u.c.s, .int .i64 u.c.m, .int .i64 u.c.r, .bool (na || nb), .slice (gA g) (srt (la ++ lb)).length (g 2)]) (RSetG (srt (la ++ lb))) rfl (fun γ => by rfl) (RSetG.stable _) ?_ ?_ ?_
  rotate_left
  · intro γ w' K hS hF hK
    obtain ⟨hc, hf⟩ := bcell hS
    have hz := hS.size
    go_simp
    (go_at_call 7; refine (H2.out w' (HW.trans (hS.mono HW.size))).mono ?_; rintro e w1 ⟨⟨A1, c1, rfl, hmade⟩, hb1⟩; obtain ⟨g, rfl, rfl, hg⟩ := MadeV.ghost hmade (by omega) (lo := w'.heap.size); exact hK.out g w1 hb1 hg)
  · intro γ; simp only [Act.put, List.setIfInBounds_toArray, List.set_cons_zero, List.set_cons_succ]; exact rfl
  refine SeqG.make (k := 8) (A' := ?_) (fun _ => .bool true) (fun _ _ _ _ => True) rfl (fun γ => by rfl) (Stable.true) ?_ ?_ ?_
  rotate_left
  · intro γ w' K hS hF hK
    obtain ⟨hc, hf⟩ := bcell hS
    have hz := hS.size
    obtain ⟨_, _, _, _, r3, m3, t3, n3, _⟩ := hF (3, RSetG (srt (la ++ lb))) (by simp) (reachL_spec (of_decide_eq_true (by kernel_rfl)))
    obtain ⟨_, _, _, _, r7, m7, t7, n7, _⟩ := hF (7, RSetG (srt (la ++ lb))) (by simp) (reachL_spec (of_decide_eq_true (by kernel_rfl)))
    go_simp
    (go_at_call 5; refine (E1.out _ _ _ _ w' r3 r7).mono ?_; rintro e w1 ⟨rfl, hb1⟩; exact hK.out (fun _ => 0) w1 hb1 trivial)
  · intro γ; simp only [Act.put, List.setIfInBounds_toArray, List.set_cons_zero, List.set_cons_succ]; exact rfl
  iterate 3
    first
      | (refine SeqG.yes (v := ?_) (A' := ?_) rfl (fun γ => by rfl) ?_ ?_ ?_
         rotate_left 2
         · intro γ w' K hS hK
           obtain ⟨hc, hf⟩ := bcell hS
           have hz := hS.size
           go_simp
           first
             | exact hK.out _ (Below.refl _ _)
             | (go_at_call 10; (with_reducible refine (law08_lives w').mono ?_); rintro e w1 ⟨rfl, hb1⟩; exact hK.out _ hb1)
             | trace_state
         · intro γ; simp only [Act.put, List.setIfInBounds_toArray, List.set_cons_zero, List.set_cons_succ]; exact rfl)
      | (refine SeqG.no (A' := ?_) rfl (fun γ => by rfl) ?_ ?_
         rotate_left
         · intro γ; simp only [Act.put, List.setIfInBounds_toArray, List.set_cons_zero, List.set_cons_succ]; exact rfl)
  refine SeqG.make (k := 12) (A' := ?_) (fun g => .agg #[.bool R.s.s, .int .i64 R.s.lo, .int .i64 R.s.hi, .bool R.c.s, .int .i64 R.c.m, .int .i64 R.c.r, .bool nn, .slice (gA g) LL.length (g 2)]) (RSetG (LL)) rfl (fun γ => by rfl) (RSetG.stable _) ?_ ?_ ?_
  rotate_left
  · intro γ w' K hS hF hK
    obtain ⟨hc, hf⟩ := bcell hS
    have hz := hS.size
    go_simp
    (go_at_call 8; refine (H3.out w' (HW.trans (hS.mono HW.size))).mono ?_; rintro e w1 ⟨⟨A1, c1, rfl, hmade⟩, hb1⟩; obtain ⟨g, rfl, rfl, hg⟩ := MadeV.ghost hmade (by omega) (lo := w'.heap.size); exact hK.out g w1 hb1 hg)
  · intro γ; simp only [Act.put, List.setIfInBounds_toArray, List.set_cons_zero, List.set_cons_succ]; exact rfl
  iterate 2
    first
      | (refine SeqG.yes (v := ?_) (A' := ?_) rfl (fun γ => by rfl) ?_ ?_ ?_
         rotate_left 2
         · intro γ w' K hS hK
           obtain ⟨hc, hf⟩ := bcell hS
           have hz := hS.size
           go_simp
           first
             | exact hK.out _ (Below.refl _ _)
             | (go_at_call 10; (with_reducible refine (law08_lives w').mono ?_); rintro e w1 ⟨rfl, hb1⟩; exact hK.out _ hb1)
             | trace_state
         · intro γ; simp only [Act.put, List.setIfInBounds_toArray, List.set_cons_zero, List.set_cons_succ]; exact rfl)
      | (refine SeqG.no (A' := ?_) rfl (fun γ => by rfl) ?_ ?_
         rotate_left
         · intro γ; simp only [Act.put, List.setIfInBounds_toArray, List.set_cons_zero, List.set_cons_succ]; exact rfl)
  refine SeqG.make (k := 15) (A' := ?_) (fun g => .agg #[.bool R.s.s, .int .i64 R.s.lo, .int .i64 R.s.hi, .bool R.c.s, .int .i64 R.c.m, .int .i64 R.c.r, .bool nn, .slice (gA g) LL.length (g 2)]) (RSetG (LL)) rfl (fun γ => by rfl) (RSetG.stable _) ?_ ?_ ?_
  rotate_left
  · intro γ w' K hS hF hK
    obtain ⟨hc, hf⟩ := bcell hS
    have hz := hS.size
    go_simp
    (go_at_call 9; refine (H4.out w' (HW.trans (hS.mono HW.size))).mono ?_; rintro e w1 ⟨⟨A1, c1, rfl, hmade⟩, hb1⟩; obtain ⟨g, rfl, rfl, hg⟩ := MadeV.ghost hmade (by omega) (lo := w'.heap.size); exact hK.out g w1 hb1 hg)
  · intro γ; simp only [Act.put, List.setIfInBounds_toArray, List.set_cons_zero, List.set_cons_succ]; exact rfl
  refine SeqG.make (k := 16) (A' := ?_) (fun _ => .bool true) (fun _ _ _ _ => True) rfl (fun γ => by rfl) (Stable.true) ?_ ?_ ?_
  rotate_left
  · intro γ w' K hS hF hK
    obtain ⟨hc, hf⟩ := bcell hS
    have hz := hS.size
    obtain ⟨_, _, _, _, r12, m12, t12, n12, _⟩ := hF (12, RSetG (LL)) (by simp) (reachL_spec (of_decide_eq_true (by kernel_rfl)))
    obtain ⟨_, _, _, _, r15, m15, t15, n15, _⟩ := hF (15, RSetG (LL)) (by simp) (reachL_spec (of_decide_eq_true (by kernel_rfl)))
    go_simp
    (go_at_call 5; refine (E2.out _ _ _ _ w' r12 r15).mono ?_; rintro e w1 ⟨rfl, hb1⟩; exact hK.out (fun _ => 0) w1 hb1 trivial)
  · intro γ; simp only [Act.put, List.setIfInBounds_toArray, List.set_cons_zero, List.set_cons_succ]; exact rfl
  iterate 5
    first
      | (refine SeqG.yes (v := ?_) (A' := ?_) rfl (fun γ => by rfl) ?_ ?_ ?_
         rotate_left 2
         · intro γ w' K hS hK
           obtain ⟨hc, hf⟩ := bcell hS
           have hz := hS.size
           go_simp
           first
             | exact hK.out _ (Below.refl _ _)
             | (go_at_call 10; (with_reducible refine (law08_lives w').mono ?_); rintro e w1 ⟨rfl, hb1⟩; exact hK.out _ hb1)
             | trace_state
         · intro γ; simp only [Act.put, List.setIfInBounds_toArray, List.set_cons_zero, List.set_cons_succ]; exact rfl)
      | (refine SeqG.no (A' := ?_) rfl (fun γ => by rfl) ?_ ?_
         rotate_left
         · intro γ; simp only [Act.put, List.setIfInBounds_toArray, List.set_cons_zero, List.set_cons_succ]; exact rfl)
  refine SeqG.nil (hfin.out _ _ ?_)
  clear hfin fin
  intro γ lo hi w1 hB1 hF hD
  clear hF hD
  refine TailL.nil ?_
  go_wp2
  go_ret
  exact ⟨rfl, HW.trans (hB1.mono HW.size)⟩

theorem law_valueWidens (a b : In) (ha : a.ok) (hb : b.ok) (na nb : Bool) (la lb : List Str) (A B : Option Addr) (ca cb : Nat) (L : List Int) (C : Option Addr) (cc : Nat) (w : World) (hm : la.length + lb.length ≤ 1048576)
    (hza : A = none → ca = 0) (hzb : B = none → cb = 0) (hra : SRow w A la) (hrb : SRow w B lb) (hmL : L.length ≤ 9223372036854775807) (hrL : IRow w C L) :
    Calls Tryz.prog 3 #[.agg #[.bool a.s.s, .int .i64 a.s.lo, .int .i64 a.s.hi, .bool a.c.s, .int .i64 a.c.m, .int .i64 a.c.r, .bool na, .slice A la.length ca], .agg #[.bool b.s.s, .int .i64 b.s.lo, .int .i64 b.s.hi, .bool b.c.s, .int .i64 b.c.m, .int .i64 b.c.r, .bool nb, .slice B lb.length cb], .slice C L.length cc] w fun e w' => e = .returned (.bool true) ∧ Below w.heap.size w w' := by
  have m0 : (la.length + lb.length) * 16 ≤ 140737488355328 := Nat.le_trans (Nat.mul_le_mul_right 16 hm) (by decide)
  have m1 : (la.length + lb.length + 1) * 16 ≤ 140737488355328 := Nat.le_trans (Nat.mul_le_mul_right 16 (Nat.succ_le_succ hm)) (by decide)
  have ma : la.length * 16 ≤ 140737488355328 := Nat.le_trans (Nat.mul_le_mul_right 16 (show la.length ≤ 1048576 by omega)) (by decide)
  have mb : lb.length * 16 ≤ 140737488355328 := Nat.le_trans (Nat.mul_le_mul_right 16 (show lb.length ≤ 1048576 by omega)) (by decide)
  have ma1 := (bd1 m1).1
  have mb1 := (bd1 m1).2
  have hsl := srt_len_le la
  cases hp : (b.leq a && leqS nb lb na la)
  · exact law_widens_of a b ha hb na nb la lb A B ca cb L C cc w m0 m1 hza hzb hra hrb hmL hrL a.clean na (srt la) (by omega)
      (fun w' h => value_Narrow_1 a b ha hb na nb la lb A B ca cb w' ma mb hza hzb (hra.mono h) (hrb.mono h) hp) (fun w' h => r8_Narrow_1 a b ha hb na nb la lb A B ca cb w' ma1 mb1 (hra.mono h) (hrb.mono h) hp)
  · cases hq : nonV b.clean nb lb
    · cases hall : a.clean.isAll
      · exact law_widens_of a b ha hb na nb la lb A B ca cb L C cc w m0 m1 hza hzb hra hrb hmL hrL (In.narrowC a.clean b.clean) na (srt la) (by omega)
          (fun w' h => value_Narrow_3f a b ha hb na nb la lb A B ca cb w' ma mb hza hzb (hra.mono h) (hrb.mono h) hp hq hall) (fun w' h => r8_Narrow_3f a b ha hb na nb la lb A B ca cb w' ma1 mb1 (hra.mono h) (hrb.mono h) hp hq hall)
      · exact law_widens_of a b ha hb na nb la lb A B ca cb L C cc w m0 m1 hza hzb hra hrb hmL hrL (In.narrowC a.clean b.clean) na (srt la) (by omega)
          (fun w' h => value_Narrow_3t a b ha hb na nb la lb A B ca cb w' ma mb hza hzb (hra.mono h) (hrb.mono h) hp hq hall) (fun w' h => r8_Narrow_3t a b ha hb na nb la lb A B ca cb w' ma1 mb1 (hra.mono h) (hrb.mono h) hp hq hall)
    · exact law_widens_of a b ha hb na nb la lb A B ca cb L C cc w m0 m1 hza hzb hra hrb hmL hrL In.zero false [] (by simp)
        (fun w' h => value_Narrow_2 a b ha hb na nb la lb A B ca cb w' ma mb hza hzb (hra.mono h) (hrb.mono h) hp hq) (fun w' h => r8_Narrow_2 a b ha hb na nb la lb A B ca cb w' ma1 mb1 (hra.mono h) (hrb.mono h) hp hq)
end Go.Proofs.YtdpnphnafidpiaaGreat
