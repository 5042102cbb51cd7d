/- The law NamesSets, walked. -/
import Derived.Test.YtnbpdkcnldeljaaNamP
namespace Go.Proofs.Ytnbpdkcnldeljaa
open Go.RowKit

theorem none_len (n : Bool) (l : List Str) : (lenS n l == 0) = (!n && l.length == 0) := by
  have h : (srt l).length = 0 ↔ l.length = 0 := by
    constructor
    · intro h
      have e : srt l = [] := List.eq_nil_of_length_eq_zero h
      cases l with
      | nil => rfl
      | cons x l => have := (mem_srt (x :: l) x).2 List.mem_cons_self; rw [e] at this; simp at this
    · intro h
      have e : l = [] := List.eq_nil_of_length_eq_zero h
      subst e; rfl
  rw [Bool.eq_iff_iff]
  unfold lenS
  cases n
  · simp only [beq_iff_eq, Bool.not_false, Bool.true_and]
    have e : (if false = true then (1 : Int) else 0) = 0 := rfl
    rw [e]
    omega
  · simp only [Bool.not_true, Bool.false_and]
    constructor
    · intro h
      have h := beq_iff_eq.1 h
      rw [if_pos trivial] at h
      omega
    · intro h; cases h
theorem leq_iff (na nb : Bool) (la lb : List Str) : leqS na la nb lb = true ↔ (∀ x, x ∈ la → x ∈ lb) ∧ (na = true → nb = true) := by
  unfold leqS
  rw [Bool.and_eq_true, allIn_iff]
  cases na <;> cases nb <;> simp
theorem same_exact (na nb : Bool) (la lb : List Str) : (leqS na la nb lb && leqS nb lb na la) = (na == nb && srt la == srt lb) := by
  rw [Bool.eq_iff_iff, Bool.and_eq_true, leq_iff, leq_iff, Bool.and_eq_true, beq_iff_eq, beq_iff_eq]
  constructor
  · rintro ⟨⟨h1, h2⟩, h3, h4⟩
    refine ⟨by cases na <;> cases nb <;> simp_all, srt_of (strict_srt lb) (fun y => ?_)⟩
    rw [mem_srt]
    exact ⟨h3 y, h1 y⟩
  · rintro ⟨h1, h2⟩
    subst h1
    have h : ∀ y, y ∈ la ↔ y ∈ lb := fun y => by rw [← mem_srt la, h2, mem_srt]
    exact ⟨⟨fun x hx => (h x).1 hx, fun h => h⟩, fun x hx => (h x).2 hx, fun h => h⟩

theorem lenS_lives : lenS true (srt ([[97]] ++ srt [[98]])) = 3 := by kernel_rfl
theorem lenS_srt (n : Bool) (l : List Str) : lenS n (srt l) = lenS n l := by
  unfold lenS
  rw [srt_of (strict_srt l) (fun y => Iff.rfl)]

set_option maxHeartbeats 2000000 in
theorem law07_lives (w : World) : Calls Try.prog 23 #[] w fun e w' => e = .returned (.bool true) ∧ Below w.heap.size w w' := by
  go_enter Try.func23, Try.ntmps23
  go_wp2_with fail
  go_at_call 22
  generalize hW : (w.alloc (.cells #[encStr [97]] 9)).alloc (.cells #[encStr [98]] 9) = W at *
  have hr1 : SRow W (some ⟨w.heap.size, 0, none⟩) [[97]] := by
    intro i hi
    have : i = 0 := by simp at hi; omega
    subst this
    rw [← hW]
    simp [Addr.add, go_sem]
  have hr2 : SRow W (some ⟨w.heap.size + 1, 0, none⟩) [[98]] := by
    intro i hi
    have : i = 0 := by simp at hi; omega
    subst this
    rw [← hW]
    simp [Addr.add, go_sem]
  have HW : Below w.heap.size w W := by rw [← hW]; exact (by repeat (first | (with_reducible assumption) | (with_reducible exact Below.refl _ _) | (with_reducible refine Below.alloc ?_ (by first | omega | (simp; omega) | (simp; done) | (dsimp only; omega)) _) | (with_reducible refine Below.setCell ?_ (by first | omega | (simp; omega) | (simp; done) | (dsimp only; omega)) _) | (with_reducible refine Below.drew ?_) | (with_reducible refine Below.trans ?_ (Below.mono (by assumption) (by first | omega | (simp; omega) | (simp; done) | (dsimp only; omega))))))
  clear hW
  refine (names_Of false [[98]] (some ⟨w.heap.size + 1, 0, none⟩) 1 W (by decide) (fun e => by cases e) hr2).mono ?_
  rintro e x1 ⟨⟨v1, rfl, A1, c1, rfl, i1, j1, r1, n1, s1⟩, hb1⟩
  have H1 := HW.trans (hb1.mono HW.size)
  go_wp2_with fail
  go_at_call 13
  refine (names_Join true false [[97]] (srt [[98]]) (some ⟨w.heap.size, 0, none⟩) A1 1 c1 x1 (by decide) (fun e => by cases e) n1 (hr1.mono hb1) r1).mono ?_
  rintro e x2 ⟨⟨v2, rfl, A2, c2, rfl, i2, j2, r2, n2, s2⟩, hb2⟩
  have H2 := H1.trans (hb2.mono H1.size)
  go_wp2_with fail
  go_at_call 11
  have h3 := names_Len (true || false) (srt ([[97]] ++ srt [[98]])) A2 c2 x2 (by decide) n2 r2
  rw [show (true || false) = true from rfl, lenS_lives] at h3
  refine h3.mono ?_
  rintro e x3 ⟨rfl, hb3⟩
  go_wp2
  go_ret
  exact ⟨rfl, H2.trans (hb3.mono H2.size)⟩

theorem exact_refl (n : Bool) (l : List Str) (A B : Option Addr) (ca cb : Nat) (w : World) (hm : l.length ≤ 9223372036854775807) (hra : SRow w A l) (hrb : SRow w B l) :
    Calls Try.prog 12 #[.agg #[.bool n, .slice A l.length ca], .agg #[.bool n, .slice B l.length cb]] w fun e w' => e = .returned (.bool true) ∧ Below w.heap.size w w' := by
  have h := r7_Exact n n l l A B ca cb w hm hm hra hrb
  rw [show (n == n && l == l) = true by simp] at h
  exact h

set_option maxRecDepth 100000 in
set_option maxHeartbeats 8000000 in
theorem law_namesSets (na nb : Bool) (la lb : List Str) (A B : Option Addr) (ca cb : Nat) (x : Str) (w : World) (hm : (la.length + lb.length + 1) * 16 ≤ 140737488355328) (hza : A = none → ca = 0) (hzb : B = none → cb = 0) (hra : SRow w A la) (hrb : SRow w B lb) :
    Calls Try.prog 3 #[.agg #[.bool na, .slice A la.length ca], .agg #[.bool nb, .slice B lb.length cb], encStr x] w fun e w' => e = .returned (.bool true) ∧ Below w.heap.size w w' := by
  have hsa := srt_len_le la
  have hsb := srt_len_le lb
  have hsj := srt_len_le (la ++ lb)
  have hsm := srt_len_le (meetL la lb)
  have hml := meetL_len la lb
  rw [List.length_append] at hsj
  have kN := none_len na la
  have kS := same_exact na nb la lb
  go_enter Try.func3, Try.ntmps3
  go_upto_region 1 with fail
  generalize hW : ((w.alloc (.cells #[.bool na, .slice A la.length ca] 24)).alloc (.cells #[.bool nb, .slice B lb.length cb] 24)) = W
  have q0_0 : W.cell? ⟨w.heap.size, 0, none⟩ = some (.bool na) := by rw [← hW]; simp [go_sem]
  have q0_1 : W.cell? ⟨w.heap.size, 1, none⟩ = some (.slice A la.length ca) := by rw [← hW]; simp [go_sem]
  have q1_0 : W.cell? ⟨w.heap.size + 1, 0, none⟩ = some (.bool nb) := by rw [← hW]; simp [go_sem]
  have q1_1 : W.cell? ⟨w.heap.size + 1, 1, none⟩ = some (.slice B lb.length cb) := by rw [← hW]; simp [go_sem]
  have z0 : w.heap.size < W.heap.size := by rw [← hW]; first | (simp; done) | (simp; omega)
  have z1 : w.heap.size + 1 < W.heap.size := by rw [← hW]; first | (simp; done) | (simp; omega)
  have HW : Below w.heap.size w W := by rw [← hW]; exact (by repeat (first | (with_reducible assumption) | (with_reducible exact Below.refl _ _) | (with_reducible refine Below.alloc ?_ (by first | omega | (simp; omega) | (simp; done) | (dsimp only; omega)) _) | (with_reducible refine Below.setCell ?_ (by first | omega | (simp; omega) | (simp; done) | (dsimp only; omega)) _) | (with_reducible refine Below.drew ?_) | (with_reducible refine Below.trans ?_ (Below.mono (by assumption) (by first | omega | (simp; omega) | (simp; done) | (dsimp only; omega))))))
  clear hW
  have hraW := hra.mono HW
  have hrbW := hrb.mono HW
  have K1 : Hid (∀ w', Below W.heap.size W w' → _) := Lib.hid (fun w' h => names_Has na la A ca x w' (by omega) (hraW.mono h))
  have K2 : Hid (∀ w', Below W.heap.size W w' → _) := Lib.hid (fun w' h => r7_Has na la A ca x w' (by omega) (hraW.mono h))
  have K3 := Lib.hid (fun w' => names_None na la A ca w' (by omega))
  have K4 : Hid (∀ w', Below W.heap.size W w' → _) := Lib.hid (fun w' h => r7_Len na la A ca w' (by omega) (hraW.mono h))
  have K5 : Hid (∀ w', Below W.heap.size W w' → _) := Lib.hid (fun w' h => names_Len na la A ca w' (by omega) hza (hraW.mono h))
  have K13 : Hid (∀ w', Below W.heap.size W w' → _) := Lib.hid (fun w' h => names_Leq na nb la lb A B ca cb w' (by omega) (by omega) (hraW.mono h) (hrbW.mono h))
  have K14 : Hid (∀ w', Below W.heap.size W w' → _) := Lib.hid (fun w' h => r7_Leq na nb la lb A B ca cb w' (by omega) (by omega) (hraW.mono h) (hrbW.mono h))
  have K15 : Hid (∀ w', Below W.heap.size W w' → _) := Lib.hid (fun w' h => names_Same na nb la lb A B ca cb w' (by omega) (by omega) (hraW.mono h) (hrbW.mono h))
  have KE := Lib.hid (fun w' (a b : Option Addr) (c d : Nat) ha hb => r7_Exact na nb (srt la) (srt lb) a b c d w' (by omega) (by omega) ha hb)
  rw [← kN] at K3
  rw [kS] at K15
  generalize (if x == [] then na else hasL la x) = has at K1 K2
  generalize lenS na la = len at K3 K4 K5
  generalize leqS na la nb lb = leq at K13 K14
  generalize (na == nb && srt la == srt lb) = sm at K15 KE
  clear kN kS
  refine region_seqg (W := W) [_, _, _, _, _, _, _, _, _, _, _, _, _, _, _, _, _, _, _, _, _, _, _, _, _, _, _, _, _, _, _, _, _, _, _, _, _, _, _, _, _, _, _, _, _, _, _, _, _, _, _, _, _, _, _, _, _, _, _, _, _, _, _, _, _, _, _, _, _, _, _, _, _, _, _, _, _, _, _, _, _] [] rfl (by kernel_rfl) (by kernel_rfl) (by repeat (first | (with_reducible assumption) | (with_reducible exact Below.refl _ _) | (with_reducible refine Below.alloc ?_ (by first | omega | (simp; omega) | (simp; done) | (dsimp only; omega)) _) | (with_reducible refine Below.setCell ?_ (by first | omega | (simp; omega) | (simp; done) | (dsimp only; omega)) _) | (with_reducible refine Below.drew ?_) | (with_reducible refine Below.trans ?_ (Below.mono (by assumption) (by first | omega | (simp; omega) | (simp; done) | (dsimp only; omega)))))) (fun fin hfin => ?_)
  iterate 25
    first
      | (refine SeqG.yes (v := ?_) (A' := ?_) rfl (fun γ => by rfl) ?_ ?_ ?_
         rotate_left 2
         · intro γ w' K hS hK
           obtain ⟨hc, hf⟩ := bcell hS
           have hz := hS.size
           go_simp
           first
             | exact hK.out _ (Below.refl _ _)
             | (go_at_call 7; (with_reducible refine (K1.out w' hS).mono ?_); rintro e w1 ⟨rfl, hb1⟩; exact hK.out _ hb1)
             | (go_at_call 8; (with_reducible refine (K2.out w' hS).mono ?_); rintro e w1 ⟨rfl, hb1⟩; exact hK.out _ hb1)
             | (go_at_call 9; (with_reducible refine (K3.out w').mono ?_); rintro e w1 ⟨rfl, hb1⟩; exact hK.out _ hb1)
             | (go_at_call 10; (with_reducible refine (K4.out w' hS).mono ?_); rintro e w1 ⟨rfl, hb1⟩; exact hK.out _ hb1)
             | (go_at_call 11; (with_reducible refine (K5.out w' hS).mono ?_); rintro e w1 ⟨rfl, hb1⟩; exact hK.out _ hb1)
             | (go_at_call 17; (with_reducible refine (K13.out w' hS).mono ?_); rintro e w1 ⟨rfl, hb1⟩; exact hK.out _ hb1)
             | (go_at_call 18; (with_reducible refine (K14.out w' hS).mono ?_); rintro e w1 ⟨rfl, hb1⟩; exact hK.out _ hb1)
             | (go_at_call 19; (with_reducible refine (K15.out w' hS).mono ?_); rintro e w1 ⟨rfl, hb1⟩; exact hK.out _ hb1)
             | (go_at_call 23; (with_reducible refine (law07_lives w').mono ?_); rintro e w1 ⟨rfl, hb1⟩; exact hK.out _ hb1)
             | trace_state
         · intro γ; simp only [Act.put, List.setIfInBounds_toArray, List.set_cons_zero, List.set_cons_succ]; exact rfl)
      | (refine SeqG.no (A' := ?_) rfl (fun γ => by rfl) ?_ ?_
         rotate_left
         · intro γ; simp only [Act.put, List.setIfInBounds_toArray, List.set_cons_zero, List.set_cons_succ]; exact rfl)
  refine SeqG.make (k := 25) (A' := ?_) (fun g => .agg #[.bool (na || nb), .slice (gA g) (srt (la ++ lb)).length (g 2)]) (RSetG (srt (la ++ lb))) rfl (fun γ => by rfl) (RSetG.stable _) ?_ ?_ ?_
  rotate_left
  · intro γ w' K hS hF hK
    obtain ⟨hc, hf⟩ := bcell hS
    have hz := hS.size
    go_simp
    (go_at_call 13; refine (names_Join na nb la lb A B ca cb w' (by omega) hza hzb (hraW.mono hS) (hrbW.mono hS)).mono ?_; rintro e w1 ⟨⟨v, rfl, hset⟩, hb1⟩; obtain ⟨g, rfl, hg⟩ := SetV.ghost hset (by omega) (lo := w'.heap.size); exact hK.out g w1 hb1 hg)
  · intro γ; simp only [Act.put, List.setIfInBounds_toArray, List.set_cons_zero, List.set_cons_succ]; exact rfl
  iterate 2
    first
      | (refine SeqG.yes (v := ?_) (A' := ?_) rfl (fun γ => by rfl) ?_ ?_ ?_
         rotate_left 2
         · intro γ w' K hS hK
           obtain ⟨hc, hf⟩ := bcell hS
           have hz := hS.size
           go_simp
           first
             | exact hK.out _ (Below.refl _ _)
             | (go_at_call 7; (with_reducible refine (K1.out w' hS).mono ?_); rintro e w1 ⟨rfl, hb1⟩; exact hK.out _ hb1)
             | (go_at_call 8; (with_reducible refine (K2.out w' hS).mono ?_); rintro e w1 ⟨rfl, hb1⟩; exact hK.out _ hb1)
             | (go_at_call 9; (with_reducible refine (K3.out w').mono ?_); rintro e w1 ⟨rfl, hb1⟩; exact hK.out _ hb1)
             | (go_at_call 10; (with_reducible refine (K4.out w' hS).mono ?_); rintro e w1 ⟨rfl, hb1⟩; exact hK.out _ hb1)
             | (go_at_call 11; (with_reducible refine (K5.out w' hS).mono ?_); rintro e w1 ⟨rfl, hb1⟩; exact hK.out _ hb1)
             | (go_at_call 17; (with_reducible refine (K13.out w' hS).mono ?_); rintro e w1 ⟨rfl, hb1⟩; exact hK.out _ hb1)
             | (go_at_call 18; (with_reducible refine (K14.out w' hS).mono ?_); rintro e w1 ⟨rfl, hb1⟩; exact hK.out _ hb1)
             | (go_at_call 19; (with_reducible refine (K15.out w' hS).mono ?_); rintro e w1 ⟨rfl, hb1⟩; exact hK.out _ hb1)
             | (go_at_call 23; (with_reducible refine (law07_lives w').mono ?_); rintro e w1 ⟨rfl, hb1⟩; exact hK.out _ hb1)
             | trace_state
         · intro γ; simp only [Act.put, List.setIfInBounds_toArray, List.set_cons_zero, List.set_cons_succ]; exact rfl)
      | (refine SeqG.no (A' := ?_) rfl (fun γ => by rfl) ?_ ?_
         rotate_left
         · intro γ; simp only [Act.put, List.setIfInBounds_toArray, List.set_cons_zero, List.set_cons_succ]; exact rfl)
  refine SeqG.make (k := 28) (A' := ?_) (fun g => .agg #[.bool (na || nb), .slice (gA g) (srt (la ++ lb)).length (g 2)]) (RSetG (srt (la ++ lb))) rfl (fun γ => by rfl) (RSetG.stable _) ?_ ?_ ?_
  rotate_left
  · intro γ w' K hS hF hK
    obtain ⟨hc, hf⟩ := bcell hS
    have hz := hS.size
    go_simp
    (go_at_call 14; refine (r7_Join na nb la lb A B ca cb w' (by omega) hza hzb (hraW.mono hS) (hrbW.mono hS)).mono ?_; rintro e w1 ⟨⟨v, rfl, hset⟩, hb1⟩; obtain ⟨g, rfl, hg⟩ := SetV.ghost hset (by omega) (lo := w'.heap.size); exact hK.out g w1 hb1 hg)
  · intro γ; simp only [Act.put, List.setIfInBounds_toArray, List.set_cons_zero, List.set_cons_succ]; exact rfl
  refine SeqG.make (k := 29) (A' := ?_) (fun _ => .bool true) (fun _ _ _ _ => True) rfl (fun γ => by rfl) (Stable.true) ?_ ?_ ?_
  rotate_left
  · intro γ w' K hS hF hK
    obtain ⟨hc, hf⟩ := bcell hS
    have hz := hS.size
    obtain ⟨_, _, _, _, r25, m25, t25, n25, _⟩ := hF (25, RSetG (srt (la ++ lb))) (by simp) (reachL_spec (of_decide_eq_true (by kernel_rfl)))
    obtain ⟨_, _, _, _, r28, m28, t28, n28, _⟩ := hF (28, RSetG (srt (la ++ lb))) (by simp) (reachL_spec (of_decide_eq_true (by kernel_rfl)))
    go_simp
    (go_at_call 12; refine (exact_refl (na || nb) (srt (la ++ lb)) _ _ _ _ w' (by omega) r25 r28).mono ?_; rintro e w1 ⟨rfl, hb1⟩; exact hK.out (fun _ => 0) w1 hb1 trivial)
  · intro γ; simp only [Act.put, List.setIfInBounds_toArray, List.set_cons_zero, List.set_cons_succ]; exact rfl
  iterate 4
    first
      | (refine SeqG.yes (v := ?_) (A' := ?_) rfl (fun γ => by rfl) ?_ ?_ ?_
         rotate_left 2
         · intro γ w' K hS hK
           obtain ⟨hc, hf⟩ := bcell hS
           have hz := hS.size
           go_simp
           first
             | exact hK.out _ (Below.refl _ _)
             | (go_at_call 7; (with_reducible refine (K1.out w' hS).mono ?_); rintro e w1 ⟨rfl, hb1⟩; exact hK.out _ hb1)
             | (go_at_call 8; (with_reducible refine (K2.out w' hS).mono ?_); rintro e w1 ⟨rfl, hb1⟩; exact hK.out _ hb1)
             | (go_at_call 9; (with_reducible refine (K3.out w').mono ?_); rintro e w1 ⟨rfl, hb1⟩; exact hK.out _ hb1)
             | (go_at_call 10; (with_reducible refine (K4.out w' hS).mono ?_); rintro e w1 ⟨rfl, hb1⟩; exact hK.out _ hb1)
             | (go_at_call 11; (with_reducible refine (K5.out w' hS).mono ?_); rintro e w1 ⟨rfl, hb1⟩; exact hK.out _ hb1)
             | (go_at_call 17; (with_reducible refine (K13.out w' hS).mono ?_); rintro e w1 ⟨rfl, hb1⟩; exact hK.out _ hb1)
             | (go_at_call 18; (with_reducible refine (K14.out w' hS).mono ?_); rintro e w1 ⟨rfl, hb1⟩; exact hK.out _ hb1)
             | (go_at_call 19; (with_reducible refine (K15.out w' hS).mono ?_); rintro e w1 ⟨rfl, hb1⟩; exact hK.out _ hb1)
             | (go_at_call 23; (with_reducible refine (law07_lives w').mono ?_); rintro e w1 ⟨rfl, hb1⟩; exact hK.out _ hb1)
             | trace_state
         · intro γ; simp only [Act.put, List.setIfInBounds_toArray, List.set_cons_zero, List.set_cons_succ]; exact rfl)
      | (refine SeqG.no (A' := ?_) rfl (fun γ => by rfl) ?_ ?_
         rotate_left
         · intro γ; simp only [Act.put, List.setIfInBounds_toArray, List.set_cons_zero, List.set_cons_succ]; exact rfl)
  refine SeqG.make (k := 34) (A' := ?_) (fun g => .agg #[.bool (na && nb), .slice (gA g) (srt (meetL la lb)).length (g 2)]) (RSetG (srt (meetL la lb))) rfl (fun γ => by rfl) (RSetG.stable _) ?_ ?_ ?_
  rotate_left
  · intro γ w' K hS hF hK
    obtain ⟨hc, hf⟩ := bcell hS
    have hz := hS.size
    go_simp
    (go_at_call 15; refine (names_Meet na nb la lb A B ca cb w' (by omega) (by omega) (hraW.mono hS) (hrbW.mono hS)).mono ?_; rintro e w1 ⟨⟨v, rfl, hset⟩, hb1⟩; obtain ⟨g, rfl, hg⟩ := SetV.ghost hset (by omega) (lo := w'.heap.size); exact hK.out g w1 hb1 hg)
  · intro γ; simp only [Act.put, List.setIfInBounds_toArray, List.set_cons_zero, List.set_cons_succ]; exact rfl
  iterate 2
    first
      | (refine SeqG.yes (v := ?_) (A' := ?_) rfl (fun γ => by rfl) ?_ ?_ ?_
         rotate_left 2
         · intro γ w' K hS hK
           obtain ⟨hc, hf⟩ := bcell hS
           have hz := hS.size
           go_simp
           first
             | exact hK.out _ (Below.refl _ _)
             | (go_at_call 7; (with_reducible refine (K1.out w' hS).mono ?_); rintro e w1 ⟨rfl, hb1⟩; exact hK.out _ hb1)
             | (go_at_call 8; (with_reducible refine (K2.out w' hS).mono ?_); rintro e w1 ⟨rfl, hb1⟩; exact hK.out _ hb1)
             | (go_at_call 9; (with_reducible refine (K3.out w').mono ?_); rintro e w1 ⟨rfl, hb1⟩; exact hK.out _ hb1)
             | (go_at_call 10; (with_reducible refine (K4.out w' hS).mono ?_); rintro e w1 ⟨rfl, hb1⟩; exact hK.out _ hb1)
             | (go_at_call 11; (with_reducible refine (K5.out w' hS).mono ?_); rintro e w1 ⟨rfl, hb1⟩; exact hK.out _ hb1)
             | (go_at_call 17; (with_reducible refine (K13.out w' hS).mono ?_); rintro e w1 ⟨rfl, hb1⟩; exact hK.out _ hb1)
             | (go_at_call 18; (with_reducible refine (K14.out w' hS).mono ?_); rintro e w1 ⟨rfl, hb1⟩; exact hK.out _ hb1)
             | (go_at_call 19; (with_reducible refine (K15.out w' hS).mono ?_); rintro e w1 ⟨rfl, hb1⟩; exact hK.out _ hb1)
             | (go_at_call 23; (with_reducible refine (law07_lives w').mono ?_); rintro e w1 ⟨rfl, hb1⟩; exact hK.out _ hb1)
             | trace_state
         · intro γ; simp only [Act.put, List.setIfInBounds_toArray, List.set_cons_zero, List.set_cons_succ]; exact rfl)
      | (refine SeqG.no (A' := ?_) rfl (fun γ => by rfl) ?_ ?_
         rotate_left
         · intro γ; simp only [Act.put, List.setIfInBounds_toArray, List.set_cons_zero, List.set_cons_succ]; exact rfl)
  refine SeqG.make (k := 37) (A' := ?_) (fun g => .agg #[.bool (na && nb), .slice (gA g) (srt (meetL la lb)).length (g 2)]) (RSetG (srt (meetL la lb))) rfl (fun γ => by rfl) (RSetG.stable _) ?_ ?_ ?_
  rotate_left
  · intro γ w' K hS hF hK
    obtain ⟨hc, hf⟩ := bcell hS
    have hz := hS.size
    go_simp
    (go_at_call 16; refine (r7_Meet na nb la lb A B ca cb w' (by omega) (by omega) (hraW.mono hS) (hrbW.mono hS)).mono ?_; rintro e w1 ⟨⟨v, rfl, hset⟩, hb1⟩; obtain ⟨g, rfl, hg⟩ := SetV.ghost hset (by omega) (lo := w'.heap.size); exact hK.out g w1 hb1 hg)
  · intro γ; simp only [Act.put, List.setIfInBounds_toArray, List.set_cons_zero, List.set_cons_succ]; exact rfl
  refine SeqG.make (k := 38) (A' := ?_) (fun _ => .bool true) (fun _ _ _ _ => True) rfl (fun γ => by rfl) (Stable.true) ?_ ?_ ?_
  rotate_left
  · intro γ w' K hS hF hK
    obtain ⟨hc, hf⟩ := bcell hS
    have hz := hS.size
    obtain ⟨_, _, _, _, r34, m34, t34, n34, _⟩ := hF (34, RSetG (srt (meetL la lb))) (by simp) (reachL_spec (of_decide_eq_true (by kernel_rfl)))
    obtain ⟨_, _, _, _, r37, m37, t37, n37, _⟩ := hF (37, RSetG (srt (meetL la lb))) (by simp) (reachL_spec (of_decide_eq_true (by kernel_rfl)))
    go_simp
    (go_at_call 12; refine (exact_refl (na && nb) (srt (meetL la lb)) _ _ _ _ w' (by omega) r34 r37).mono ?_; rintro e w1 ⟨rfl, hb1⟩; exact hK.out (fun _ => 0) w1 hb1 trivial)
  · intro γ; simp only [Act.put, List.setIfInBounds_toArray, List.set_cons_zero, List.set_cons_succ]; exact rfl
  iterate 15
    first
      | (refine SeqG.yes (v := ?_) (A' := ?_) rfl (fun γ => by rfl) ?_ ?_ ?_
         rotate_left 2
         · intro γ w' K hS hK
           obtain ⟨hc, hf⟩ := bcell hS
           have hz := hS.size
           go_simp
           first
             | exact hK.out _ (Below.refl _ _)
             | (go_at_call 7; (with_reducible refine (K1.out w' hS).mono ?_); rintro e w1 ⟨rfl, hb1⟩; exact hK.out _ hb1)
             | (go_at_call 8; (with_reducible refine (K2.out w' hS).mono ?_); rintro e w1 ⟨rfl, hb1⟩; exact hK.out _ hb1)
             | (go_at_call 9; (with_reducible refine (K3.out w').mono ?_); rintro e w1 ⟨rfl, hb1⟩; exact hK.out _ hb1)
             | (go_at_call 10; (with_reducible refine (K4.out w' hS).mono ?_); rintro e w1 ⟨rfl, hb1⟩; exact hK.out _ hb1)
             | (go_at_call 11; (with_reducible refine (K5.out w' hS).mono ?_); rintro e w1 ⟨rfl, hb1⟩; exact hK.out _ hb1)
             | (go_at_call 17; (with_reducible refine (K13.out w' hS).mono ?_); rintro e w1 ⟨rfl, hb1⟩; exact hK.out _ hb1)
             | (go_at_call 18; (with_reducible refine (K14.out w' hS).mono ?_); rintro e w1 ⟨rfl, hb1⟩; exact hK.out _ hb1)
             | (go_at_call 19; (with_reducible refine (K15.out w' hS).mono ?_); rintro e w1 ⟨rfl, hb1⟩; exact hK.out _ hb1)
             | (go_at_call 23; (with_reducible refine (law07_lives w').mono ?_); rintro e w1 ⟨rfl, hb1⟩; exact hK.out _ hb1)
             | trace_state
         · intro γ; simp only [Act.put, List.setIfInBounds_toArray, List.set_cons_zero, List.set_cons_succ]; exact rfl)
      | (refine SeqG.no (A' := ?_) rfl (fun γ => by rfl) ?_ ?_
         rotate_left
         · intro γ; simp only [Act.put, List.setIfInBounds_toArray, List.set_cons_zero, List.set_cons_succ]; exact rfl)
  refine SeqG.make (k := 54) (A' := ?_) (fun g => .agg #[.bool (na), .slice (gA g) (srt la).length (g 2)]) (RSetG (srt la)) rfl (fun γ => by rfl) (RSetG.stable _) ?_ ?_ ?_
  rotate_left
  · intro γ w' K hS hF hK
    obtain ⟨hc, hf⟩ := bcell hS
    have hz := hS.size
    go_simp
    (go_at_call 20; refine (r7_Clean na la A ca w' (by omega) (hraW.mono hS)).mono ?_; rintro e w1 ⟨⟨v, rfl, hset⟩, hb1⟩; obtain ⟨g, rfl, hg⟩ := SetV.ghost hset (by omega) (lo := w'.heap.size); exact hK.out g w1 hb1 hg)
  · intro γ; simp only [Act.put, List.setIfInBounds_toArray, List.set_cons_zero, List.set_cons_succ]; exact rfl
  iterate 1
    first
      | (refine SeqG.yes (v := ?_) (A' := ?_) rfl (fun γ => by rfl) ?_ ?_ ?_
         rotate_left 2
         · intro γ w' K hS hK
           obtain ⟨hc, hf⟩ := bcell hS
           have hz := hS.size
           go_simp
           first
             | exact hK.out _ (Below.refl _ _)
             | (go_at_call 7; (with_reducible refine (K1.out w' hS).mono ?_); rintro e w1 ⟨rfl, hb1⟩; exact hK.out _ hb1)
             | (go_at_call 8; (with_reducible refine (K2.out w' hS).mono ?_); rintro e w1 ⟨rfl, hb1⟩; exact hK.out _ hb1)
             | (go_at_call 9; (with_reducible refine (K3.out w').mono ?_); rintro e w1 ⟨rfl, hb1⟩; exact hK.out _ hb1)
             | (go_at_call 10; (with_reducible refine (K4.out w' hS).mono ?_); rintro e w1 ⟨rfl, hb1⟩; exact hK.out _ hb1)
             | (go_at_call 11; (with_reducible refine (K5.out w' hS).mono ?_); rintro e w1 ⟨rfl, hb1⟩; exact hK.out _ hb1)
             | (go_at_call 17; (with_reducible refine (K13.out w' hS).mono ?_); rintro e w1 ⟨rfl, hb1⟩; exact hK.out _ hb1)
             | (go_at_call 18; (with_reducible refine (K14.out w' hS).mono ?_); rintro e w1 ⟨rfl, hb1⟩; exact hK.out _ hb1)
             | (go_at_call 19; (with_reducible refine (K15.out w' hS).mono ?_); rintro e w1 ⟨rfl, hb1⟩; exact hK.out _ hb1)
             | (go_at_call 23; (with_reducible refine (law07_lives w').mono ?_); rintro e w1 ⟨rfl, hb1⟩; exact hK.out _ hb1)
             | trace_state
         · intro γ; simp only [Act.put, List.setIfInBounds_toArray, List.set_cons_zero, List.set_cons_succ]; exact rfl)
      | (refine SeqG.no (A' := ?_) rfl (fun γ => by rfl) ?_ ?_
         rotate_left
         · intro γ; simp only [Act.put, List.setIfInBounds_toArray, List.set_cons_zero, List.set_cons_succ]; exact rfl)
  refine SeqG.make (k := 56) (A' := ?_) (fun g => .agg #[.bool (nb), .slice (gA g) (srt lb).length (g 2)]) (RSetG (srt lb)) rfl (fun γ => by rfl) (RSetG.stable _) ?_ ?_ ?_
  rotate_left
  · intro γ w' K hS hF hK
    obtain ⟨hc, hf⟩ := bcell hS
    have hz := hS.size
    go_simp
    (go_at_call 20; refine (r7_Clean nb lb B cb w' (by omega) (hrbW.mono hS)).mono ?_; rintro e w1 ⟨⟨v, rfl, hset⟩, hb1⟩; obtain ⟨g, rfl, hg⟩ := SetV.ghost hset (by omega) (lo := w'.heap.size); exact hK.out g w1 hb1 hg)
  · intro γ; simp only [Act.put, List.setIfInBounds_toArray, List.set_cons_zero, List.set_cons_succ]; exact rfl
  refine SeqG.make (k := 57) (A' := ?_) (fun _ => .bool sm) (fun _ _ _ _ => True) rfl (fun γ => by rfl) (Stable.true) ?_ ?_ ?_
  rotate_left
  · intro γ w' K hS hF hK
    obtain ⟨hc, hf⟩ := bcell hS
    have hz := hS.size
    obtain ⟨_, _, _, _, r54, m54, t54, n54, _⟩ := hF (54, RSetG (srt la)) (by simp) (reachL_spec (of_decide_eq_true (by kernel_rfl)))
    obtain ⟨_, _, _, _, r56, m56, t56, n56, _⟩ := hF (56, RSetG (srt lb)) (by simp) (reachL_spec (of_decide_eq_true (by kernel_rfl)))
    go_simp
    (go_at_call 12; refine (KE.out w' _ _ _ _ r54 r56).mono ?_; rintro e w1 ⟨rfl, hb1⟩; exact hK.out (fun _ => 0) w1 hb1 trivial)
  · intro γ; simp only [Act.put, List.setIfInBounds_toArray, List.set_cons_zero, List.set_cons_succ]; exact rfl
  iterate 4
    first
      | (refine SeqG.yes (v := ?_) (A' := ?_) rfl (fun γ => by rfl) ?_ ?_ ?_
         rotate_left 2
         · intro γ w' K hS hK
           obtain ⟨hc, hf⟩ := bcell hS
           have hz := hS.size
           go_simp
           first
             | exact hK.out _ (Below.refl _ _)
             | (go_at_call 7; (with_reducible refine (K1.out w' hS).mono ?_); rintro e w1 ⟨rfl, hb1⟩; exact hK.out _ hb1)
             | (go_at_call 8; (with_reducible refine (K2.out w' hS).mono ?_); rintro e w1 ⟨rfl, hb1⟩; exact hK.out _ hb1)
             | (go_at_call 9; (with_reducible refine (K3.out w').mono ?_); rintro e w1 ⟨rfl, hb1⟩; exact hK.out _ hb1)
             | (go_at_call 10; (with_reducible refine (K4.out w' hS).mono ?_); rintro e w1 ⟨rfl, hb1⟩; exact hK.out _ hb1)
             | (go_at_call 11; (with_reducible refine (K5.out w' hS).mono ?_); rintro e w1 ⟨rfl, hb1⟩; exact hK.out _ hb1)
             | (go_at_call 17; (with_reducible refine (K13.out w' hS).mono ?_); rintro e w1 ⟨rfl, hb1⟩; exact hK.out _ hb1)
             | (go_at_call 18; (with_reducible refine (K14.out w' hS).mono ?_); rintro e w1 ⟨rfl, hb1⟩; exact hK.out _ hb1)
             | (go_at_call 19; (with_reducible refine (K15.out w' hS).mono ?_); rintro e w1 ⟨rfl, hb1⟩; exact hK.out _ hb1)
             | (go_at_call 23; (with_reducible refine (law07_lives w').mono ?_); rintro e w1 ⟨rfl, hb1⟩; exact hK.out _ hb1)
             | trace_state
         · intro γ; simp only [Act.put, List.setIfInBounds_toArray, List.set_cons_zero, List.set_cons_succ]; exact rfl)
      | (refine SeqG.no (A' := ?_) rfl (fun γ => by rfl) ?_ ?_
         rotate_left
         · intro γ; simp only [Act.put, List.setIfInBounds_toArray, List.set_cons_zero, List.set_cons_succ]; exact rfl)
  refine SeqG.make (k := 62) (A' := ?_) (fun g => .agg #[.bool (na), .slice (gA g) (srt la).length (g 2)]) (RSetG (srt la)) rfl (fun γ => by rfl) (RSetG.stable _) ?_ ?_ ?_
  rotate_left
  · intro γ w' K hS hF hK
    obtain ⟨hc, hf⟩ := bcell hS
    have hz := hS.size
    go_simp
    (go_at_call 21; refine (names_Clean na la A ca w' (by omega) hza (hraW.mono hS)).mono ?_; rintro e w1 ⟨⟨v, rfl, hset⟩, hb1⟩; obtain ⟨g, rfl, hg⟩ := SetV.ghost hset (by omega) (lo := w'.heap.size); exact hK.out g w1 hb1 hg)
  · intro γ; simp only [Act.put, List.setIfInBounds_toArray, List.set_cons_zero, List.set_cons_succ]; exact rfl
  iterate 1
    first
      | (refine SeqG.yes (v := ?_) (A' := ?_) rfl (fun γ => by rfl) ?_ ?_ ?_
         rotate_left 2
         · intro γ w' K hS hK
           obtain ⟨hc, hf⟩ := bcell hS
           have hz := hS.size
           go_simp
           first
             | exact hK.out _ (Below.refl _ _)
             | (go_at_call 7; (with_reducible refine (K1.out w' hS).mono ?_); rintro e w1 ⟨rfl, hb1⟩; exact hK.out _ hb1)
             | (go_at_call 8; (with_reducible refine (K2.out w' hS).mono ?_); rintro e w1 ⟨rfl, hb1⟩; exact hK.out _ hb1)
             | (go_at_call 9; (with_reducible refine (K3.out w').mono ?_); rintro e w1 ⟨rfl, hb1⟩; exact hK.out _ hb1)
             | (go_at_call 10; (with_reducible refine (K4.out w' hS).mono ?_); rintro e w1 ⟨rfl, hb1⟩; exact hK.out _ hb1)
             | (go_at_call 11; (with_reducible refine (K5.out w' hS).mono ?_); rintro e w1 ⟨rfl, hb1⟩; exact hK.out _ hb1)
             | (go_at_call 17; (with_reducible refine (K13.out w' hS).mono ?_); rintro e w1 ⟨rfl, hb1⟩; exact hK.out _ hb1)
             | (go_at_call 18; (with_reducible refine (K14.out w' hS).mono ?_); rintro e w1 ⟨rfl, hb1⟩; exact hK.out _ hb1)
             | (go_at_call 19; (with_reducible refine (K15.out w' hS).mono ?_); rintro e w1 ⟨rfl, hb1⟩; exact hK.out _ hb1)
             | (go_at_call 23; (with_reducible refine (law07_lives w').mono ?_); rintro e w1 ⟨rfl, hb1⟩; exact hK.out _ hb1)
             | trace_state
         · intro γ; simp only [Act.put, List.setIfInBounds_toArray, List.set_cons_zero, List.set_cons_succ]; exact rfl)
      | (refine SeqG.no (A' := ?_) rfl (fun γ => by rfl) ?_ ?_
         rotate_left
         · intro γ; simp only [Act.put, List.setIfInBounds_toArray, List.set_cons_zero, List.set_cons_succ]; exact rfl)
  refine SeqG.make (k := 64) (A' := ?_) (fun g => .agg #[.bool (na), .slice (gA g) (srt la).length (g 2)]) (RSetG (srt la)) rfl (fun γ => by rfl) (RSetG.stable _) ?_ ?_ ?_
  rotate_left
  · intro γ w' K hS hF hK
    obtain ⟨hc, hf⟩ := bcell hS
    have hz := hS.size
    go_simp
    (go_at_call 20; refine (r7_Clean na la A ca w' (by omega) (hraW.mono hS)).mono ?_; rintro e w1 ⟨⟨v, rfl, hset⟩, hb1⟩; obtain ⟨g, rfl, hg⟩ := SetV.ghost hset (by omega) (lo := w'.heap.size); exact hK.out g w1 hb1 hg)
  · intro γ; simp only [Act.put, List.setIfInBounds_toArray, List.set_cons_zero, List.set_cons_succ]; exact rfl
  refine SeqG.make (k := 65) (A' := ?_) (fun _ => .bool true) (fun _ _ _ _ => True) rfl (fun γ => by rfl) (Stable.true) ?_ ?_ ?_
  rotate_left
  · intro γ w' K hS hF hK
    obtain ⟨hc, hf⟩ := bcell hS
    have hz := hS.size
    obtain ⟨_, _, _, _, r62, m62, t62, n62, _⟩ := hF (62, RSetG (srt la)) (by simp) (reachL_spec (of_decide_eq_true (by kernel_rfl)))
    obtain ⟨_, _, _, _, r64, m64, t64, n64, _⟩ := hF (64, RSetG (srt la)) (by simp) (reachL_spec (of_decide_eq_true (by kernel_rfl)))
    go_simp
    (go_at_call 12; refine (exact_refl na (srt la) _ _ _ _ w' (by omega) r62 r64).mono ?_; rintro e w1 ⟨rfl, hb1⟩; exact hK.out (fun _ => 0) w1 hb1 trivial)
  · intro γ; simp only [Act.put, List.setIfInBounds_toArray, List.set_cons_zero, List.set_cons_succ]; exact rfl
  iterate 6
    first
      | (refine SeqG.yes (v := ?_) (A' := ?_) rfl (fun γ => by rfl) ?_ ?_ ?_
         rotate_left 2
         · intro γ w' K hS hK
           obtain ⟨hc, hf⟩ := bcell hS
           have hz := hS.size
           go_simp
           first
             | exact hK.out _ (Below.refl _ _)
             | (go_at_call 7; (with_reducible refine (K1.out w' hS).mono ?_); rintro e w1 ⟨rfl, hb1⟩; exact hK.out _ hb1)
             | (go_at_call 8; (with_reducible refine (K2.out w' hS).mono ?_); rintro e w1 ⟨rfl, hb1⟩; exact hK.out _ hb1)
             | (go_at_call 9; (with_reducible refine (K3.out w').mono ?_); rintro e w1 ⟨rfl, hb1⟩; exact hK.out _ hb1)
             | (go_at_call 10; (with_reducible refine (K4.out w' hS).mono ?_); rintro e w1 ⟨rfl, hb1⟩; exact hK.out _ hb1)
             | (go_at_call 11; (with_reducible refine (K5.out w' hS).mono ?_); rintro e w1 ⟨rfl, hb1⟩; exact hK.out _ hb1)
             | (go_at_call 17; (with_reducible refine (K13.out w' hS).mono ?_); rintro e w1 ⟨rfl, hb1⟩; exact hK.out _ hb1)
             | (go_at_call 18; (with_reducible refine (K14.out w' hS).mono ?_); rintro e w1 ⟨rfl, hb1⟩; exact hK.out _ hb1)
             | (go_at_call 19; (with_reducible refine (K15.out w' hS).mono ?_); rintro e w1 ⟨rfl, hb1⟩; exact hK.out _ hb1)
             | (go_at_call 23; (with_reducible refine (law07_lives w').mono ?_); rintro e w1 ⟨rfl, hb1⟩; exact hK.out _ hb1)
             | trace_state
         · intro γ; simp only [Act.put, List.setIfInBounds_toArray, List.set_cons_zero, List.set_cons_succ]; exact rfl)
      | (refine SeqG.no (A' := ?_) rfl (fun γ => by rfl) ?_ ?_
         rotate_left
         · intro γ; simp only [Act.put, List.setIfInBounds_toArray, List.set_cons_zero, List.set_cons_succ]; exact rfl)
  refine SeqG.make (k := 72) (A' := ?_) (fun g => .agg #[.bool (na), .slice (gA g) (srt la).length (g 2)]) (RSetG (srt la)) rfl (fun γ => by rfl) (RSetG.stable _) ?_ ?_ ?_
  rotate_left
  · intro γ w' K hS hF hK
    obtain ⟨hc, hf⟩ := bcell hS
    have hz := hS.size
    go_simp
    (go_at_call 22; refine (names_Of na la A ca w' (by omega) hza (hraW.mono hS)).mono ?_; rintro e w1 ⟨⟨v, rfl, hset⟩, hb1⟩; obtain ⟨g, rfl, hg⟩ := SetV.ghost hset (by omega) (lo := w'.heap.size); exact hK.out g w1 hb1 hg)
  · intro γ; simp only [Act.put, List.setIfInBounds_toArray, List.set_cons_zero, List.set_cons_succ]; exact rfl
  iterate 1
    first
      | (refine SeqG.yes (v := ?_) (A' := ?_) rfl (fun γ => by rfl) ?_ ?_ ?_
         rotate_left 2
         · intro γ w' K hS hK
           obtain ⟨hc, hf⟩ := bcell hS
           have hz := hS.size
           go_simp
           first
             | exact hK.out _ (Below.refl _ _)
             | (go_at_call 7; (with_reducible refine (K1.out w' hS).mono ?_); rintro e w1 ⟨rfl, hb1⟩; exact hK.out _ hb1)
             | (go_at_call 8; (with_reducible refine (K2.out w' hS).mono ?_); rintro e w1 ⟨rfl, hb1⟩; exact hK.out _ hb1)
             | (go_at_call 9; (with_reducible refine (K3.out w').mono ?_); rintro e w1 ⟨rfl, hb1⟩; exact hK.out _ hb1)
             | (go_at_call 10; (with_reducible refine (K4.out w' hS).mono ?_); rintro e w1 ⟨rfl, hb1⟩; exact hK.out _ hb1)
             | (go_at_call 11; (with_reducible refine (K5.out w' hS).mono ?_); rintro e w1 ⟨rfl, hb1⟩; exact hK.out _ hb1)
             | (go_at_call 17; (with_reducible refine (K13.out w' hS).mono ?_); rintro e w1 ⟨rfl, hb1⟩; exact hK.out _ hb1)
             | (go_at_call 18; (with_reducible refine (K14.out w' hS).mono ?_); rintro e w1 ⟨rfl, hb1⟩; exact hK.out _ hb1)
             | (go_at_call 19; (with_reducible refine (K15.out w' hS).mono ?_); rintro e w1 ⟨rfl, hb1⟩; exact hK.out _ hb1)
             | (go_at_call 23; (with_reducible refine (law07_lives w').mono ?_); rintro e w1 ⟨rfl, hb1⟩; exact hK.out _ hb1)
             | trace_state
         · intro γ; simp only [Act.put, List.setIfInBounds_toArray, List.set_cons_zero, List.set_cons_succ]; exact rfl)
      | (refine SeqG.no (A' := ?_) rfl (fun γ => by rfl) ?_ ?_
         rotate_left
         · intro γ; simp only [Act.put, List.setIfInBounds_toArray, List.set_cons_zero, List.set_cons_succ]; exact rfl)
  refine SeqG.make (k := 74) (A' := ?_) (fun g => .agg #[.bool (na), .slice (gA g) (srt la).length (g 2)]) (RSetG (srt la)) rfl (fun γ => by rfl) (RSetG.stable _) ?_ ?_ ?_
  rotate_left
  · intro γ w' K hS hF hK
    obtain ⟨hc, hf⟩ := bcell hS
    have hz := hS.size
    go_simp
    (go_at_call 20; refine (r7_Clean na la A ca w' (by omega) (hraW.mono hS)).mono ?_; rintro e w1 ⟨⟨v, rfl, hset⟩, hb1⟩; obtain ⟨g, rfl, hg⟩ := SetV.ghost hset (by omega) (lo := w'.heap.size); exact hK.out g w1 hb1 hg)
  · intro γ; simp only [Act.put, List.setIfInBounds_toArray, List.set_cons_zero, List.set_cons_succ]; exact rfl
  refine SeqG.make (k := 75) (A' := ?_) (fun _ => .bool true) (fun _ _ _ _ => True) rfl (fun γ => by rfl) (Stable.true) ?_ ?_ ?_
  rotate_left
  · intro γ w' K hS hF hK
    obtain ⟨hc, hf⟩ := bcell hS
    have hz := hS.size
    obtain ⟨_, _, _, _, r72, m72, t72, n72, _⟩ := hF (72, RSetG (srt la)) (by simp) (reachL_spec (of_decide_eq_true (by kernel_rfl)))
    obtain ⟨_, _, _, _, r74, m74, t74, n74, _⟩ := hF (74, RSetG (srt la)) (by simp) (reachL_spec (of_decide_eq_true (by kernel_rfl)))
    go_simp
    (go_at_call 12; refine (exact_refl na (srt la) _ _ _ _ w' (by omega) r72 r74).mono ?_; rintro e w1 ⟨rfl, hb1⟩; exact hK.out (fun _ => 0) w1 hb1 trivial)
  · intro γ; simp only [Act.put, List.setIfInBounds_toArray, List.set_cons_zero, List.set_cons_succ]; exact rfl
  iterate 5
    first
      | (refine SeqG.yes (v := ?_) (A' := ?_) rfl (fun γ => by rfl) ?_ ?_ ?_
         rotate_left 2
         · intro γ w' K hS hK
           obtain ⟨hc, hf⟩ := bcell hS
           have hz := hS.size
           go_simp
           first
             | exact hK.out _ (Below.refl _ _)
             | (go_at_call 7; (with_reducible refine (K1.out w' hS).mono ?_); rintro e w1 ⟨rfl, hb1⟩; exact hK.out _ hb1)
             | (go_at_call 8; (with_reducible refine (K2.out w' hS).mono ?_); rintro e w1 ⟨rfl, hb1⟩; exact hK.out _ hb1)
             | (go_at_call 9; (with_reducible refine (K3.out w').mono ?_); rintro e w1 ⟨rfl, hb1⟩; exact hK.out _ hb1)
             | (go_at_call 10; (with_reducible refine (K4.out w' hS).mono ?_); rintro e w1 ⟨rfl, hb1⟩; exact hK.out _ hb1)
             | (go_at_call 11; (with_reducible refine (K5.out w' hS).mono ?_); rintro e w1 ⟨rfl, hb1⟩; exact hK.out _ hb1)
             | (go_at_call 17; (with_reducible refine (K13.out w' hS).mono ?_); rintro e w1 ⟨rfl, hb1⟩; exact hK.out _ hb1)
             | (go_at_call 18; (with_reducible refine (K14.out w' hS).mono ?_); rintro e w1 ⟨rfl, hb1⟩; exact hK.out _ hb1)
             | (go_at_call 19; (with_reducible refine (K15.out w' hS).mono ?_); rintro e w1 ⟨rfl, hb1⟩; exact hK.out _ hb1)
             | (go_at_call 23; (with_reducible refine (law07_lives w').mono ?_); rintro e w1 ⟨rfl, hb1⟩; exact hK.out _ hb1)
             | trace_state
         · intro γ; simp only [Act.put, List.setIfInBounds_toArray, List.set_cons_zero, List.set_cons_succ]; exact rfl)
      | (refine SeqG.no (A' := ?_) rfl (fun γ => by rfl) ?_ ?_
         rotate_left
         · intro γ; simp only [Act.put, List.setIfInBounds_toArray, List.set_cons_zero, List.set_cons_succ]; exact rfl)
  refine SeqG.nil (hfin.out _ _ ?_)
  clear hfin fin
  intro γ lo hi w1 hB1 hF hD
  clear hF hD
  refine TailL.nil ?_
  go_wp2
  go_ret
  exact ⟨rfl, (by repeat (first | (with_reducible assumption) | (with_reducible exact Below.refl _ _) | (with_reducible refine Below.alloc ?_ (by first | omega | (simp; omega) | (simp; done) | (dsimp only; omega)) _) | (with_reducible refine Below.setCell ?_ (by first | omega | (simp; omega) | (simp; done) | (dsimp only; omega)) _) | (with_reducible refine Below.drew ?_) | (with_reducible refine Below.trans ?_ (Below.mono (by assumption) (by first | omega | (simp; omega) | (simp; done) | (dsimp only; omega))))))⟩
end Go.Proofs.Ytnbpdkcnldeljaa
