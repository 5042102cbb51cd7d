/- The law NamesLattice, walked. -/
import Derived.Test.YtnbpdkcnldeljaaNamO
namespace Go.Proofs.Ytnbpdkcnldeljaa
open Go.RowKit

theorem same_of (na nb : Bool) (la lb : List Str) (hn : na = nb) (h : ∀ x, x ∈ la ↔ x ∈ lb) : (leqS na la nb lb && leqS nb lb na la) = true := by
  rw [Bool.and_eq_true, leq_iff, leq_iff]
  subst hn
  exact ⟨⟨fun x hx => (h x).1 hx, fun h => h⟩, fun x hx => (h x).2 hx, fun h => h⟩
theorem lat_j (na nb : Bool) (la lb : List Str) : leqS na la (na || nb) (srt (la ++ lb)) = true ∧ leqS nb lb (na || nb) (srt (la ++ lb)) = true := by
  refine ⟨(leq_iff _ _ _ _).2 ⟨fun x h => (mem_srt _ _).2 (by simp [h]), fun h => by simp [h]⟩, (leq_iff _ _ _ _).2 ⟨fun x h => (mem_srt _ _).2 (by simp [h]), fun h => by simp [h]⟩⟩
theorem lat_m (na nb : Bool) (la lb : List Str) : leqS (na && nb) (srt (meetL la lb)) na la = true ∧ leqS (na && nb) (srt (meetL la lb)) nb lb = true := by
  refine ⟨(leq_iff _ _ _ _).2 ⟨fun x h => ?_, fun h => by simp at h; exact h.1⟩, (leq_iff _ _ _ _).2 ⟨fun x h => ?_, fun h => by simp at h; exact h.2⟩⟩
  · rw [mem_srt, mem_meetL] at h; exact h.1
  · rw [mem_srt, mem_meetL] at h; exact h.2
theorem lat_jc (na nb nc : Bool) (la lb lc : List Str) : leqS (na || nb) (srt (la ++ lb)) nc lc = (leqS na la nc lc && leqS nb lb nc lc) := by
  rw [Bool.eq_iff_iff, Bool.and_eq_true, leq_iff, leq_iff, leq_iff]
  constructor
  · rintro ⟨h1, h2⟩
    exact ⟨⟨fun x h => h1 x ((mem_srt _ _).2 (by simp [h])), fun h => h2 (by simp [h])⟩, fun x h => h1 x ((mem_srt _ _).2 (by simp [h])), fun h => h2 (by simp [h])⟩
  · rintro ⟨⟨h1, h2⟩, h3, h4⟩
    refine ⟨fun x h => ?_, fun h => ?_⟩
    · rw [mem_srt, List.mem_append] at h
      rcases h with h | h
      · exact h1 x h
      · exact h3 x h
    · rw [Bool.or_eq_true] at h
      rcases h with h | h
      · exact h2 h
      · exact h4 h
theorem lat_cm (na nb nc : Bool) (la lb lc : List Str) : leqS nc lc (na && nb) (srt (meetL la lb)) = (leqS nc lc na la && leqS nc lc nb lb) := by
  rw [Bool.eq_iff_iff, Bool.and_eq_true, leq_iff, leq_iff, leq_iff]
  constructor
  · rintro ⟨h1, h2⟩
    refine ⟨⟨fun x h => ?_, fun h => ?_⟩, fun x h => ?_, fun h => ?_⟩
    · have := h1 x h; rw [mem_srt, mem_meetL] at this; exact this.1
    · have := h2 h; rw [Bool.and_eq_true] at this; exact this.1
    · have := h1 x h; rw [mem_srt, mem_meetL] at this; exact this.2
    · have := h2 h; rw [Bool.and_eq_true] at this; exact this.2
  · rintro ⟨⟨h1, h2⟩, h3, h4⟩
    exact ⟨fun x h => by rw [mem_srt, mem_meetL]; exact ⟨h1 x h, h3 x h⟩, fun h => by rw [h2 h, h4 h]; rfl⟩
theorem lat_assoc (na nb nc : Bool) (la lb lc : List Str) : (leqS (na || (nb || nc)) (srt (la ++ srt (lb ++ lc))) (na || nb || nc) (srt (srt (la ++ lb) ++ lc)) && leqS (na || nb || nc) (srt (srt (la ++ lb) ++ lc)) (na || (nb || nc)) (srt (la ++ srt (lb ++ lc)))) = true := by
  refine same_of _ _ _ _ (by simp [Bool.or_assoc]) (fun x => ?_)
  simp only [mem_srt, List.mem_append, or_assoc]
theorem lat_dist (na nb nc : Bool) (la lb lc : List Str) : (leqS (na && (nb || nc)) (srt (meetL la (srt (lb ++ lc)))) (na && nb || na && nc) (srt (srt (meetL la lb) ++ srt (meetL la lc))) &&
    leqS (na && nb || na && nc) (srt (srt (meetL la lb) ++ srt (meetL la lc))) (na && (nb || nc)) (srt (meetL la (srt (lb ++ lc))))) = true := by
  refine same_of _ _ _ _ (by simp [Bool.and_or_distrib_left]) (fun x => ?_)
  simp only [mem_srt, mem_meetL, List.mem_append, and_or_left]

theorem same_true (na nb : Bool) (la lb : List Str) (A B : Option Addr) (ca cb : Nat) (w : World) (h : (leqS na la nb lb && leqS nb lb na la) = true) (ha : la.length ≤ 9223372036854775807) (hb : lb.length ≤ 9223372036854775807) (hra : SRow w A la) (hrb : SRow w B lb) :
    Calls Try.prog 19 #[.agg #[.bool na, .slice A la.length ca], .agg #[.bool nb, .slice B lb.length cb]] w fun e w' => e = .returned (.bool true) ∧ Below w.heap.size w w' := by
  have h1 := names_Same na nb la lb A B ca cb w ha hb hra hrb
  rw [h] at h1
  exact h1
theorem SRow.far {w w' : World} {A : Option Addr} {l : List Str} (h : SRow w A l) (hf : ∀ a, A = some a → l ≠ [] → ∀ p : Addr, p.block = a.block → w'.cell? p = w.cell? p) : SRow w' A l := by
  cases A with
  | none => exact h
  | some a =>
    intro i hi
    have hne : l ≠ [] := fun e => by rw [e] at hi; simp at hi
    rw [hf a rfl hne (a.add i) (by unfold Addr.add; split <;> rfl)]
    exact h i hi
def LatCut (nj nm : Bool) (J M : List Str) (W : World) (s7 s8 : Value) (wx : World) : Prop :=
  ∃ (b7 b8 : Nat) (A7 A8 : Option Addr) (c7 c8 : Nat), s7 = .pointer (some ⟨b7, 0, none⟩) ∧ s8 = .pointer (some ⟨b8, 0, none⟩) ∧
    wx.cell? ⟨b7, 0, none⟩ = some (.bool nj) ∧ wx.cell? ⟨b7, 1, none⟩ = some (.slice A7 J.length c7) ∧ b7 < wx.heap.size ∧ SRow wx A7 J ∧ (A7 = none → c7 = 0) ∧
    wx.cell? ⟨b8, 0, none⟩ = some (.bool nm) ∧ wx.cell? ⟨b8, 1, none⟩ = some (.slice A8 M.length c8) ∧ b8 < wx.heap.size ∧ SRow wx A8 M ∧ (A8 = none → c8 = 0) ∧ Below W.heap.size W wx
theorem cell_far2 (w : World) (b : Nat) (v0 v1 : Value) (p : Addr) (h : p.block ≠ b) : ((w.setCell ⟨b, 0, none⟩ v0).setCell ⟨b, 1, none⟩ v1).cell? p = w.cell? p := by
  rw [World.cell?_setCell_far _ _ _ _ (fun e => h e.symm), World.cell?_setCell_far _ _ _ _ (fun e => h e.symm)]

set_option maxRecDepth 100000 in
set_option maxHeartbeats 8000000 in
theorem law_namesLattice (na nb nc : Bool) (la lb lc : List Str) (A B C : Option Addr) (ca cb cc : Nat) (w : World) (hm : (la.length + lb.length + lc.length + 1) * 32 ≤ 140737488355328) (hza : A = none → ca = 0) (hzb : B = none → cb = 0) (hzc : C = none → cc = 0)
    (hra : SRow w A la) (hrb : SRow w B lb) (hrc : SRow w C lc) :
    Calls Try.prog 5 #[.agg #[.bool na, .slice A la.length ca], .agg #[.bool nb, .slice B lb.length cb], .agg #[.bool nc, .slice C lc.length cc]] w fun e w' => e = .returned (.bool true) ∧ Below w.heap.size w w' := by
  have hsj := srt_len_le (la ++ lb)
  have hsm := srt_len_le (meetL la lb)
  have hml := meetL_len la lb
  rw [List.length_append] at hsj
  go_enter Try.func5, Try.ntmps5
  go_upto_region 1 with fail
  generalize hW : (((w.alloc (.cells #[.bool na, .slice A la.length ca] 24)).alloc (.cells #[.bool nb, .slice B lb.length cb] 24)).alloc (.cells #[.bool nc, .slice C lc.length cc] 24)) = W
  have q0_0 : W.cell? ⟨w.heap.size, 0, none⟩ = some (.bool na) := by rw [← hW]; simp [go_sem]
  have q0_1 : W.cell? ⟨w.heap.size, 1, none⟩ = some (.slice A la.length ca) := by rw [← hW]; simp [go_sem]
  have q1_0 : W.cell? ⟨w.heap.size + 1, 0, none⟩ = some (.bool nb) := by rw [← hW]; simp [go_sem]
  have q1_1 : W.cell? ⟨w.heap.size + 1, 1, none⟩ = some (.slice B lb.length cb) := by rw [← hW]; simp [go_sem]
  have q2_0 : W.cell? ⟨w.heap.size + 1 + 1, 0, none⟩ = some (.bool nc) := by rw [← hW]; simp [go_sem]
  have q2_1 : W.cell? ⟨w.heap.size + 1 + 1, 1, none⟩ = some (.slice C lc.length cc) := by rw [← hW]; simp [go_sem]
  have z0 : w.heap.size < W.heap.size := by rw [← hW]; first | (simp; done) | (simp; omega)
  have z1 : w.heap.size + 1 < W.heap.size := by rw [← hW]; first | (simp; done) | (simp; omega)
  have z2 : w.heap.size + 1 + 1 < W.heap.size := by rw [← hW]; first | (simp; done) | (simp; omega)
  have HW : Below w.heap.size w W := by rw [← hW]; exact (by repeat (first | (with_reducible assumption) | (with_reducible exact Below.refl _ _) | (with_reducible refine Below.alloc ?_ (by first | omega | (simp; omega) | (simp; done) | (dsimp only; omega)) _) | (with_reducible refine Below.setCell ?_ (by first | omega | (simp; omega) | (simp; done) | (dsimp only; omega)) _) | (with_reducible refine Below.drew ?_) | (with_reducible refine Below.trans ?_ (Below.mono (by assumption) (by first | omega | (simp; omega) | (simp; done) | (dsimp only; omega))))))
  clear hW
  have hraW := hra.mono HW
  have hrbW := hrb.mono HW
  have hrcW := hrc.mono HW
  go_cut [7, 8] (fun s7 s8 wx => LatCut (na || nb) (na && nb) (srt (la ++ lb)) (srt (meetL la lb)) W s7 s8 wx)
  case first =>
    refine region_seqg (W := W) [_, _, _, _, _, _, _, _] [_, _] rfl (by kernel_rfl) (by kernel_rfl) (by repeat (first | (with_reducible assumption) | (with_reducible exact Below.refl _ _) | (with_reducible refine Below.alloc ?_ (by first | omega | (simp; omega) | (simp; done) | (dsimp only; omega)) _) | (with_reducible refine Below.setCell ?_ (by first | omega | (simp; omega) | (simp; done) | (dsimp only; omega)) _) | (with_reducible refine Below.drew ?_) | (with_reducible refine Below.trans ?_ (Below.mono (by assumption) (by first | omega | (simp; omega) | (simp; done) | (dsimp only; omega)))))) (fun fin hfin => ?_)
    iterate 2
      first
        | (refine SeqG.yes (v := ?_) (A' := ?_) rfl (fun γ => by rfl) ?_ ?_ ?_
           rotate_left 2
           · intro γ w' K hS hK
             obtain ⟨hc, hf⟩ := bcell hS
             have hz := hS.size
             go_simp
             first
               | exact hK.out _ (Below.refl _ _)
               | trace_state
           · intro γ; simp only [Act.put, List.setIfInBounds_toArray, List.set_cons_zero, List.set_cons_succ]; exact rfl)
        | (refine SeqG.no (A' := ?_) rfl (fun γ => by rfl) ?_ ?_
           rotate_left
           · intro γ; simp only [Act.put, List.setIfInBounds_toArray, List.set_cons_zero, List.set_cons_succ]; exact rfl)
    refine SeqG.make (k := 2) (A' := ?_) (fun g => .agg #[.bool (na || nb), .slice (gA g) (srt (la ++ lb)).length (g 2)]) (RSetG (srt (la ++ lb))) rfl (fun γ => by rfl) (RSetG.stable _) ?_ ?_ ?_
    rotate_left
    · intro γ w' K hS hF hK
      obtain ⟨hc, hf⟩ := bcell hS
      have hz := hS.size
      go_simp
      (go_at_call 13; refine (names_Join na nb la lb A B ca cb w' (by omega) hza hzb (hraW.mono hS) (hrbW.mono hS)).mono ?_; rintro e w1 ⟨⟨v, rfl, hset⟩, hb1⟩; obtain ⟨g, rfl, hg⟩ := SetV.ghost hset (by omega) (lo := w'.heap.size); exact hK.out g w1 hb1 hg)
    · intro γ; simp only [Act.put, List.setIfInBounds_toArray, List.set_cons_zero, List.set_cons_succ]; exact rfl
    iterate 2
      first
        | (refine SeqG.yes (v := ?_) (A' := ?_) rfl (fun γ => by rfl) ?_ ?_ ?_
           rotate_left 2
           · intro γ w' K hS hK
             obtain ⟨hc, hf⟩ := bcell hS
             have hz := hS.size
             go_simp
             first
               | exact hK.out _ (Below.refl _ _)
               | trace_state
           · intro γ; simp only [Act.put, List.setIfInBounds_toArray, List.set_cons_zero, List.set_cons_succ]; exact rfl)
        | (refine SeqG.no (A' := ?_) rfl (fun γ => by rfl) ?_ ?_
           rotate_left
           · intro γ; simp only [Act.put, List.setIfInBounds_toArray, List.set_cons_zero, List.set_cons_succ]; exact rfl)
    refine SeqG.make (k := 5) (A' := ?_) (fun g => .agg #[.bool (na && nb), .slice (gA g) (srt (meetL la lb)).length (g 2)]) (RSetG (srt (meetL la lb))) rfl (fun γ => by rfl) (RSetG.stable _) ?_ ?_ ?_
    rotate_left
    · intro γ w' K hS hF hK
      obtain ⟨hc, hf⟩ := bcell hS
      have hz := hS.size
      go_simp
      (go_at_call 15; refine (names_Meet na nb la lb A B ca cb w' (by omega) (by omega) (hraW.mono hS) (hrbW.mono hS)).mono ?_; rintro e w1 ⟨⟨v, rfl, hset⟩, hb1⟩; obtain ⟨g, rfl, hg⟩ := SetV.ghost hset (by omega) (lo := w'.heap.size); exact hK.out g w1 hb1 hg)
    · intro γ; simp only [Act.put, List.setIfInBounds_toArray, List.set_cons_zero, List.set_cons_succ]; exact rfl
    refine SeqG.make (k := 6) (A' := ?_) (fun g => .pointer (some ⟨g 0, 0, none⟩)) (RCell #[.bool false, .slice none 0 0] 24) rfl (fun γ => by rfl) (RCell.stable _ _) ?_ ?_ ?_
    rotate_left
    · intro γ w' K hS _ hK
      have hm := RCell.made (#[.bool false, .slice none 0 0]) (24) w'
      have HK := Lib.hid (hK.out (fun _ => w'.heap.size) (w'.alloc (.cells #[.bool false, .slice none 0 0] 24)) ((Below.refl _ _).alloc (Nat.le_refl _) _) hm); clear hK hm
      go_simp
      exact HK.out
    · intro γ; simp only [Act.put, List.setIfInBounds_toArray, List.set_cons_zero, List.set_cons_succ]; exact rfl
    refine SeqG.make (k := 7) (A' := ?_) (fun g => .pointer (some ⟨g 0, 0, none⟩)) (RCell #[.bool false, .slice none 0 0] 24) rfl (fun γ => by rfl) (RCell.stable _ _) ?_ ?_ ?_
    rotate_left
    · intro γ w' K hS _ hK
      have hm := RCell.made (#[.bool false, .slice none 0 0]) (24) w'
      have HK := Lib.hid (hK.out (fun _ => w'.heap.size) (w'.alloc (.cells #[.bool false, .slice none 0 0] 24)) ((Below.refl _ _).alloc (Nat.le_refl _) _) hm); clear hK hm
      go_simp
      exact HK.out
    · intro γ; simp only [Act.put, List.setIfInBounds_toArray, List.set_cons_zero, List.set_cons_succ]; exact rfl
    refine SeqG.nil (hfin.out _ _ ?_)
    clear hfin fin
    intro γ lo hi w1 hB1 hF hD
    replace hF := listF4 hF
    dsimp only at hF
    replace hD := listD4 hD
    dsimp only at hD
    obtain ⟨hD0, hD1, hD2, hD3, hD4, hD5⟩ := hD
    replace hD0 := hD0 (by decide)
    replace hD1 := hD1 (by decide)
    replace hD2 := hD2 (by decide)
    replace hD3 := hD3 (by decide)
    replace hD4 := hD4 (by decide)
    replace hD5 := hD5 (by decide)
    obtain ⟨⟨y2, l2, o2, r2, m2, t2, n2, s2⟩, ⟨y5, l5, o5, r5, m5, t5, n5, s5⟩, ⟨y6, l6, o6, p6, p6', h6⟩, ⟨y7, l7, o7, p7, p7', h7⟩⟩ := hF
    obtain ⟨hc, hf⟩ := bcell hB1
    have hz := hB1.size
    have w6 : W.heap.size ≤ γ 6 0 := by omega
    have w7 : W.heap.size ≤ γ 7 0 := by omega
    have x6 : γ 6 0 < w1.heap.size := by omega
    have x7 : γ 7 0 < w1.heap.size := by omega
    have n67 : γ 6 0 ≠ γ 7 0 := by omega
    have F2 : ∀ a, gA (γ 2) = some a → srt (la ++ lb) ≠ [] → a.block ≠ γ 6 0 ∧ a.block ≠ γ 7 0 := fun a e hne => by
      have h1 := (s2 a e).1; have h2 := (s2 a e).2 hne; omega
    have F5 : ∀ a, gA (γ 5) = some a → srt (meetL la lb) ≠ [] → a.block ≠ γ 6 0 ∧ a.block ≠ γ 7 0 := fun a e hne => by
      have h1 := (s5 a e).1; have h2 := (s5 a e).2 hne; omega
    clear hD0 hD1 hD2 hD3 hD4 hD5 s2 s5
    generalize γ 6 0 = b7 at *
    generalize γ 7 0 = b8 at *
    have g6 := blk_cell h6
    have g7 := blk_cell h7
    have f6 := blk_free h6
    have f7 := blk_free h7
    have n76 := Ne.symm n67
    refine TailL.cons (fun K hK => ?_)
    go_simp
    refine hK.out _ _ ?_
    clear hK K
    refine TailL.cons (fun K hK => ?_)
    go_simp
    refine hK.out _ _ ?_
    clear hK K
    refine TailL.nil ?_
    generalize hX : (((w1.setCell ⟨b7, 0, none⟩ (.bool (na || nb))).setCell ⟨b7, 1, none⟩ (.slice (gA (γ 2)) (srt (la ++ lb)).length (γ 2 2))).setCell ⟨b8, 0, none⟩ (.bool (na && nb))).setCell ⟨b8, 1, none⟩ (.slice (gA (γ 5)) (srt (meetL la lb)).length (γ 5 2)) = X
    have hfar : ∀ p : Addr, p.block ≠ b7 → p.block ≠ b8 → X.cell? p = w1.cell? p := fun p h1 h2 => by rw [← hX, cell_far2 _ _ _ _ _ h2, cell_far2 _ _ _ _ _ h1]
    have hX7 : X.heap[b7]? = some (.cells #[.bool (na || nb), .slice (gA (γ 2)) (srt (la ++ lb)).length (γ 2 2)] 24) := by
      rw [← hX]
      (iterate 2 (refine (Below.heap_setCell _ _ _ _ (by dsimp only; omega)).trans ?_))
      exact blk_set2 h6
    have hX8 : X.heap[b8]? = some (.cells #[.bool (na && nb), .slice (gA (γ 5)) (srt (meetL la lb)).length (γ 5 2)] 24) := by
      rw [← hX]
      refine blk_set2 (c0 := .bool false) (c1 := .slice none 0 0) ?_
      (iterate 2 (refine (Below.heap_setCell _ _ _ _ (by dsimp only; omega)).trans ?_))
      exact h7
    have HX : Below W.heap.size W X := by rw [← hX]; exact (by repeat (first | (with_reducible assumption) | (with_reducible exact Below.refl _ _) | (with_reducible refine Below.alloc ?_ (by first | omega | (simp; omega) | (simp; done) | (dsimp only; omega)) _) | (with_reducible refine Below.setCell ?_ (by first | omega | (simp; omega) | (simp; done) | (dsimp only; omega)) _) | (with_reducible refine Below.drew ?_) | (with_reducible refine Below.trans ?_ (Below.mono (by assumption) (by first | omega | (simp; omega) | (simp; done) | (dsimp only; omega))))))
    clear hX h6 h7
    go_wp2_with fail
    go_meet
    have k7 := blk_cell hX7
    have k8 := blk_cell hX8
    exact ⟨b7, b8, gA (γ 2), gA (γ 5), γ 2 2, γ 5 2, rfl, rfl, k7 0, k7 1, blk_lt hX7, r2.far (fun a e hne p hp => hfar p (by rw [hp]; exact (F2 a e hne).1) (by rw [hp]; exact (F2 a e hne).2)), n2,
      k8 0, k8 1, blk_lt hX8, r5.far (fun a e hne p hp => hfar p (by rw [hp]; exact (F5 a e hne).1) (by rw [hp]; exact (F5 a e hne).2)), n5, HX⟩
  case rest =>
    obtain ⟨b7, b8, A7, A8, c7, c8, rfl, rfl, q7_0, q7_1, z7, r7, n7, q8_0, q8_1, z8, r8, n8, hb⟩ := hcut
    have hraC := hraW.mono hb
    have hrbC := hrbW.mono hb
    have hrcC := hrcW.mono hb
    replace q0_0 := (hb.cell (p := ⟨w.heap.size, 0, none⟩) z0).trans q0_0
    replace q0_1 := (hb.cell (p := ⟨w.heap.size, 1, none⟩) z0).trans q0_1
    replace q1_0 := (hb.cell (p := ⟨w.heap.size + 1, 0, none⟩) z1).trans q1_0
    replace q1_1 := (hb.cell (p := ⟨w.heap.size + 1, 1, none⟩) z1).trans q1_1
    replace q2_0 := (hb.cell (p := ⟨w.heap.size + 1 + 1, 0, none⟩) z2).trans q2_0
    replace q2_1 := (hb.cell (p := ⟨w.heap.size + 1 + 1, 1, none⟩) z2).trans q2_1
    replace z0 := Nat.lt_of_lt_of_le z0 hb.size
    replace z1 := Nat.lt_of_lt_of_le z1 hb.size
    replace z2 := Nat.lt_of_lt_of_le z2 hb.size
    replace HW := HW.trans (hb.mono HW.size)
    clear hb hraW hrbW hrcW
    go_upto_region 2 with fail
    go_cut [68] (fun s68 wx => s68 = .bool false ∧ Below wc.heap.size wc wx)
    case first =>
      have K1 : Hid (∀ w', Below wc.heap.size wc w' → _) := Lib.hid (fun w' h => names_Leq na (na || nb) la (srt (la ++ lb)) A A7 ca c7 w' (by omega) (by omega) (hraC.mono h) (r7.mono h))
      have K2 : Hid (∀ w', Below wc.heap.size wc w' → _) := Lib.hid (fun w' h => names_Leq nb (na || nb) lb (srt (la ++ lb)) B A7 cb c7 w' (by omega) (by omega) (hrbC.mono h) (r7.mono h))
      have K3 : Hid (∀ w', Below wc.heap.size wc w' → _) := Lib.hid (fun w' h => names_Leq (na && nb) na (srt (meetL la lb)) la A8 A c8 ca w' (by omega) (by omega) (r8.mono h) (hraC.mono h))
      have K4 : Hid (∀ w', Below wc.heap.size wc w' → _) := Lib.hid (fun w' h => names_Leq (na && nb) nb (srt (meetL la lb)) lb A8 B c8 cb w' (by omega) (by omega) (r8.mono h) (hrbC.mono h))
      have K5 : Hid (∀ w', Below wc.heap.size wc w' → _) := Lib.hid (fun w' h => names_Leq na nc la lc A C ca cc w' (by omega) (by omega) (hraC.mono h) (hrcC.mono h))
      have K6 : Hid (∀ w', Below wc.heap.size wc w' → _) := Lib.hid (fun w' h => names_Leq nb nc lb lc B C cb cc w' (by omega) (by omega) (hrbC.mono h) (hrcC.mono h))
      have K7 : Hid (∀ w', Below wc.heap.size wc w' → _) := Lib.hid (fun w' h => names_Leq (na || nb) nc (srt (la ++ lb)) lc A7 C c7 cc w' (by omega) (by omega) (r7.mono h) (hrcC.mono h))
      have K8 : Hid (∀ w', Below wc.heap.size wc w' → _) := Lib.hid (fun w' h => names_Leq nc na lc la C A cc ca w' (by omega) (by omega) (hrcC.mono h) (hraC.mono h))
      have K9 : Hid (∀ w', Below wc.heap.size wc w' → _) := Lib.hid (fun w' h => names_Leq nc nb lc lb C B cc cb w' (by omega) (by omega) (hrcC.mono h) (hrbC.mono h))
      have K10 : Hid (∀ w', Below wc.heap.size wc w' → _) := Lib.hid (fun w' h => names_Leq nc (na && nb) lc (srt (meetL la lb)) C A8 cc c8 w' (by omega) (by omega) (hrcC.mono h) (r8.mono h))
      rw [(lat_j na nb la lb).1] at K1
      rw [(lat_j na nb la lb).2] at K2
      rw [(lat_m na nb la lb).1] at K3
      rw [(lat_m na nb la lb).2] at K4
      rw [lat_jc] at K7
      rw [lat_cm] at K10
      generalize leqS na la nc lc = p at K5 K7
      generalize leqS nb lb nc lc = q at K6 K7
      generalize leqS nc lc na la = r at K8 K10
      generalize leqS nc lc nb lb = s at K9 K10
      have hpq : p = false ∨ (p = true ∧ q = false) ∨ (p = true ∧ q = true) := by cases p <;> cases q <;> simp
      have hrs : r = false ∨ (r = true ∧ s = false) ∨ (r = true ∧ s = true) := by cases r <;> cases s <;> simp
      go_wp2_with fail
      go_at_call 17
      refine (K1.out _ (by repeat (first | (with_reducible assumption) | (with_reducible exact Below.refl _ _) | (with_reducible refine Below.alloc ?_ (by first | omega | (simp; omega) | (simp; done) | (dsimp only; omega)) _) | (with_reducible refine Below.setCell ?_ (by first | omega | (simp; omega) | (simp; done) | (dsimp only; omega)) _) | (with_reducible refine Below.drew ?_) | (with_reducible refine Below.trans ?_ (Below.mono (by assumption) (by first | omega | (simp; omega) | (simp; done) | (dsimp only; omega))))))).mono ?_
      rintro e x1 ⟨rfl, hb1⟩
      have H1 : Below wc.heap.size wc x1 := (by repeat (first | (with_reducible assumption) | (with_reducible exact Below.refl _ _) | (with_reducible refine Below.alloc ?_ (by first | omega | (simp; omega) | (simp; done) | (dsimp only; omega)) _) | (with_reducible refine Below.setCell ?_ (by first | omega | (simp; omega) | (simp; done) | (dsimp only; omega)) _) | (with_reducible refine Below.drew ?_) | (with_reducible refine Below.trans ?_ (Below.mono (by assumption) (by first | omega | (simp; omega) | (simp; done) | (dsimp only; omega))))))
      obtain ⟨hc1, _⟩ := bcell H1
      have Z1 := H1.size
      go_wp2_with fail
      go_at_call 17
      refine (K2.out _ (by first | exact H1 | exact (by repeat (first | (with_reducible assumption) | (with_reducible exact Below.refl _ _) | (with_reducible refine Below.alloc ?_ (by first | omega | (simp; omega) | (simp; done) | (dsimp only; omega)) _) | (with_reducible refine Below.setCell ?_ (by first | omega | (simp; omega) | (simp; done) | (dsimp only; omega)) _) | (with_reducible refine Below.drew ?_) | (with_reducible refine Below.trans ?_ (Below.mono (by assumption) (by first | omega | (simp; omega) | (simp; done) | (dsimp only; omega)))))))).mono ?_
      rintro e x2 ⟨rfl, hb2⟩
      have H2 : Below wc.heap.size wc x2 := (by repeat (first | (with_reducible assumption) | (with_reducible exact Below.refl _ _) | (with_reducible refine Below.alloc ?_ (by first | omega | (simp; omega) | (simp; done) | (dsimp only; omega)) _) | (with_reducible refine Below.setCell ?_ (by first | omega | (simp; omega) | (simp; done) | (dsimp only; omega)) _) | (with_reducible refine Below.drew ?_) | (with_reducible refine Below.trans ?_ (Below.mono (by assumption) (by first | omega | (simp; omega) | (simp; done) | (dsimp only; omega))))))
      obtain ⟨hc2, _⟩ := bcell H2
      have Z2 := H2.size
      clear hc1 hb1 Z1
      go_wp2_with fail
      go_at_call 17
      refine (K3.out _ (by first | exact H2 | exact (by repeat (first | (with_reducible assumption) | (with_reducible exact Below.refl _ _) | (with_reducible refine Below.alloc ?_ (by first | omega | (simp; omega) | (simp; done) | (dsimp only; omega)) _) | (with_reducible refine Below.setCell ?_ (by first | omega | (simp; omega) | (simp; done) | (dsimp only; omega)) _) | (with_reducible refine Below.drew ?_) | (with_reducible refine Below.trans ?_ (Below.mono (by assumption) (by first | omega | (simp; omega) | (simp; done) | (dsimp only; omega)))))))).mono ?_
      rintro e x3 ⟨rfl, hb3⟩
      have H3 : Below wc.heap.size wc x3 := (by repeat (first | (with_reducible assumption) | (with_reducible exact Below.refl _ _) | (with_reducible refine Below.alloc ?_ (by first | omega | (simp; omega) | (simp; done) | (dsimp only; omega)) _) | (with_reducible refine Below.setCell ?_ (by first | omega | (simp; omega) | (simp; done) | (dsimp only; omega)) _) | (with_reducible refine Below.drew ?_) | (with_reducible refine Below.trans ?_ (Below.mono (by assumption) (by first | omega | (simp; omega) | (simp; done) | (dsimp only; omega))))))
      obtain ⟨hc3, _⟩ := bcell H3
      have Z3 := H3.size
      clear hc2 hb2 Z2
      go_wp2_with fail
      go_at_call 17
      refine (K4.out _ (by first | exact H3 | exact (by repeat (first | (with_reducible assumption) | (with_reducible exact Below.refl _ _) | (with_reducible refine Below.alloc ?_ (by first | omega | (simp; omega) | (simp; done) | (dsimp only; omega)) _) | (with_reducible refine Below.setCell ?_ (by first | omega | (simp; omega) | (simp; done) | (dsimp only; omega)) _) | (with_reducible refine Below.drew ?_) | (with_reducible refine Below.trans ?_ (Below.mono (by assumption) (by first | omega | (simp; omega) | (simp; done) | (dsimp only; omega)))))))).mono ?_
      rintro e x4 ⟨rfl, hb4⟩
      have H4 : Below wc.heap.size wc x4 := (by repeat (first | (with_reducible assumption) | (with_reducible exact Below.refl _ _) | (with_reducible refine Below.alloc ?_ (by first | omega | (simp; omega) | (simp; done) | (dsimp only; omega)) _) | (with_reducible refine Below.setCell ?_ (by first | omega | (simp; omega) | (simp; done) | (dsimp only; omega)) _) | (with_reducible refine Below.drew ?_) | (with_reducible refine Below.trans ?_ (Below.mono (by assumption) (by first | omega | (simp; omega) | (simp; done) | (dsimp only; omega))))))
      obtain ⟨hc4, _⟩ := bcell H4
      have Z4 := H4.size
      clear hc3 hb3 Z3
      go_wp2_with fail
      go_at_call 17
      refine (K5.out _ (by first | exact H4 | exact (by repeat (first | (with_reducible assumption) | (with_reducible exact Below.refl _ _) | (with_reducible refine Below.alloc ?_ (by first | omega | (simp; omega) | (simp; done) | (dsimp only; omega)) _) | (with_reducible refine Below.setCell ?_ (by first | omega | (simp; omega) | (simp; done) | (dsimp only; omega)) _) | (with_reducible refine Below.drew ?_) | (with_reducible refine Below.trans ?_ (Below.mono (by assumption) (by first | omega | (simp; omega) | (simp; done) | (dsimp only; omega)))))))).mono ?_
      rintro e x5 ⟨rfl, hb5⟩
      have H5 : Below wc.heap.size wc x5 := (by repeat (first | (with_reducible assumption) | (with_reducible exact Below.refl _ _) | (with_reducible refine Below.alloc ?_ (by first | omega | (simp; omega) | (simp; done) | (dsimp only; omega)) _) | (with_reducible refine Below.setCell ?_ (by first | omega | (simp; omega) | (simp; done) | (dsimp only; omega)) _) | (with_reducible refine Below.drew ?_) | (with_reducible refine Below.trans ?_ (Below.mono (by assumption) (by first | omega | (simp; omega) | (simp; done) | (dsimp only; omega))))))
      obtain ⟨hc5, _⟩ := bcell H5
      have Z5 := H5.size
      clear hc4 hb4 Z4
      rcases hpq with rfl | ⟨rfl, rfl⟩ | ⟨rfl, rfl⟩
      · skip
        go_wp2_with fail
        go_at_call 17
        refine (K8.out _ (by first | exact H5 | exact (by repeat (first | (with_reducible assumption) | (with_reducible exact Below.refl _ _) | (with_reducible refine Below.alloc ?_ (by first | omega | (simp; omega) | (simp; done) | (dsimp only; omega)) _) | (with_reducible refine Below.setCell ?_ (by first | omega | (simp; omega) | (simp; done) | (dsimp only; omega)) _) | (with_reducible refine Below.drew ?_) | (with_reducible refine Below.trans ?_ (Below.mono (by assumption) (by first | omega | (simp; omega) | (simp; done) | (dsimp only; omega)))))))).mono ?_
        rintro e x8 ⟨rfl, hb8⟩
        have H8 : Below wc.heap.size wc x8 := (by repeat (first | (with_reducible assumption) | (with_reducible exact Below.refl _ _) | (with_reducible refine Below.alloc ?_ (by first | omega | (simp; omega) | (simp; done) | (dsimp only; omega)) _) | (with_reducible refine Below.setCell ?_ (by first | omega | (simp; omega) | (simp; done) | (dsimp only; omega)) _) | (with_reducible refine Below.drew ?_) | (with_reducible refine Below.trans ?_ (Below.mono (by assumption) (by first | omega | (simp; omega) | (simp; done) | (dsimp only; omega))))))
        obtain ⟨hc8, _⟩ := bcell H8
        have Z8 := H8.size
        clear hc5 hb5 Z5
        rcases hrs with rfl | ⟨rfl, rfl⟩ | ⟨rfl, rfl⟩
        · skip
          go_wp2
          go_meet
          exact ⟨rfl, (by repeat (first | (with_reducible assumption) | (with_reducible exact Below.refl _ _) | (with_reducible refine Below.alloc ?_ (by first | omega | (simp; omega) | (simp; done) | (dsimp only; omega)) _) | (with_reducible refine Below.setCell ?_ (by first | omega | (simp; omega) | (simp; done) | (dsimp only; omega)) _) | (with_reducible refine Below.drew ?_) | (with_reducible refine Below.trans ?_ (Below.mono (by assumption) (by first | omega | (simp; omega) | (simp; done) | (dsimp only; omega))))))⟩
        · skip
          go_wp2_with fail
          go_at_call 17
          refine (K9.out _ (by first | exact H8 | exact (by repeat (first | (with_reducible assumption) | (with_reducible exact Below.refl _ _) | (with_reducible refine Below.alloc ?_ (by first | omega | (simp; omega) | (simp; done) | (dsimp only; omega)) _) | (with_reducible refine Below.setCell ?_ (by first | omega | (simp; omega) | (simp; done) | (dsimp only; omega)) _) | (with_reducible refine Below.drew ?_) | (with_reducible refine Below.trans ?_ (Below.mono (by assumption) (by first | omega | (simp; omega) | (simp; done) | (dsimp only; omega)))))))).mono ?_
          rintro e x9 ⟨rfl, hb9⟩
          have H9 : Below wc.heap.size wc x9 := (by repeat (first | (with_reducible assumption) | (with_reducible exact Below.refl _ _) | (with_reducible refine Below.alloc ?_ (by first | omega | (simp; omega) | (simp; done) | (dsimp only; omega)) _) | (with_reducible refine Below.setCell ?_ (by first | omega | (simp; omega) | (simp; done) | (dsimp only; omega)) _) | (with_reducible refine Below.drew ?_) | (with_reducible refine Below.trans ?_ (Below.mono (by assumption) (by first | omega | (simp; omega) | (simp; done) | (dsimp only; omega))))))
          obtain ⟨hc9, _⟩ := bcell H9
          have Z9 := H9.size
          clear hc8 hb8 Z8
          go_wp2
          go_meet
          exact ⟨rfl, (by repeat (first | (with_reducible assumption) | (with_reducible exact Below.refl _ _) | (with_reducible refine Below.alloc ?_ (by first | omega | (simp; omega) | (simp; done) | (dsimp only; omega)) _) | (with_reducible refine Below.setCell ?_ (by first | omega | (simp; omega) | (simp; done) | (dsimp only; omega)) _) | (with_reducible refine Below.drew ?_) | (with_reducible refine Below.trans ?_ (Below.mono (by assumption) (by first | omega | (simp; omega) | (simp; done) | (dsimp only; omega))))))⟩
        · skip
          go_wp2_with fail
          go_at_call 17
          refine (K9.out _ (by first | exact H8 | exact (by repeat (first | (with_reducible assumption) | (with_reducible exact Below.refl _ _) | (with_reducible refine Below.alloc ?_ (by first | omega | (simp; omega) | (simp; done) | (dsimp only; omega)) _) | (with_reducible refine Below.setCell ?_ (by first | omega | (simp; omega) | (simp; done) | (dsimp only; omega)) _) | (with_reducible refine Below.drew ?_) | (with_reducible refine Below.trans ?_ (Below.mono (by assumption) (by first | omega | (simp; omega) | (simp; done) | (dsimp only; omega)))))))).mono ?_
          rintro e x9 ⟨rfl, hb9⟩
          have H9 : Below wc.heap.size wc x9 := (by repeat (first | (with_reducible assumption) | (with_reducible exact Below.refl _ _) | (with_reducible refine Below.alloc ?_ (by first | omega | (simp; omega) | (simp; done) | (dsimp only; omega)) _) | (with_reducible refine Below.setCell ?_ (by first | omega | (simp; omega) | (simp; done) | (dsimp only; omega)) _) | (with_reducible refine Below.drew ?_) | (with_reducible refine Below.trans ?_ (Below.mono (by assumption) (by first | omega | (simp; omega) | (simp; done) | (dsimp only; omega))))))
          obtain ⟨hc9, _⟩ := bcell H9
          have Z9 := H9.size
          clear hc8 hb8 Z8
          go_wp2_with fail
          go_at_call 17
          refine (K10.out _ (by first | exact H9 | exact (by repeat (first | (with_reducible assumption) | (with_reducible exact Below.refl _ _) | (with_reducible refine Below.alloc ?_ (by first | omega | (simp; omega) | (simp; done) | (dsimp only; omega)) _) | (with_reducible refine Below.setCell ?_ (by first | omega | (simp; omega) | (simp; done) | (dsimp only; omega)) _) | (with_reducible refine Below.drew ?_) | (with_reducible refine Below.trans ?_ (Below.mono (by assumption) (by first | omega | (simp; omega) | (simp; done) | (dsimp only; omega)))))))).mono ?_
          rintro e x10 ⟨rfl, hb10⟩
          have H10 : Below wc.heap.size wc x10 := (by repeat (first | (with_reducible assumption) | (with_reducible exact Below.refl _ _) | (with_reducible refine Below.alloc ?_ (by first | omega | (simp; omega) | (simp; done) | (dsimp only; omega)) _) | (with_reducible refine Below.setCell ?_ (by first | omega | (simp; omega) | (simp; done) | (dsimp only; omega)) _) | (with_reducible refine Below.drew ?_) | (with_reducible refine Below.trans ?_ (Below.mono (by assumption) (by first | omega | (simp; omega) | (simp; done) | (dsimp only; omega))))))
          obtain ⟨hc10, _⟩ := bcell H10
          have Z10 := H10.size
          clear hc9 hb9 Z9
          go_wp2
          go_meet
          exact ⟨rfl, (by repeat (first | (with_reducible assumption) | (with_reducible exact Below.refl _ _) | (with_reducible refine Below.alloc ?_ (by first | omega | (simp; omega) | (simp; done) | (dsimp only; omega)) _) | (with_reducible refine Below.setCell ?_ (by first | omega | (simp; omega) | (simp; done) | (dsimp only; omega)) _) | (with_reducible refine Below.drew ?_) | (with_reducible refine Below.trans ?_ (Below.mono (by assumption) (by first | omega | (simp; omega) | (simp; done) | (dsimp only; omega))))))⟩
      · skip
        go_wp2_with fail
        go_at_call 17
        refine (K6.out _ (by first | exact H5 | exact (by repeat (first | (with_reducible assumption) | (with_reducible exact Below.refl _ _) | (with_reducible refine Below.alloc ?_ (by first | omega | (simp; omega) | (simp; done) | (dsimp only; omega)) _) | (with_reducible refine Below.setCell ?_ (by first | omega | (simp; omega) | (simp; done) | (dsimp only; omega)) _) | (with_reducible refine Below.drew ?_) | (with_reducible refine Below.trans ?_ (Below.mono (by assumption) (by first | omega | (simp; omega) | (simp; done) | (dsimp only; omega)))))))).mono ?_
        rintro e x6 ⟨rfl, hb6⟩
        have H6 : Below wc.heap.size wc x6 := (by repeat (first | (with_reducible assumption) | (with_reducible exact Below.refl _ _) | (with_reducible refine Below.alloc ?_ (by first | omega | (simp; omega) | (simp; done) | (dsimp only; omega)) _) | (with_reducible refine Below.setCell ?_ (by first | omega | (simp; omega) | (simp; done) | (dsimp only; omega)) _) | (with_reducible refine Below.drew ?_) | (with_reducible refine Below.trans ?_ (Below.mono (by assumption) (by first | omega | (simp; omega) | (simp; done) | (dsimp only; omega))))))
        obtain ⟨hc6, _⟩ := bcell H6
        have Z6 := H6.size
        clear hc5 hb5 Z5
        go_wp2_with fail
        go_at_call 17
        refine (K8.out _ (by first | exact H6 | exact (by repeat (first | (with_reducible assumption) | (with_reducible exact Below.refl _ _) | (with_reducible refine Below.alloc ?_ (by first | omega | (simp; omega) | (simp; done) | (dsimp only; omega)) _) | (with_reducible refine Below.setCell ?_ (by first | omega | (simp; omega) | (simp; done) | (dsimp only; omega)) _) | (with_reducible refine Below.drew ?_) | (with_reducible refine Below.trans ?_ (Below.mono (by assumption) (by first | omega | (simp; omega) | (simp; done) | (dsimp only; omega)))))))).mono ?_
        rintro e x8 ⟨rfl, hb8⟩
        have H8 : Below wc.heap.size wc x8 := (by repeat (first | (with_reducible assumption) | (with_reducible exact Below.refl _ _) | (with_reducible refine Below.alloc ?_ (by first | omega | (simp; omega) | (simp; done) | (dsimp only; omega)) _) | (with_reducible refine Below.setCell ?_ (by first | omega | (simp; omega) | (simp; done) | (dsimp only; omega)) _) | (with_reducible refine Below.drew ?_) | (with_reducible refine Below.trans ?_ (Below.mono (by assumption) (by first | omega | (simp; omega) | (simp; done) | (dsimp only; omega))))))
        obtain ⟨hc8, _⟩ := bcell H8
        have Z8 := H8.size
        clear hc6 hb6 Z6
        rcases hrs with rfl | ⟨rfl, rfl⟩ | ⟨rfl, rfl⟩
        · skip
          go_wp2
          go_meet
          exact ⟨rfl, (by repeat (first | (with_reducible assumption) | (with_reducible exact Below.refl _ _) | (with_reducible refine Below.alloc ?_ (by first | omega | (simp; omega) | (simp; done) | (dsimp only; omega)) _) | (with_reducible refine Below.setCell ?_ (by first | omega | (simp; omega) | (simp; done) | (dsimp only; omega)) _) | (with_reducible refine Below.drew ?_) | (with_reducible refine Below.trans ?_ (Below.mono (by assumption) (by first | omega | (simp; omega) | (simp; done) | (dsimp only; omega))))))⟩
        · skip
          go_wp2_with fail
          go_at_call 17
          refine (K9.out _ (by first | exact H8 | exact (by repeat (first | (with_reducible assumption) | (with_reducible exact Below.refl _ _) | (with_reducible refine Below.alloc ?_ (by first | omega | (simp; omega) | (simp; done) | (dsimp only; omega)) _) | (with_reducible refine Below.setCell ?_ (by first | omega | (simp; omega) | (simp; done) | (dsimp only; omega)) _) | (with_reducible refine Below.drew ?_) | (with_reducible refine Below.trans ?_ (Below.mono (by assumption) (by first | omega | (simp; omega) | (simp; done) | (dsimp only; omega)))))))).mono ?_
          rintro e x9 ⟨rfl, hb9⟩
          have H9 : Below wc.heap.size wc x9 := (by repeat (first | (with_reducible assumption) | (with_reducible exact Below.refl _ _) | (with_reducible refine Below.alloc ?_ (by first | omega | (simp; omega) | (simp; done) | (dsimp only; omega)) _) | (with_reducible refine Below.setCell ?_ (by first | omega | (simp; omega) | (simp; done) | (dsimp only; omega)) _) | (with_reducible refine Below.drew ?_) | (with_reducible refine Below.trans ?_ (Below.mono (by assumption) (by first | omega | (simp; omega) | (simp; done) | (dsimp only; omega))))))
          obtain ⟨hc9, _⟩ := bcell H9
          have Z9 := H9.size
          clear hc8 hb8 Z8
          go_wp2
          go_meet
          exact ⟨rfl, (by repeat (first | (with_reducible assumption) | (with_reducible exact Below.refl _ _) | (with_reducible refine Below.alloc ?_ (by first | omega | (simp; omega) | (simp; done) | (dsimp only; omega)) _) | (with_reducible refine Below.setCell ?_ (by first | omega | (simp; omega) | (simp; done) | (dsimp only; omega)) _) | (with_reducible refine Below.drew ?_) | (with_reducible refine Below.trans ?_ (Below.mono (by assumption) (by first | omega | (simp; omega) | (simp; done) | (dsimp only; omega))))))⟩
        · skip
          go_wp2_with fail
          go_at_call 17
          refine (K9.out _ (by first | exact H8 | exact (by repeat (first | (with_reducible assumption) | (with_reducible exact Below.refl _ _) | (with_reducible refine Below.alloc ?_ (by first | omega | (simp; omega) | (simp; done) | (dsimp only; omega)) _) | (with_reducible refine Below.setCell ?_ (by first | omega | (simp; omega) | (simp; done) | (dsimp only; omega)) _) | (with_reducible refine Below.drew ?_) | (with_reducible refine Below.trans ?_ (Below.mono (by assumption) (by first | omega | (simp; omega) | (simp; done) | (dsimp only; omega)))))))).mono ?_
          rintro e x9 ⟨rfl, hb9⟩
          have H9 : Below wc.heap.size wc x9 := (by repeat (first | (with_reducible assumption) | (with_reducible exact Below.refl _ _) | (with_reducible refine Below.alloc ?_ (by first | omega | (simp; omega) | (simp; done) | (dsimp only; omega)) _) | (with_reducible refine Below.setCell ?_ (by first | omega | (simp; omega) | (simp; done) | (dsimp only; omega)) _) | (with_reducible refine Below.drew ?_) | (with_reducible refine Below.trans ?_ (Below.mono (by assumption) (by first | omega | (simp; omega) | (simp; done) | (dsimp only; omega))))))
          obtain ⟨hc9, _⟩ := bcell H9
          have Z9 := H9.size
          clear hc8 hb8 Z8
          go_wp2_with fail
          go_at_call 17
          refine (K10.out _ (by first | exact H9 | exact (by repeat (first | (with_reducible assumption) | (with_reducible exact Below.refl _ _) | (with_reducible refine Below.alloc ?_ (by first | omega | (simp; omega) | (simp; done) | (dsimp only; omega)) _) | (with_reducible refine Below.setCell ?_ (by first | omega | (simp; omega) | (simp; done) | (dsimp only; omega)) _) | (with_reducible refine Below.drew ?_) | (with_reducible refine Below.trans ?_ (Below.mono (by assumption) (by first | omega | (simp; omega) | (simp; done) | (dsimp only; omega)))))))).mono ?_
          rintro e x10 ⟨rfl, hb10⟩
          have H10 : Below wc.heap.size wc x10 := (by repeat (first | (with_reducible assumption) | (with_reducible exact Below.refl _ _) | (with_reducible refine Below.alloc ?_ (by first | omega | (simp; omega) | (simp; done) | (dsimp only; omega)) _) | (with_reducible refine Below.setCell ?_ (by first | omega | (simp; omega) | (simp; done) | (dsimp only; omega)) _) | (with_reducible refine Below.drew ?_) | (with_reducible refine Below.trans ?_ (Below.mono (by assumption) (by first | omega | (simp; omega) | (simp; done) | (dsimp only; omega))))))
          obtain ⟨hc10, _⟩ := bcell H10
          have Z10 := H10.size
          clear hc9 hb9 Z9
          go_wp2
          go_meet
          exact ⟨rfl, (by repeat (first | (with_reducible assumption) | (with_reducible exact Below.refl _ _) | (with_reducible refine Below.alloc ?_ (by first | omega | (simp; omega) | (simp; done) | (dsimp only; omega)) _) | (with_reducible refine Below.setCell ?_ (by first | omega | (simp; omega) | (simp; done) | (dsimp only; omega)) _) | (with_reducible refine Below.drew ?_) | (with_reducible refine Below.trans ?_ (Below.mono (by assumption) (by first | omega | (simp; omega) | (simp; done) | (dsimp only; omega))))))⟩
      · skip
        go_wp2_with fail
        go_at_call 17
        refine (K6.out _ (by first | exact H5 | exact (by repeat (first | (with_reducible assumption) | (with_reducible exact Below.refl _ _) | (with_reducible refine Below.alloc ?_ (by first | omega | (simp; omega) | (simp; done) | (dsimp only; omega)) _) | (with_reducible refine Below.setCell ?_ (by first | omega | (simp; omega) | (simp; done) | (dsimp only; omega)) _) | (with_reducible refine Below.drew ?_) | (with_reducible refine Below.trans ?_ (Below.mono (by assumption) (by first | omega | (simp; omega) | (simp; done) | (dsimp only; omega)))))))).mono ?_
        rintro e x6 ⟨rfl, hb6⟩
        have H6 : Below wc.heap.size wc x6 := (by repeat (first | (with_reducible assumption) | (with_reducible exact Below.refl _ _) | (with_reducible refine Below.alloc ?_ (by first | omega | (simp; omega) | (simp; done) | (dsimp only; omega)) _) | (with_reducible refine Below.setCell ?_ (by first | omega | (simp; omega) | (simp; done) | (dsimp only; omega)) _) | (with_reducible refine Below.drew ?_) | (with_reducible refine Below.trans ?_ (Below.mono (by assumption) (by first | omega | (simp; omega) | (simp; done) | (dsimp only; omega))))))
        obtain ⟨hc6, _⟩ := bcell H6
        have Z6 := H6.size
        clear hc5 hb5 Z5
        go_wp2_with fail
        go_at_call 17
        refine (K7.out _ (by first | exact H6 | exact (by repeat (first | (with_reducible assumption) | (with_reducible exact Below.refl _ _) | (with_reducible refine Below.alloc ?_ (by first | omega | (simp; omega) | (simp; done) | (dsimp only; omega)) _) | (with_reducible refine Below.setCell ?_ (by first | omega | (simp; omega) | (simp; done) | (dsimp only; omega)) _) | (with_reducible refine Below.drew ?_) | (with_reducible refine Below.trans ?_ (Below.mono (by assumption) (by first | omega | (simp; omega) | (simp; done) | (dsimp only; omega)))))))).mono ?_
        rintro e x7 ⟨rfl, hb7⟩
        have H7 : Below wc.heap.size wc x7 := (by repeat (first | (with_reducible assumption) | (with_reducible exact Below.refl _ _) | (with_reducible refine Below.alloc ?_ (by first | omega | (simp; omega) | (simp; done) | (dsimp only; omega)) _) | (with_reducible refine Below.setCell ?_ (by first | omega | (simp; omega) | (simp; done) | (dsimp only; omega)) _) | (with_reducible refine Below.drew ?_) | (with_reducible refine Below.trans ?_ (Below.mono (by assumption) (by first | omega | (simp; omega) | (simp; done) | (dsimp only; omega))))))
        obtain ⟨hc7, _⟩ := bcell H7
        have Z7 := H7.size
        clear hc6 hb6 Z6
        go_wp2_with fail
        go_at_call 17
        refine (K8.out _ (by first | exact H7 | exact (by repeat (first | (with_reducible assumption) | (with_reducible exact Below.refl _ _) | (with_reducible refine Below.alloc ?_ (by first | omega | (simp; omega) | (simp; done) | (dsimp only; omega)) _) | (with_reducible refine Below.setCell ?_ (by first | omega | (simp; omega) | (simp; done) | (dsimp only; omega)) _) | (with_reducible refine Below.drew ?_) | (with_reducible refine Below.trans ?_ (Below.mono (by assumption) (by first | omega | (simp; omega) | (simp; done) | (dsimp only; omega)))))))).mono ?_
        rintro e x8 ⟨rfl, hb8⟩
        have H8 : Below wc.heap.size wc x8 := (by repeat (first | (with_reducible assumption) | (with_reducible exact Below.refl _ _) | (with_reducible refine Below.alloc ?_ (by first | omega | (simp; omega) | (simp; done) | (dsimp only; omega)) _) | (with_reducible refine Below.setCell ?_ (by first | omega | (simp; omega) | (simp; done) | (dsimp only; omega)) _) | (with_reducible refine Below.drew ?_) | (with_reducible refine Below.trans ?_ (Below.mono (by assumption) (by first | omega | (simp; omega) | (simp; done) | (dsimp only; omega))))))
        obtain ⟨hc8, _⟩ := bcell H8
        have Z8 := H8.size
        clear hc7 hb7 Z7
        rcases hrs with rfl | ⟨rfl, rfl⟩ | ⟨rfl, rfl⟩
        · skip
          go_wp2
          go_meet
          exact ⟨rfl, (by repeat (first | (with_reducible assumption) | (with_reducible exact Below.refl _ _) | (with_reducible refine Below.alloc ?_ (by first | omega | (simp; omega) | (simp; done) | (dsimp only; omega)) _) | (with_reducible refine Below.setCell ?_ (by first | omega | (simp; omega) | (simp; done) | (dsimp only; omega)) _) | (with_reducible refine Below.drew ?_) | (with_reducible refine Below.trans ?_ (Below.mono (by assumption) (by first | omega | (simp; omega) | (simp; done) | (dsimp only; omega))))))⟩
        · skip
          go_wp2_with fail
          go_at_call 17
          refine (K9.out _ (by first | exact H8 | exact (by repeat (first | (with_reducible assumption) | (with_reducible exact Below.refl _ _) | (with_reducible refine Below.alloc ?_ (by first | omega | (simp; omega) | (simp; done) | (dsimp only; omega)) _) | (with_reducible refine Below.setCell ?_ (by first | omega | (simp; omega) | (simp; done) | (dsimp only; omega)) _) | (with_reducible refine Below.drew ?_) | (with_reducible refine Below.trans ?_ (Below.mono (by assumption) (by first | omega | (simp; omega) | (simp; done) | (dsimp only; omega)))))))).mono ?_
          rintro e x9 ⟨rfl, hb9⟩
          have H9 : Below wc.heap.size wc x9 := (by repeat (first | (with_reducible assumption) | (with_reducible exact Below.refl _ _) | (with_reducible refine Below.alloc ?_ (by first | omega | (simp; omega) | (simp; done) | (dsimp only; omega)) _) | (with_reducible refine Below.setCell ?_ (by first | omega | (simp; omega) | (simp; done) | (dsimp only; omega)) _) | (with_reducible refine Below.drew ?_) | (with_reducible refine Below.trans ?_ (Below.mono (by assumption) (by first | omega | (simp; omega) | (simp; done) | (dsimp only; omega))))))
          obtain ⟨hc9, _⟩ := bcell H9
          have Z9 := H9.size
          clear hc8 hb8 Z8
          go_wp2
          go_meet
          exact ⟨rfl, (by repeat (first | (with_reducible assumption) | (with_reducible exact Below.refl _ _) | (with_reducible refine Below.alloc ?_ (by first | omega | (simp; omega) | (simp; done) | (dsimp only; omega)) _) | (with_reducible refine Below.setCell ?_ (by first | omega | (simp; omega) | (simp; done) | (dsimp only; omega)) _) | (with_reducible refine Below.drew ?_) | (with_reducible refine Below.trans ?_ (Below.mono (by assumption) (by first | omega | (simp; omega) | (simp; done) | (dsimp only; omega))))))⟩
        · skip
          go_wp2_with fail
          go_at_call 17
          refine (K9.out _ (by first | exact H8 | exact (by repeat (first | (with_reducible assumption) | (with_reducible exact Below.refl _ _) | (with_reducible refine Below.alloc ?_ (by first | omega | (simp; omega) | (simp; done) | (dsimp only; omega)) _) | (with_reducible refine Below.setCell ?_ (by first | omega | (simp; omega) | (simp; done) | (dsimp only; omega)) _) | (with_reducible refine Below.drew ?_) | (with_reducible refine Below.trans ?_ (Below.mono (by assumption) (by first | omega | (simp; omega) | (simp; done) | (dsimp only; omega)))))))).mono ?_
          rintro e x9 ⟨rfl, hb9⟩
          have H9 : Below wc.heap.size wc x9 := (by repeat (first | (with_reducible assumption) | (with_reducible exact Below.refl _ _) | (with_reducible refine Below.alloc ?_ (by first | omega | (simp; omega) | (simp; done) | (dsimp only; omega)) _) | (with_reducible refine Below.setCell ?_ (by first | omega | (simp; omega) | (simp; done) | (dsimp only; omega)) _) | (with_reducible refine Below.drew ?_) | (with_reducible refine Below.trans ?_ (Below.mono (by assumption) (by first | omega | (simp; omega) | (simp; done) | (dsimp only; omega))))))
          obtain ⟨hc9, _⟩ := bcell H9
          have Z9 := H9.size
          clear hc8 hb8 Z8
          go_wp2_with fail
          go_at_call 17
          refine (K10.out _ (by first | exact H9 | exact (by repeat (first | (with_reducible assumption) | (with_reducible exact Below.refl _ _) | (with_reducible refine Below.alloc ?_ (by first | omega | (simp; omega) | (simp; done) | (dsimp only; omega)) _) | (with_reducible refine Below.setCell ?_ (by first | omega | (simp; omega) | (simp; done) | (dsimp only; omega)) _) | (with_reducible refine Below.drew ?_) | (with_reducible refine Below.trans ?_ (Below.mono (by assumption) (by first | omega | (simp; omega) | (simp; done) | (dsimp only; omega)))))))).mono ?_
          rintro e x10 ⟨rfl, hb10⟩
          have H10 : Below wc.heap.size wc x10 := (by repeat (first | (with_reducible assumption) | (with_reducible exact Below.refl _ _) | (with_reducible refine Below.alloc ?_ (by first | omega | (simp; omega) | (simp; done) | (dsimp only; omega)) _) | (with_reducible refine Below.setCell ?_ (by first | omega | (simp; omega) | (simp; done) | (dsimp only; omega)) _) | (with_reducible refine Below.drew ?_) | (with_reducible refine Below.trans ?_ (Below.mono (by assumption) (by first | omega | (simp; omega) | (simp; done) | (dsimp only; omega))))))
          obtain ⟨hc10, _⟩ := bcell H10
          have Z10 := H10.size
          clear hc9 hb9 Z9
          go_wp2
          go_meet
          exact ⟨rfl, (by repeat (first | (with_reducible assumption) | (with_reducible exact Below.refl _ _) | (with_reducible refine Below.alloc ?_ (by first | omega | (simp; omega) | (simp; done) | (dsimp only; omega)) _) | (with_reducible refine Below.setCell ?_ (by first | omega | (simp; omega) | (simp; done) | (dsimp only; omega)) _) | (with_reducible refine Below.drew ?_) | (with_reducible refine Below.trans ?_ (Below.mono (by assumption) (by first | omega | (simp; omega) | (simp; done) | (dsimp only; omega))))))⟩
    case rest =>
      obtain ⟨rfl, hb⟩ := hcut
      have hra4 := hraC.mono hb
      have hrb4 := hrbC.mono hb
      have hrc4 := hrcC.mono hb
      have hj4 := r7.mono hb
      have hm4 := r8.mono hb
      have nj4 := n7
      have nm4 := n8
      have a1 := srt_len_le (lb ++ lc)
      have a2 := srt_len_le (la ++ srt (lb ++ lc))
      have a3 := srt_len_le (srt (la ++ lb) ++ lc)
      have a4 := srt_len_le (meetL la (srt (lb ++ lc)))
      have a5 := meetL_len la (srt (lb ++ lc))
      have a6 := srt_len_le (meetL la lc)
      have a7 := meetL_len la lc
      have a8 := srt_len_le (srt (meetL la lb) ++ srt (meetL la lc))
      rw [List.length_append] at a1 a2 a3 a8
      replace q0_0 := (hb.cell (p := ⟨w.heap.size, 0, none⟩) z0).trans q0_0
      replace q0_1 := (hb.cell (p := ⟨w.heap.size, 1, none⟩) z0).trans q0_1
      replace q1_0 := (hb.cell (p := ⟨w.heap.size + 1, 0, none⟩) z1).trans q1_0
      replace q1_1 := (hb.cell (p := ⟨w.heap.size + 1, 1, none⟩) z1).trans q1_1
      replace q2_0 := (hb.cell (p := ⟨w.heap.size + 1 + 1, 0, none⟩) z2).trans q2_0
      replace q2_1 := (hb.cell (p := ⟨w.heap.size + 1 + 1, 1, none⟩) z2).trans q2_1
      replace z0 := Nat.lt_of_lt_of_le z0 hb.size
      replace z1 := Nat.lt_of_lt_of_le z1 hb.size
      replace z2 := Nat.lt_of_lt_of_le z2 hb.size
      replace q7_0 := (hb.cell (p := ⟨b7, 0, none⟩) z7).trans q7_0
      replace q7_1 := (hb.cell (p := ⟨b7, 1, none⟩) z7).trans q7_1
      replace z7 := Nat.lt_of_lt_of_le z7 hb.size
      replace q8_0 := (hb.cell (p := ⟨b8, 0, none⟩) z8).trans q8_0
      replace q8_1 := (hb.cell (p := ⟨b8, 1, none⟩) z8).trans q8_1
      replace z8 := Nat.lt_of_lt_of_le z8 hb.size
      replace HW := HW.trans (hb.mono HW.size)
      clear hb hraC hrbC hrcC r7 r8 n7 n8
      go_upto_region 4 with fail
      refine region_seqg (W := wc) [_, _, _, _, _, _, _, _, _, _, _, _, _, _, _, _, _, _, _, _, _, _, _, _, _, _] [] rfl (by kernel_rfl) (by kernel_rfl) (by repeat (first | (with_reducible assumption) | (with_reducible exact Below.refl _ _) | (with_reducible refine Below.alloc ?_ (by first | omega | (simp; omega) | (simp; done) | (dsimp only; omega)) _) | (with_reducible refine Below.setCell ?_ (by first | omega | (simp; omega) | (simp; done) | (dsimp only; omega)) _) | (with_reducible refine Below.drew ?_) | (with_reducible refine Below.trans ?_ (Below.mono (by assumption) (by first | omega | (simp; omega) | (simp; done) | (dsimp only; omega)))))) (fun fin hfin => ?_)
      iterate 3
        first
          | (refine SeqG.yes (v := ?_) (A' := ?_) rfl (fun γ => by rfl) ?_ ?_ ?_
             rotate_left 2
             · intro γ w' K hS hK
               obtain ⟨hc, hf⟩ := bcell hS
               have hz := hS.size
               go_simp
               first
                 | exact hK.out _ (Below.refl _ _)
                 | (go_at_call 23; (with_reducible refine (law07_lives w').mono ?_); rintro e w1 ⟨rfl, hb1⟩; exact hK.out _ hb1)
                 | trace_state
             · intro γ; simp only [Act.put, List.setIfInBounds_toArray, List.set_cons_zero, List.set_cons_succ]; exact rfl)
          | (refine SeqG.no (A' := ?_) rfl (fun γ => by rfl) ?_ ?_
             rotate_left
             · intro γ; simp only [Act.put, List.setIfInBounds_toArray, List.set_cons_zero, List.set_cons_succ]; exact rfl)
      refine SeqG.make (k := 3) (A' := ?_) (fun g => .agg #[.bool (nb || nc), .slice (gA g) (srt (lb ++ lc)).length (g 2)]) (RSetG (srt (lb ++ lc))) rfl (fun γ => by rfl) (RSetG.stable _) ?_ ?_ ?_
      rotate_left
      · intro γ w' K hS hF hK
        obtain ⟨hc, hf⟩ := bcell hS
        have hz := hS.size
        go_simp
        (go_at_call 13; refine (names_Join nb nc lb lc B C cb cc w' (by omega) hzb hzc (hrb4.mono hS) (hrc4.mono hS)).mono ?_; rintro e w1 ⟨⟨v, rfl, hset⟩, hb1⟩; obtain ⟨g, rfl, hg⟩ := SetV.ghost hset (by omega) (lo := w'.heap.size); exact hK.out g w1 hb1 hg)
      · intro γ; simp only [Act.put, List.setIfInBounds_toArray, List.set_cons_zero, List.set_cons_succ]; exact rfl
      refine SeqG.make (k := 4) (A' := ?_) (fun g => .agg #[.bool (na || (nb || nc)), .slice (gA g) (srt (la ++ srt (lb ++ lc))).length (g 2)]) (RSetG (srt (la ++ srt (lb ++ lc)))) rfl (fun γ => by rfl) (RSetG.stable _) ?_ ?_ ?_
      rotate_left
      · intro γ w' K hS hF hK
        obtain ⟨hc, hf⟩ := bcell hS
        have hz := hS.size
        obtain ⟨_, _, _, _, r3, m3, t3, n3, _⟩ := hF (3, RSetG (srt (lb ++ lc))) (by simp) (reachL_spec (of_decide_eq_true (by kernel_rfl)))
        go_simp
        (go_at_call 13; refine (names_Join na (nb || nc) la (srt (lb ++ lc)) A _ ca _ w' (by omega) hza n3 (hra4.mono hS) r3).mono ?_; rintro e w1 ⟨⟨v, rfl, hset⟩, hb1⟩; obtain ⟨g, rfl, hg⟩ := SetV.ghost hset (by omega) (lo := w'.heap.size); exact hK.out g w1 hb1 hg)
      · intro γ; simp only [Act.put, List.setIfInBounds_toArray, List.set_cons_zero, List.set_cons_succ]; exact rfl
      iterate 2
        first
          | (refine SeqG.yes (v := ?_) (A' := ?_) rfl (fun γ => by rfl) ?_ ?_ ?_
             rotate_left 2
             · intro γ w' K hS hK
               obtain ⟨hc, hf⟩ := bcell hS
               have hz := hS.size
               go_simp
               first
                 | exact hK.out _ (Below.refl _ _)
                 | (go_at_call 23; (with_reducible refine (law07_lives w').mono ?_); rintro e w1 ⟨rfl, hb1⟩; exact hK.out _ hb1)
                 | trace_state
             · intro γ; simp only [Act.put, List.setIfInBounds_toArray, List.set_cons_zero, List.set_cons_succ]; exact rfl)
          | (refine SeqG.no (A' := ?_) rfl (fun γ => by rfl) ?_ ?_
             rotate_left
             · intro γ; simp only [Act.put, List.setIfInBounds_toArray, List.set_cons_zero, List.set_cons_succ]; exact rfl)
      refine SeqG.make (k := 7) (A' := ?_) (fun g => .agg #[.bool (na || nb || nc), .slice (gA g) (srt (srt (la ++ lb) ++ lc)).length (g 2)]) (RSetG (srt (srt (la ++ lb) ++ lc))) rfl (fun γ => by rfl) (RSetG.stable _) ?_ ?_ ?_
      rotate_left
      · intro γ w' K hS hF hK
        obtain ⟨hc, hf⟩ := bcell hS
        have hz := hS.size
        go_simp
        (go_at_call 13; refine (names_Join (na || nb) nc (srt (la ++ lb)) lc A7 C c7 cc w' (by omega) nj4 hzc (hj4.mono hS) (hrc4.mono hS)).mono ?_; rintro e w1 ⟨⟨v, rfl, hset⟩, hb1⟩; obtain ⟨g, rfl, hg⟩ := SetV.ghost hset (by omega) (lo := w'.heap.size); exact hK.out g w1 hb1 hg)
      · intro γ; simp only [Act.put, List.setIfInBounds_toArray, List.set_cons_zero, List.set_cons_succ]; exact rfl
      refine SeqG.make (k := 8) (A' := ?_) (fun _ => .bool true) (fun _ _ _ _ => True) rfl (fun γ => by rfl) (Stable.true) ?_ ?_ ?_
      rotate_left
      · intro γ w' K hS hF hK
        obtain ⟨hc, hf⟩ := bcell hS
        have hz := hS.size
        obtain ⟨_, _, _, _, r4, m4, t4, n4, _⟩ := hF (4, RSetG (srt (la ++ srt (lb ++ lc)))) (by simp) (reachL_spec (of_decide_eq_true (by kernel_rfl)))
        obtain ⟨_, _, _, _, r7, m7, t7, n7, _⟩ := hF (7, RSetG (srt (srt (la ++ lb) ++ lc))) (by simp) (reachL_spec (of_decide_eq_true (by kernel_rfl)))
        go_simp
        (go_at_call 19; refine (same_true _ _ _ _ _ _ _ _ w' (lat_assoc na nb nc la lb lc) (by omega) (by omega) r4 r7).mono ?_; rintro e w1 ⟨rfl, hb1⟩; exact hK.out (fun _ => 0) w1 hb1 trivial)
      · intro γ; simp only [Act.put, List.setIfInBounds_toArray, List.set_cons_zero, List.set_cons_succ]; exact rfl
      iterate 4
        first
          | (refine SeqG.yes (v := ?_) (A' := ?_) rfl (fun γ => by rfl) ?_ ?_ ?_
             rotate_left 2
             · intro γ w' K hS hK
               obtain ⟨hc, hf⟩ := bcell hS
               have hz := hS.size
               go_simp
               first
                 | exact hK.out _ (Below.refl _ _)
                 | (go_at_call 23; (with_reducible refine (law07_lives w').mono ?_); rintro e w1 ⟨rfl, hb1⟩; exact hK.out _ hb1)
                 | trace_state
             · intro γ; simp only [Act.put, List.setIfInBounds_toArray, List.set_cons_zero, List.set_cons_succ]; exact rfl)
          | (refine SeqG.no (A' := ?_) rfl (fun γ => by rfl) ?_ ?_
             rotate_left
             · intro γ; simp only [Act.put, List.setIfInBounds_toArray, List.set_cons_zero, List.set_cons_succ]; exact rfl)
      refine SeqG.make (k := 13) (A' := ?_) (fun g => .agg #[.bool (nb || nc), .slice (gA g) (srt (lb ++ lc)).length (g 2)]) (RSetG (srt (lb ++ lc))) rfl (fun γ => by rfl) (RSetG.stable _) ?_ ?_ ?_
      rotate_left
      · intro γ w' K hS hF hK
        obtain ⟨hc, hf⟩ := bcell hS
        have hz := hS.size
        go_simp
        (go_at_call 13; refine (names_Join nb nc lb lc B C cb cc w' (by omega) hzb hzc (hrb4.mono hS) (hrc4.mono hS)).mono ?_; rintro e w1 ⟨⟨v, rfl, hset⟩, hb1⟩; obtain ⟨g, rfl, hg⟩ := SetV.ghost hset (by omega) (lo := w'.heap.size); exact hK.out g w1 hb1 hg)
      · intro γ; simp only [Act.put, List.setIfInBounds_toArray, List.set_cons_zero, List.set_cons_succ]; exact rfl
      refine SeqG.make (k := 14) (A' := ?_) (fun g => .agg #[.bool (na && (nb || nc)), .slice (gA g) (srt (meetL la (srt (lb ++ lc)))).length (g 2)]) (RSetG (srt (meetL la (srt (lb ++ lc))))) rfl (fun γ => by rfl) (RSetG.stable _) ?_ ?_ ?_
      rotate_left
      · intro γ w' K hS hF hK
        obtain ⟨hc, hf⟩ := bcell hS
        have hz := hS.size
        obtain ⟨_, _, _, _, r13, m13, t13, n13, _⟩ := hF (13, RSetG (srt (lb ++ lc))) (by simp) (reachL_spec (of_decide_eq_true (by kernel_rfl)))
        go_simp
        (go_at_call 15; refine (names_Meet na (nb || nc) la (srt (lb ++ lc)) A _ ca _ w' (by omega) (by omega) (hra4.mono hS) r13).mono ?_; rintro e w1 ⟨⟨v, rfl, hset⟩, hb1⟩; obtain ⟨g, rfl, hg⟩ := SetV.ghost hset (by omega) (lo := w'.heap.size); exact hK.out g w1 hb1 hg)
      · intro γ; simp only [Act.put, List.setIfInBounds_toArray, List.set_cons_zero, List.set_cons_succ]; exact rfl
      iterate 3
        first
          | (refine SeqG.yes (v := ?_) (A' := ?_) rfl (fun γ => by rfl) ?_ ?_ ?_
             rotate_left 2
             · intro γ w' K hS hK
               obtain ⟨hc, hf⟩ := bcell hS
               have hz := hS.size
               go_simp
               first
                 | exact hK.out _ (Below.refl _ _)
                 | (go_at_call 23; (with_reducible refine (law07_lives w').mono ?_); rintro e w1 ⟨rfl, hb1⟩; exact hK.out _ hb1)
                 | trace_state
             · intro γ; simp only [Act.put, List.setIfInBounds_toArray, List.set_cons_zero, List.set_cons_succ]; exact rfl)
          | (refine SeqG.no (A' := ?_) rfl (fun γ => by rfl) ?_ ?_
             rotate_left
             · intro γ; simp only [Act.put, List.setIfInBounds_toArray, List.set_cons_zero, List.set_cons_succ]; exact rfl)
      refine SeqG.make (k := 18) (A' := ?_) (fun g => .agg #[.bool (na && nc), .slice (gA g) (srt (meetL la lc)).length (g 2)]) (RSetG (srt (meetL la lc))) rfl (fun γ => by rfl) (RSetG.stable _) ?_ ?_ ?_
      rotate_left
      · intro γ w' K hS hF hK
        obtain ⟨hc, hf⟩ := bcell hS
        have hz := hS.size
        go_simp
        (go_at_call 15; refine (names_Meet na nc la lc A C ca cc w' (by omega) (by omega) (hra4.mono hS) (hrc4.mono hS)).mono ?_; rintro e w1 ⟨⟨v, rfl, hset⟩, hb1⟩; obtain ⟨g, rfl, hg⟩ := SetV.ghost hset (by omega) (lo := w'.heap.size); exact hK.out g w1 hb1 hg)
      · intro γ; simp only [Act.put, List.setIfInBounds_toArray, List.set_cons_zero, List.set_cons_succ]; exact rfl
      refine SeqG.make (k := 19) (A' := ?_) (fun g => .agg #[.bool (na && nb || na && nc), .slice (gA g) (srt (srt (meetL la lb) ++ srt (meetL la lc))).length (g 2)]) (RSetG (srt (srt (meetL la lb) ++ srt (meetL la lc)))) rfl (fun γ => by rfl) (RSetG.stable _) ?_ ?_ ?_
      rotate_left
      · intro γ w' K hS hF hK
        obtain ⟨hc, hf⟩ := bcell hS
        have hz := hS.size
        obtain ⟨_, _, _, _, r18, m18, t18, n18, _⟩ := hF (18, RSetG (srt (meetL la lc))) (by simp) (reachL_spec (of_decide_eq_true (by kernel_rfl)))
        go_simp
        (go_at_call 13; refine (names_Join (na && nb) (na && nc) (srt (meetL la lb)) (srt (meetL la lc)) A8 _ c8 _ w' (by omega) nm4 n18 (hm4.mono hS) r18).mono ?_; rintro e w1 ⟨⟨v, rfl, hset⟩, hb1⟩; obtain ⟨g, rfl, hg⟩ := SetV.ghost hset (by omega) (lo := w'.heap.size); exact hK.out g w1 hb1 hg)
      · intro γ; simp only [Act.put, List.setIfInBounds_toArray, List.set_cons_zero, List.set_cons_succ]; exact rfl
      refine SeqG.make (k := 20) (A' := ?_) (fun _ => .bool true) (fun _ _ _ _ => True) rfl (fun γ => by rfl) (Stable.true) ?_ ?_ ?_
      rotate_left
      · intro γ w' K hS hF hK
        obtain ⟨hc, hf⟩ := bcell hS
        have hz := hS.size
        obtain ⟨_, _, _, _, r14, m14, t14, n14, _⟩ := hF (14, RSetG (srt (meetL la (srt (lb ++ lc))))) (by simp) (reachL_spec (of_decide_eq_true (by kernel_rfl)))
        obtain ⟨_, _, _, _, r19, m19, t19, n19, _⟩ := hF (19, RSetG (srt (srt (meetL la lb) ++ srt (meetL la lc)))) (by simp) (reachL_spec (of_decide_eq_true (by kernel_rfl)))
        go_simp
        (go_at_call 19; refine (same_true _ _ _ _ _ _ _ _ w' (lat_dist na nb nc la lb lc) (by omega) (by omega) r14 r19).mono ?_; rintro e w1 ⟨rfl, hb1⟩; exact hK.out (fun _ => 0) w1 hb1 trivial)
      · intro γ; simp only [Act.put, List.setIfInBounds_toArray, List.set_cons_zero, List.set_cons_succ]; exact rfl
      iterate 5
        first
          | (refine SeqG.yes (v := ?_) (A' := ?_) rfl (fun γ => by rfl) ?_ ?_ ?_
             rotate_left 2
             · intro γ w' K hS hK
               obtain ⟨hc, hf⟩ := bcell hS
               have hz := hS.size
               go_simp
               first
                 | exact hK.out _ (Below.refl _ _)
                 | (go_at_call 23; (with_reducible refine (law07_lives w').mono ?_); rintro e w1 ⟨rfl, hb1⟩; exact hK.out _ hb1)
                 | trace_state
             · intro γ; simp only [Act.put, List.setIfInBounds_toArray, List.set_cons_zero, List.set_cons_succ]; exact rfl)
          | (refine SeqG.no (A' := ?_) rfl (fun γ => by rfl) ?_ ?_
             rotate_left
             · intro γ; simp only [Act.put, List.setIfInBounds_toArray, List.set_cons_zero, List.set_cons_succ]; exact rfl)
      refine SeqG.nil (hfin.out _ _ ?_)
      clear hfin fin
      intro γ lo hi w1 hB1 hF hD
      clear hF hD
      refine TailL.nil ?_
      go_wp2
      go_ret
      exact ⟨rfl, (by repeat (first | (with_reducible assumption) | (with_reducible exact Below.refl _ _) | (with_reducible refine Below.alloc ?_ (by first | omega | (simp; omega) | (simp; done) | (dsimp only; omega)) _) | (with_reducible refine Below.setCell ?_ (by first | omega | (simp; omega) | (simp; done) | (dsimp only; omega)) _) | (with_reducible refine Below.drew ?_) | (with_reducible refine Below.trans ?_ (Below.mono (by assumption) (by first | omega | (simp; omega) | (simp; done) | (dsimp only; omega))))))⟩
end Go.Proofs.Ytnbpdkcnldeljaa
