/- What the document's own Do of layer 4 returns for quotients, and so for any operator. -/
import Derived.Test.YtdphjfppfngcmaaReckT
import Derived.Test.YtdphjfppfngcmaaAppend
namespace Go.Proofs.Ytdphjfppfngcmaa
open Go.RowKit

theorem WRow.some_cells {w : World} {A : Option Addr} {l : List Int} (h : WRow w A l) (hl : 0 < l.length) : ∃ ad : Addr, A = some ad ∧ ∀ j u, (wcells l)[j]? = some u → w.cell? (ad.add j) = some u := by
  cases A with
  | none => unfold WRow at h; subst h; simp at hl
  | some ad =>
    refine ⟨ad, rfl, ?_⟩
    have key : ∀ (l : List Int) (q : Nat), (∀ i, (hi : i < l.length) → w.cell? (ad.add (q + i * 2)) = some (.int .i64 (hiW l[i])) ∧ w.cell? (ad.add (q + (i * 2 + 1))) = some (.int .u64 (loW l[i]))) → ∀ j u, (wcells l)[j]? = some u → w.cell? (ad.add (q + j)) = some u := by
      intro l
      induction l with
      | nil => intro q _ j u hj; simp [wcells] at hj
      | cons x l ih =>
        intro q hq j u hj
        match j, hj with
        | 0, hj =>
          have := (hq 0 (by simp)).1
          simp [wcells] at hj; subst hj; simpa using this
        | 1, hj =>
          have := (hq 0 (by simp)).2
          simp [wcells] at hj; subst hj; simpa using this
        | j + 2, hj =>
          have := ih (q + 2) (fun i hi => by
            have h2 := hq (i + 1) (by simp; omega)
            rw [show q + 2 + i * 2 = q + (i + 1) * 2 by omega, show q + 2 + (i * 2 + 1) = q + ((i + 1) * 2 + 1) by omega]
            exact h2) j u (by simpa [wcells] using hj)
          rw [show q + (j + 2) = q + 2 + j by omega]
          exact this
    intro j u hj
    have := key l 0 (fun i hi => by
      have h2 := h i hi
      rw [Nat.zero_add, Nat.zero_add]
      exact h2) j u hj
    rw [Nat.zero_add] at this
    exact this
theorem wcells_one : ∀ (l : List Int), ∀ u ∈ wcells l, u.oneCell' = true
  | [], u, h => by simp [wcells] at h
  | x :: l, u, h => by
    simp only [wcells, List.mem_cons] at h
    rcases h with rfl | rfl | h
    · rfl
    · rfl
    · exact wcells_one l u h
theorem wcells_length (l : List Int) : (wcells l).length = l.length * 2 := by
  induction l with
  | nil => rfl
  | cons x l ih => show (wcells l).length + 1 + 1 = _; rw [ih, List.length_cons]; omega
theorem OwnW.app {w : World} {base : Nat} {v : Value} {l m : List Int} (h : w.ownsRow base 31 2 v (l.length + m.length) (wcells l ++ wcells m)) : OwnW w base v (l ++ m) := by
  unfold OwnW
  rw [List.length_append, wcells_append]
  exact h

theorem quoP_len (a s : Sp) : (quoP a s).length ≤ 4 := by unfold quoP; split <;> simp

set_option maxRecDepth 100000 in
set_option maxHeartbeats 4000000 in
theorem r4_do_8 (a b : Sp) (ha : I64 a.lo ∧ I64 a.hi) (hb : I64 b.lo ∧ I64 b.hi) (h : (a.none || b.none) = false) (w : World) :
    Calls Try.prog 8 #[.int .i64 8, .agg #[.bool a.s, .int .i64 a.lo, .int .i64 a.hi], .agg #[.bool b.s, .int .i64 b.lo, .int .i64 b.hi]] w fun e w' => e = .returned (.agg #[.bool (betS (quoL a b 2)).s, .int .i64 (betS (quoL a b 2)).lo, .int .i64 (betS (quoL a b 2)).hi]) ∧ Below w.heap.size w w' := by
  have HA := Lib.hid (r3_None a)
  have HB := Lib.hid (r3_None b)
  rw [Bool.or_eq_false_iff] at h
  rw [h.1] at HA
  rw [h.2] at HB
  clear h
  have HM1 := Lib.hid (r3_make (-9223372036854775808) (-1))
  have HM2 := Lib.hid (r3_make 1 9223372036854775807)
  have HP1 : Hid (∀ w, Calls Try.prog 32 #[.agg #[.bool b.s, .int .i64 b.lo, .int .i64 b.hi], .agg #[.bool (Sp.of (-9223372036854775808) (-1)).s, .int .i64 (Sp.of (-9223372036854775808) (-1)).lo, .int .i64 (Sp.of (-9223372036854775808) (-1)).hi]] w fun e w' => e = .returned (.agg #[.bool (lowP b).s, .int .i64 (lowP b).lo, .int .i64 (lowP b).hi]) ∧ Below w.heap.size w w') := Lib.hid (r3_meet b _)
  have HP2 : Hid (∀ w, Calls Try.prog 32 #[.agg #[.bool b.s, .int .i64 b.lo, .int .i64 b.hi], .agg #[.bool (Sp.of 1 9223372036854775807).s, .int .i64 (Sp.of 1 9223372036854775807).lo, .int .i64 (Sp.of 1 9223372036854775807).hi]] w fun e w' => e = .returned (.agg #[.bool (highP b).s, .int .i64 (highP b).lo, .int .i64 (highP b).hi]) ∧ Below w.heap.size w w') := Lib.hid (r3_meet b _)
  generalize Sp.of (-9223372036854775808) (-1) = o1 at *
  generalize Sp.of 1 9223372036854775807 = o2 at *
  have eQ : quoL a b 2 = quoP a (lowP b) ++ quoP a (highP b) := rfl
  have iL := lowP_in hb
  have iG := highP_in hb
  generalize quoL a b 2 = Q at *
  generalize lowP b = L at *
  generalize highP b = G at *
  have HN1 := Lib.hid (r3_None L)
  have HN2 := Lib.hid (r3_None G)
  go_enter Try.func8, Try.ntmps8
  go_upto_region 1 with fail
  generalize hW : (((w.alloc (.cells #[.bool a.s, .int .i64 a.lo, .int .i64 a.hi] 23)).alloc (.cells #[.bool b.s, .int .i64 b.lo, .int .i64 b.hi] 23)).alloc (.cells #[.bool false, .int .i64 0, .int .i64 0] 23)) = W
  have q0_0 : W.cell? ⟨w.heap.size, 0, none⟩ = some (.bool a.s) := by rw [← hW]; simp [go_sem]
  have q0_1 : W.cell? ⟨w.heap.size, 1, none⟩ = some (.int .i64 a.lo) := by rw [← hW]; simp [go_sem]
  have q0_2 : W.cell? ⟨w.heap.size, 2, none⟩ = some (.int .i64 a.hi) := by rw [← hW]; simp [go_sem]
  have q1_0 : W.cell? ⟨w.heap.size + 1, 0, none⟩ = some (.bool b.s) := by rw [← hW]; simp [go_sem]
  have q1_1 : W.cell? ⟨w.heap.size + 1, 1, none⟩ = some (.int .i64 b.lo) := by rw [← hW]; simp [go_sem]
  have q1_2 : W.cell? ⟨w.heap.size + 1, 2, none⟩ = some (.int .i64 b.hi) := by rw [← hW]; simp [go_sem]
  have q2_0 : W.cell? ⟨w.heap.size + 1 + 1, 0, none⟩ = some (.bool false) := by rw [← hW]; simp [go_sem]
  have q2_1 : W.cell? ⟨w.heap.size + 1 + 1, 1, none⟩ = some (.int .i64 0) := by rw [← hW]; simp [go_sem]
  have q2_2 : W.cell? ⟨w.heap.size + 1 + 1, 2, none⟩ = some (.int .i64 0) := by rw [← hW]; simp [go_sem]
  have f0 : ∀ o, W.frozen? ⟨w.heap.size, o, none⟩ = false := by intro o; rw [← hW]; simp [go_sem]
  have f1 : ∀ o, W.frozen? ⟨w.heap.size + 1, o, none⟩ = false := by intro o; rw [← hW]; simp [go_sem]
  have f2 : ∀ o, W.frozen? ⟨w.heap.size + 1 + 1, o, none⟩ = false := by intro o; rw [← hW]; simp [go_sem]
  have z0 : w.heap.size < W.heap.size := by rw [← hW]; first | (simp; done) | (simp; omega)
  have z1 : w.heap.size + 1 < W.heap.size := by rw [← hW]; first | (simp; done) | (simp; omega)
  have z2 : w.heap.size + 1 + 1 < W.heap.size := by rw [← hW]; first | (simp; done) | (simp; omega)
  have HW : Below w.heap.size w W := by rw [← hW]; exact (by repeat (first | (with_reducible assumption) | (with_reducible exact Below.refl _ _) | (with_reducible refine Below.alloc ?_ (by first | omega | (simp; omega) | (simp; done) | (dsimp only; omega)) _) | (with_reducible refine Below.setCell ?_ (by first | omega | (simp; omega) | (simp; done) | (dsimp only; omega)) _) | (with_reducible refine Below.drew ?_) | (with_reducible refine Below.trans ?_ (Below.mono (by assumption) (by first | omega | (simp; omega) | (simp; done) | (dsimp only; omega))))))
  clear hW
  clear f0 f1
  go_upto_region 10 with (first | (go_at_call 16; (with_reducible refine (HA.out _).mono ?_); rintro e w1 ⟨rfl, hb1⟩; obtain ⟨hc1, hf1⟩ := bcell hb1; have hz1 := hb1.size; (try simp at hz1); (try have hy1 := Nat.lt_of_succ_le hz1); (try have hv1 := Nat.lt_of_succ_lt hy1); (try have hw10 : w.heap.size < w1.heap.size := by omega); (try have hw11 : w.heap.size + 1 < w1.heap.size := by omega); (try have hw12 : w.heap.size + 1 + 1 < w1.heap.size := by omega); (try have hw13 : w.heap.size + 1 + 1 + 1 < w1.heap.size := by omega); (try have hx1_0 : w.heap.size < w1.heap.size := by omega); (try have hx1_1 : w.heap.size + 1 < w1.heap.size := by omega); (try have hx1_2 : w.heap.size + 1 + 1 < w1.heap.size := by omega)) | (go_at_call 16; (with_reducible refine (HB.out _).mono ?_); rintro e w2 ⟨rfl, hb2⟩; obtain ⟨hc2, hf2⟩ := bcell hb2; have hz2 := hb2.size; (try simp at hz2); (try have hy2 := Nat.lt_of_succ_le hz2); (try have hv2 := Nat.lt_of_succ_lt hy2); (try have hw20 : w.heap.size < w2.heap.size := by omega); (try have hw21 : w.heap.size + 1 < w2.heap.size := by omega); (try have hw22 : w.heap.size + 1 + 1 < w2.heap.size := by omega); (try have hw23 : w.heap.size + 1 + 1 + 1 < w2.heap.size := by omega); (try have hx2_0 : w.heap.size < w2.heap.size := by omega); (try have hx2_1 : w.heap.size + 1 < w2.heap.size := by omega); (try have hx2_2 : w.heap.size + 1 + 1 < w2.heap.size := by omega)))
  have hY := hb1.trans (hb2.mono hz1)
  have HWY := HW.trans (hY.mono HW.size)
  replace f2 := fun o => (hY.frozen (p := ⟨w.heap.size + 1 + 1, o, none⟩) z2).trans (f2 o)
  replace q0_0 := (hY.cell (p := ⟨w.heap.size, 0, none⟩) z0).trans q0_0
  replace q0_1 := (hY.cell (p := ⟨w.heap.size, 1, none⟩) z0).trans q0_1
  replace q0_2 := (hY.cell (p := ⟨w.heap.size, 2, none⟩) z0).trans q0_2
  replace q1_0 := (hY.cell (p := ⟨w.heap.size + 1, 0, none⟩) z1).trans q1_0
  replace q1_1 := (hY.cell (p := ⟨w.heap.size + 1, 1, none⟩) z1).trans q1_1
  replace q1_2 := (hY.cell (p := ⟨w.heap.size + 1, 2, none⟩) z1).trans q1_2
  replace q2_0 := (hY.cell (p := ⟨w.heap.size + 1 + 1, 0, none⟩) z2).trans q2_0
  replace q2_1 := (hY.cell (p := ⟨w.heap.size + 1 + 1, 1, none⟩) z2).trans q2_1
  replace q2_2 := (hY.cell (p := ⟨w.heap.size + 1 + 1, 2, none⟩) z2).trans q2_2
  replace z0 := Nat.lt_of_lt_of_le z0 hY.size
  replace z1 := Nat.lt_of_lt_of_le z1 hY.size
  replace z2 := Nat.lt_of_lt_of_le z2 hY.size
  clear hc1 hf1 hb1 hz1 hc2 hf2 hb2 hz2 HW hY HA HB hw10 hw11 hw12 hw20 hw21 hw22
  generalize w2 = Y at *
  refine region_seqg (W := Y) [_, _, _, _, _, _, _, _] [_, _] rfl (by kernel_rfl) (by kernel_rfl) (by repeat (first | (with_reducible assumption) | (with_reducible exact Below.refl _ _) | (with_reducible refine Below.alloc ?_ (by first | omega | (simp; omega) | (simp; done) | (dsimp only; omega)) _) | (with_reducible refine Below.setCell ?_ (by first | omega | (simp; omega) | (simp; done) | (dsimp only; omega)) _) | (with_reducible refine Below.drew ?_) | (with_reducible refine Below.trans ?_ (Below.mono (by assumption) (by first | omega | (simp; omega) | (simp; done) | (dsimp only; omega)))))) (fun fin hfin => ?_)
  iterate 6
    first
      | (refine SeqG.yes (v := ?_) (A' := ?_) rfl (fun γ => by rfl) ?_ ?_ ?_
         rotate_left 2
         · intro γ w' K hS hK
           obtain ⟨hc, hf⟩ := bcell hS
           have hz := hS.size
           go_simp
           first
             | exact hK.out _ (Below.refl _ _)
             | (go_at_call 24; (with_reducible refine (HM1.out _).mono ?_); rintro e w1 ⟨rfl, hb1⟩; exact hK.out _ hb1)
             | (go_at_call 24; (with_reducible refine (HM2.out _).mono ?_); rintro e w1 ⟨rfl, hb1⟩; exact hK.out _ hb1)
             | (go_at_call 32; (with_reducible refine (HP1.out _).mono ?_); rintro e w1 ⟨rfl, hb1⟩; exact hK.out _ hb1)
             | (go_at_call 32; (with_reducible refine (HP2.out _).mono ?_); rintro e w1 ⟨rfl, hb1⟩; exact hK.out _ hb1)
             | trace_state
         · intro γ; simp only [Act.put, List.setIfInBounds_toArray, List.set_cons_zero, List.set_cons_succ]; exact rfl)
      | (refine SeqG.no (A' := ?_) rfl (fun γ => by rfl) ?_ ?_
         rotate_left
         · intro γ; simp only [Act.put, List.setIfInBounds_toArray, List.set_cons_zero, List.set_cons_succ]; exact rfl)
  refine SeqG.make (k := 6) (A' := ?_) (fun g => .pointer (some ⟨g 0, 0, none⟩)) (RCell #[.bool false, .int .i64 0, .int .i64 0] 23) rfl (fun γ => by rfl) (RCell.stable _ _) ?_ ?_ ?_
  rotate_left
  · intro γ w' K hS _ hK
    have hm := RCell.made (#[.bool false, .int .i64 0, .int .i64 0]) (23) w'
    have HK := Lib.hid (hK.out (fun _ => w'.heap.size) (w'.alloc (.cells #[.bool false, .int .i64 0, .int .i64 0] 23)) ((Below.refl _ _).alloc (Nat.le_refl _) _) hm); clear hK hm
    go_simp
    exact HK.out
  · intro γ; simp only [Act.put, List.setIfInBounds_toArray, List.set_cons_zero, List.set_cons_succ]; exact rfl
  refine SeqG.make (k := 7) (A' := ?_) (fun g => .pointer (some ⟨g 0, 0, none⟩)) (RCell #[.bool false, .int .i64 0, .int .i64 0] 23) rfl (fun γ => by rfl) (RCell.stable _ _) ?_ ?_ ?_
  rotate_left
  · intro γ w' K hS _ hK
    have hm := RCell.made (#[.bool false, .int .i64 0, .int .i64 0]) (23) w'
    have HK := Lib.hid (hK.out (fun _ => w'.heap.size) (w'.alloc (.cells #[.bool false, .int .i64 0, .int .i64 0] 23)) ((Below.refl _ _).alloc (Nat.le_refl _) _) hm); clear hK hm
    go_simp
    exact HK.out
  · intro γ; simp only [Act.put, List.setIfInBounds_toArray, List.set_cons_zero, List.set_cons_succ]; exact rfl
  refine SeqG.nil (hfin.out _ _ ?_)
  clear hfin fin
  intro γ lo hi w1 hB1 hF hD
  replace hF := listF2 hF
  dsimp only at hF
  replace hD := listD2 hD
  dsimp only at hD
  replace hD := hD (by decide)
  obtain ⟨⟨y6, x6, t6, o6, p6, h6⟩, ⟨y7, x7, t7, o7, p7, h7⟩⟩ := hF
  have hne : γ 6 0 ≠ γ 7 0 := by omega
  have w6 : Y.heap.size ≤ γ 6 0 := by omega
  have w7 : Y.heap.size ≤ γ 7 0 := by omega
  clear y6 x6 t6 o6 p6 y7 x7 t7 o7 p7 hD
  generalize γ 6 0 = B6 at *
  generalize γ 7 0 = B7 at *
  have K6 := Lib.hid h6
  have K7 := Lib.hid h7
  have g6 := blk_cell h6
  have g7 := blk_cell h7
  have f6 := blk_free h6
  have f7 := blk_free h7
  have c6 := blk_lt h6
  have c7 := blk_lt h7
  clear h6 h7
  have hne2 : ¬ B7 = B6 := fun e => hne e.symm
  refine TailL.cons (fun K hK => ?_)
  go_simp
  refine hK.out _ _ ?_
  clear hK K
  refine TailL.cons (fun K hK => ?_)
  go_simp
  refine hK.out _ _ ?_
  clear hK K
  refine TailL.nil ?_
  generalize hX : (((((w1.setCell ⟨B6, 0, none⟩ (.bool L.s)).setCell ⟨B6, 1, none⟩ (.int .i64 L.lo)).setCell ⟨B6, 2, none⟩ (.int .i64 L.hi)).setCell ⟨B7, 0, none⟩ (.bool G.s)).setCell ⟨B7, 1, none⟩ (.int .i64 G.lo)).setCell ⟨B7, 2, none⟩ (.int .i64 G.hi) = X
  have HX : Below Y.heap.size Y X := by rw [← hX]; exact (by repeat (first | (with_reducible assumption) | (with_reducible exact Below.refl _ _) | (with_reducible refine Below.alloc ?_ (by first | omega | (simp; omega) | (simp; done) | (dsimp only; omega)) _) | (with_reducible refine Below.setCell ?_ (by first | omega | (simp; omega) | (simp; done) | (dsimp only; omega)) _) | (with_reducible refine Below.drew ?_) | (with_reducible refine Below.trans ?_ (Below.mono (by assumption) (by first | omega | (simp; omega) | (simp; done) | (dsimp only; omega))))))
  have k6 : X.heap[B6]? = some (.cells #[.bool L.s, .int .i64 L.lo, .int .i64 L.hi] 23) := by
    rw [← hX]
    iterate 3 (refine (Below.heap_setCell _ _ _ _ (by dsimp only; omega)).trans ?_)
    exact blk_set3 K6.out
  have k7 : X.heap[B7]? = some (.cells #[.bool G.s, .int .i64 G.lo, .int .i64 G.hi] 23) := by
    rw [← hX]
    refine blk_set3 (c0 := .bool false) (c1 := .int .i64 0) (c2 := .int .i64 0) ?_
    iterate 3 (refine (Below.heap_setCell _ _ _ _ (by dsimp only; omega)).trans ?_)
    exact K7.out
  have HWX := HWY.trans (HX.mono HWY.size)
  replace f2 := fun o => (HX.frozen (p := ⟨w.heap.size + 1 + 1, o, none⟩) z2).trans (f2 o)
  replace q0_0 := (HX.cell (p := ⟨w.heap.size, 0, none⟩) z0).trans q0_0
  replace q0_1 := (HX.cell (p := ⟨w.heap.size, 1, none⟩) z0).trans q0_1
  replace q0_2 := (HX.cell (p := ⟨w.heap.size, 2, none⟩) z0).trans q0_2
  replace q1_0 := (HX.cell (p := ⟨w.heap.size + 1, 0, none⟩) z1).trans q1_0
  replace q1_1 := (HX.cell (p := ⟨w.heap.size + 1, 1, none⟩) z1).trans q1_1
  replace q1_2 := (HX.cell (p := ⟨w.heap.size + 1, 2, none⟩) z1).trans q1_2
  replace q2_0 := (HX.cell (p := ⟨w.heap.size + 1 + 1, 0, none⟩) z2).trans q2_0
  replace q2_1 := (HX.cell (p := ⟨w.heap.size + 1 + 1, 1, none⟩) z2).trans q2_1
  replace q2_2 := (HX.cell (p := ⟨w.heap.size + 1 + 1, 2, none⟩) z2).trans q2_2
  replace z0 := Nat.lt_of_lt_of_le z0 HX.size
  replace z1 := Nat.lt_of_lt_of_le z1 HX.size
  replace z2 := Nat.lt_of_lt_of_le z2 HX.size
  clear hX HX HWY K6 K7 g6 g7 f6 f7 c6 c7 hB1 hne hne2 w6 w7
  obtain ⟨i0, gi, gz0, gz1, gz2⟩ := info_parts info_wide
  have c6 := blk_lt k6
  have c7 := blk_lt k7
  have a60 := blk_cell k6 0
  have a61 := blk_cell k6 1
  have a62 := blk_cell k6 2
  have a70 := blk_cell k7 0
  have a71 := blk_cell k7 1
  have a72 := blk_cell k7 2
  simp only [List.getElem?_toArray, List.getElem?_cons_zero, List.getElem?_cons_succ] at a60 a61 a62 a70 a71 a72
  clear k6 k7
  go_upto_if 47 with (go_at_call 16; (with_reducible refine (HN1.out _).mono ?_); rintro e w2 ⟨rfl, hb2⟩; obtain ⟨hc2, hf2⟩ := bcell hb2; have hz2 := hb2.size; (try simp at hz2); (try have hy2 := Nat.lt_of_succ_le hz2); (try have hv2 := Nat.lt_of_succ_lt hy2); (try have hw20 : w.heap.size < w2.heap.size := by omega); (try have hw21 : w.heap.size + 1 < w2.heap.size := by omega); (try have hw22 : w.heap.size + 1 + 1 < w2.heap.size := by omega); (try have hw23 : w.heap.size + 1 + 1 + 1 < w2.heap.size := by omega); (try have hx2_0 : w.heap.size < w2.heap.size := by omega); (try have hx2_1 : w.heap.size + 1 + 1 < w2.heap.size := by omega); (try have hx2_2 : B6 < w2.heap.size := by omega); (try have hx2_3 : B7 < w2.heap.size := by omega))
  go_cut [7] (fun s7 wx => OwnW wx X.heap.size s7 (quoP a L) ∧ Below X.heap.size X wx)
  case first =>
    cases hn : L.none
    · obtain ⟨n1, n2, n3, n4⟩ := iL hn
      have eL : quoP a L = cor4 8 a.lo a.hi L.lo L.hi := by unfold quoP; rw [if_neg (by rw [hn]; decide)]; rfl
      have HC := Lib.hid (r4_corners 8 a L ha ⟨n1, n2⟩ ⟨fun _ => n3, fun _ => n4⟩)
      have hown0 : OwnW w2 X.heap.size (.slice none 0 0) ([]) := OwnW.nil _ _
      go_wp2_with fail
      go_at_call 31
      refine (HC.out _).mono ?_
      rintro e w3 ⟨⟨A, cp, rfl, hcp1, hcp2, hrow⟩, hb3⟩
      have hbz3 := hb3.size
      obtain ⟨ad, eA, hnews⟩ := hrow.some_cells (by show 0 < 4; omega)
      subst eA
      have hown := hown0.mono hb3
      have hB3 : Below X.heap.size X w3 := (by repeat (first | (with_reducible assumption) | (with_reducible exact Below.refl _ _) | (with_reducible refine Below.alloc ?_ (by first | omega | (simp; omega) | (simp; done) | (dsimp only; omega)) _) | (with_reducible refine Below.setCell ?_ (by first | omega | (simp; omega) | (simp; done) | (dsimp only; omega)) _) | (with_reducible refine Below.drew ?_) | (with_reducible refine Below.trans ?_ (Below.mono (by assumption) (by first | omega | (simp; omega) | (simp; done) | (dsimp only; omega))))))
      have hB3s := hB3.size
      have hls := hown.lt
      clear hown0 hb3 hrow HC
      go_wp2_with (at_builtin; refine wpList_append_own_at _ rfl _ _ 50 rfl X.heap.size 31 i0 _ 2 16 Try.underlying50 gi gz0 gz1 gz2 rfl (by decide) _ _ _ rfl hown ad 4 cp (wcells (cor4 8 a.lo a.hi L.lo L.hi)) rfl (wcells_length _) hnews (wcells_one _) ?c3 ?c4 ?c5 ?_)
      case c3 => show 0 + 4 ≤ maxLen; unfold maxLen; omega
      case c4 => show (0 + 4) * 16 ≤ 140737488355328; omega
      case c5 => exact hB3s
      intro v' w' hown' hgrow _ hblk
      have hN : OwnW w' X.heap.size v' ([] ++ quoP a L) := by rw [eL]; exact OwnW.app hown'
      have hNB : Below X.heap.size X w' := hB3.grown hgrow (by omega) (fun k e => (hls k e).1)
      clear hown hown' hgrow hblk hB3 hnews
      go_wp2
      go_meet
      exact ⟨by simpa using hN, hNB⟩
    · have eL : quoP a L = [] := by unfold quoP; rw [if_pos hn]
      go_wp2
      go_meet
      exact ⟨by rw [eL]; exact OwnW.nil _ _, (by repeat (first | (with_reducible assumption) | (with_reducible exact Below.refl _ _) | (with_reducible refine Below.alloc ?_ (by first | omega | (simp; omega) | (simp; done) | (dsimp only; omega)) _) | (with_reducible refine Below.setCell ?_ (by first | omega | (simp; omega) | (simp; done) | (dsimp only; omega)) _) | (with_reducible refine Below.drew ?_) | (with_reducible refine Below.trans ?_ (Below.mono (by assumption) (by first | omega | (simp; omega) | (simp; done) | (dsimp only; omega))))))⟩
  case rest =>
    clear hb2 hc2 hf2 hz2 hx2_0 hx2_1 hx2_2 hx2_3
    obtain ⟨hown1, hBX⟩ := hcut
    obtain ⟨hcx, hfx⟩ := bcell hBX
    have hzx := hBX.size
    have q00 := (hcx _ 0 z0).trans q0_0
    have q01 := (hcx _ 1 z0).trans q0_1
    have q02 := (hcx _ 2 z0).trans q0_2
    have q20 := (hcx _ 0 z2).trans q2_0
    have q21 := (hcx _ 1 z2).trans q2_1
    have q22 := (hcx _ 2 z2).trans q2_2
    have b70 := (hcx _ 0 c7).trans a70
    have b71 := (hcx _ 1 c7).trans a71
    have b72 := (hcx _ 2 c7).trans a72
    have y0 : w.heap.size < wc.heap.size := by omega
    have y2 : w.heap.size + 1 + 1 < wc.heap.size := by omega
    have y7 : B7 < wc.heap.size := by omega
    clear hcx hfx
    go_upto_if 56 with (go_at_call 16; (with_reducible refine (HN2.out _).mono ?_); rintro e w3 ⟨rfl, hb3⟩; obtain ⟨hc3, hf3⟩ := bcell hb3; have hz3 := hb3.size; (try simp at hz3); (try have hy3 := Nat.lt_of_succ_le hz3); (try have hv3 := Nat.lt_of_succ_lt hy3); (try have hw30 : w.heap.size < w3.heap.size := by omega); (try have hw31 : w.heap.size + 1 < w3.heap.size := by omega); (try have hw32 : w.heap.size + 1 + 1 < w3.heap.size := by omega); (try have hw33 : w.heap.size + 1 + 1 + 1 < w3.heap.size := by omega); (try have hx3_0 : w.heap.size < w3.heap.size := by omega); (try have hx3_1 : w.heap.size + 1 + 1 < w3.heap.size := by omega); (try have hx3_2 : B7 < w3.heap.size := by omega))
    go_cut [7] (fun s7 wx => OwnW wx X.heap.size s7 (quoP a L ++ quoP a G) ∧ Below X.heap.size X wx)
    case first =>
      cases hn : G.none
      · obtain ⟨n1, n2, n3, n4⟩ := iG hn
        have eL : quoP a G = cor4 8 a.lo a.hi G.lo G.hi := by unfold quoP; rw [if_neg (by rw [hn]; decide)]; rfl
        have HC := Lib.hid (r4_corners 8 a G ha ⟨n1, n2⟩ ⟨fun _ => n3, fun _ => n4⟩)
        have hown0 : OwnW w3 X.heap.size u7 (quoP a L) := hown1.mono hb3
        go_wp2_with fail
        go_at_call 31
        refine (HC.out _).mono ?_
        rintro e w4 ⟨⟨A, cp, rfl, hcp1, hcp2, hrow⟩, hb4⟩
        have hbz3 := hb4.size
        obtain ⟨ad, eA, hnews⟩ := hrow.some_cells (by show 0 < 4; omega)
        subst eA
        have hown := hown0.mono hb4
        have hB3 : Below X.heap.size X w4 := (by repeat (first | (with_reducible assumption) | (with_reducible exact Below.refl _ _) | (with_reducible refine Below.alloc ?_ (by first | omega | (simp; omega) | (simp; done) | (dsimp only; omega)) _) | (with_reducible refine Below.setCell ?_ (by first | omega | (simp; omega) | (simp; done) | (dsimp only; omega)) _) | (with_reducible refine Below.drew ?_) | (with_reducible refine Below.trans ?_ (Below.mono (by assumption) (by first | omega | (simp; omega) | (simp; done) | (dsimp only; omega))))))
        have hB3s := hB3.size
        have hls := hown.lt
        clear hown0 hb4 hrow HC
        go_wp2_with (at_builtin; refine wpList_append_own_at _ rfl _ _ 50 rfl X.heap.size 31 i0 _ 2 16 Try.underlying50 gi gz0 gz1 gz2 rfl (by decide) _ _ _ rfl hown ad 4 cp (wcells (cor4 8 a.lo a.hi G.lo G.hi)) rfl (wcells_length _) hnews (wcells_one _) ?c3 ?c4 ?c5 ?_)
        case c3 => show (quoP a L).length + 4 ≤ maxLen; have := quoP_len a L; unfold maxLen; omega
        case c4 => show ((quoP a L).length + 4) * 16 ≤ 140737488355328; have := quoP_len a L; omega
        case c5 => exact hB3s
        intro v' w' hown' hgrow _ hblk
        have hN : OwnW w' X.heap.size v' (quoP a L ++ quoP a G) := by rw [eL]; exact OwnW.app hown'
        have hNB : Below X.heap.size X w' := hB3.grown hgrow (by omega) (fun k e => (hls k e).1)
        clear hown hown' hgrow hblk hB3 hnews
        go_wp2
        go_meet
        exact ⟨hN, hNB⟩
      · have eL : quoP a G = [] := by unfold quoP; rw [if_pos hn]
        go_wp2
        go_meet
        exact ⟨by rw [eL, List.append_nil]; exact hown1.mono hb3, (by repeat (first | (with_reducible assumption) | (with_reducible exact Below.refl _ _) | (with_reducible refine Below.alloc ?_ (by first | omega | (simp; omega) | (simp; done) | (dsimp only; omega)) _) | (with_reducible refine Below.setCell ?_ (by first | omega | (simp; omega) | (simp; done) | (dsimp only; omega)) _) | (with_reducible refine Below.drew ?_) | (with_reducible refine Below.trans ?_ (Below.mono (by assumption) (by first | omega | (simp; omega) | (simp; done) | (dsimp only; omega))))))⟩
    case rest =>
      clear hb3 hc3 hf3 hz3 hx3_0 hx3_1 hx3_2 hown1 hBX hzx q00 q01 q02 q20 q21 q22 b70 b71 b72 y0 y2 y7
      obtain ⟨hown2, hB2⟩ := hcut
      obtain ⟨A, cp, e7, hl1, hl2, hrow⟩ := hown2.row
      have hall : ∀ x ∈ quoP a L ++ quoP a G, I128 x := by
        intro x hx
        rw [List.mem_append] at hx
        have k : ∀ s : Sp, x ∈ quoP a s → I128 x := by
          intro s h
          unfold quoP at h
          split at h
          · simp at h
          · simp only [List.mem_cons, List.not_mem_nil, or_false] at h
            have g1 := fun y => tdiv_le (y := y) ha.1
            have g2 := fun y => tdiv_le (y := y) ha.2
            unfold I128
            rcases h with rfl | rfl | rfl | rfl
            · have := g1 s.lo; omega
            · have := g1 s.hi; omega
            · have := g2 s.lo; omega
            · have := g2 s.hi; omega
        exact hx.elim (k L) (k G)
      have hln : (quoP a L ++ quoP a G).length ≤ 9223372036854775807 := by
        rw [List.length_append]
        have := quoP_len a L
        have := quoP_len a G
        omega
      have HAr := Lib.hid (r4_around _ A cp wc hln hrow hall)
      have eQ' := Lib.hid eQ
      have f2' : ∀ o, wc.frozen? ⟨w.heap.size + 1 + 1, o, none⟩ = false := fun o => (hB2.frozen (p := ⟨w.heap.size + 1 + 1, o, none⟩) z2).trans (f2 o)
      have HW2 := HWX.trans (hB2.mono HWX.size)
      replace q0_0 := (hB2.cell (p := ⟨w.heap.size, 0, none⟩) z0).trans q0_0
      replace q0_1 := (hB2.cell (p := ⟨w.heap.size, 1, none⟩) z0).trans q0_1
      replace q0_2 := (hB2.cell (p := ⟨w.heap.size, 2, none⟩) z0).trans q0_2
      replace q1_0 := (hB2.cell (p := ⟨w.heap.size + 1, 0, none⟩) z1).trans q1_0
      replace q1_1 := (hB2.cell (p := ⟨w.heap.size + 1, 1, none⟩) z1).trans q1_1
      replace q1_2 := (hB2.cell (p := ⟨w.heap.size + 1, 2, none⟩) z1).trans q1_2
      replace q2_0 := (hB2.cell (p := ⟨w.heap.size + 1 + 1, 0, none⟩) z2).trans q2_0
      replace q2_1 := (hB2.cell (p := ⟨w.heap.size + 1 + 1, 1, none⟩) z2).trans q2_1
      replace q2_2 := (hB2.cell (p := ⟨w.heap.size + 1 + 1, 2, none⟩) z2).trans q2_2
      replace z0 := Nat.lt_of_lt_of_le z0 hB2.size
      replace z1 := Nat.lt_of_lt_of_le z1 hB2.size
      replace z2 := Nat.lt_of_lt_of_le z2 hB2.size
      generalize (quoP a L ++ quoP a G).length = ln at *
      subst e7
      clear hown2 hB2 hl1 hl2 hrow hall hln eQ HWX f2 a60 a61 a62 a70 a71 a72 iL iG
      go_wp2_with (go_at_call 30; (with_reducible refine (HAr.out).mono ?_); rintro e w4 ⟨rfl, hb4⟩; obtain ⟨hc4, hf4⟩ := bcell hb4; have hz4 := hb4.size; (try simp at hz4); (try have hy4 := Nat.lt_of_succ_le hz4); (try have hv4 := Nat.lt_of_succ_lt hy4); (try have hw40 : w.heap.size < w4.heap.size := by omega); (try have hw41 : w.heap.size + 1 < w4.heap.size := by omega); (try have hw42 : w.heap.size + 1 + 1 < w4.heap.size := by omega); (try have hw43 : w.heap.size + 1 + 1 + 1 < w4.heap.size := by omega); (try have hx4_0 : w.heap.size < w4.heap.size := by omega); (try have hx4_1 : w.heap.size + 1 < w4.heap.size := by omega); (try have hx4_2 : w.heap.size + 1 + 1 < w4.heap.size := by omega))
      refine bodyPost_ret (by simp [results, Try.results8, go_sem, *] <;> rfl) rfl ⟨by rw [eQ'.out], (by repeat (first | (with_reducible assumption) | (with_reducible exact Below.refl _ _) | (with_reducible refine Below.alloc ?_ (by first | omega | (simp; omega) | (simp; done) | (dsimp only; omega)) _) | (with_reducible refine Below.setCell ?_ (by first | omega | (simp; omega) | (simp; done) | (dsimp only; omega)) _) | (with_reducible refine Below.drew ?_) | (with_reducible refine Below.trans ?_ (Below.mono (by assumption) (by first | omega | (simp; omega) | (simp; done) | (dsimp only; omega))))))⟩
end Go.Proofs.Ytdphjfppfngcmaa
