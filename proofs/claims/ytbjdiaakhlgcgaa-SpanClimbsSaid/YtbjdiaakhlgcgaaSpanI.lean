/- The law of layer 3 that speaks of the laws of lattices, walked. -/
import Derived.Test.YtbjdiaakhlgcgaaSpanH
import Derived.Test.YtbjdiaakhlgcgaaSeqg
namespace Go.Proofs.Ytbjdiaakhlgcgaa
open Go.RowKit

theorem Sp.leq_iff (a b : Sp) : a.leq b = true ↔ (a.none = true ∨ (b.none = false ∧ b.lo ≤ a.lo ∧ a.hi ≤ b.hi)) := by
  cases h : a.none
  · cases h' : b.none
    · rw [Sp.leq_some h h']; simp
    · rw [Sp.leq_none2 h h']; simp
  · rw [Sp.leq_none b h]; simp
theorem Sp.none_iff (a : Sp) : a.none = false ↔ (a.s = true ∧ a.lo ≤ a.hi) := by unfold Sp.none; simp
theorem Sp.leq_refl (a : Sp) : a.leq a = true := by
  rw [Sp.leq_iff]; cases h : a.none <;> simp
theorem Sp.leq_trans {a b c : Sp} (h1 : a.leq b = true) (h2 : b.leq c = true) : a.leq c = true := by
  rw [Sp.leq_iff] at *
  rcases h1 with h1 | ⟨h1, h3, h4⟩
  · exact Or.inl h1
  · rcases h2 with h2 | ⟨h2, h5, h6⟩
    · rw [h2] at h1; cases h1
    · exact Or.inr ⟨h2, by omega, by omega⟩
theorem Sp.clean_leq (a c : Sp) : a.clean.leq c = a.leq c := by
  cases h : a.none
  · rw [show a.clean = a from if_neg (by rw [h]; decide)]
  · rw [show a.clean = Sp.zero from if_pos h, Sp.leq_none c h, Sp.leq_none c rfl]
theorem Sp.leq_clean (a c : Sp) : c.leq a.clean = c.leq a := by
  cases h : a.none
  · rw [show a.clean = a from if_neg (by rw [h]; decide)]
  · rw [show a.clean = Sp.zero from if_pos h]
    cases hc : c.none
    · rw [Sp.leq_none2 hc h, Sp.leq_none2 hc rfl]
    · rw [Sp.leq_none _ hc, Sp.leq_none _ hc]
/-- The least above both. -/
theorem Sp.lub (a b c : Sp) : (a.join b).leq c = (a.leq c && b.leq c) := by
  cases h : a.none
  · cases h' : b.none
    · rw [Sp.join_00 h h']
      rw [Sp.none_iff] at h h'
      have h1 : (Sp.of (if b.lo < a.lo then b.lo else a.lo) (if a.hi < b.hi then b.hi else a.hi)) = ⟨true, if b.lo < a.lo then b.lo else a.lo, if a.hi < b.hi then b.hi else a.hi⟩ := Sp.of_f (by split <;> split <;> omega)
      rw [h1, Bool.eq_iff_iff, Bool.and_eq_true, Sp.leq_iff, Sp.leq_iff, Sp.leq_iff, (Sp.none_iff a).2 h, (Sp.none_iff b).2 h']
      have h2 : (Sp.mk true (if b.lo < a.lo then b.lo else a.lo) (if a.hi < b.hi then b.hi else a.hi)).none = false := by
        rw [Sp.none_iff]; refine ⟨rfl, ?_⟩; dsimp only; split <;> split <;> omega
      rw [h2]
      simp only [Bool.false_eq_true, false_or]
      constructor
      · rintro ⟨h3, h4, h5⟩
        split at h4 <;> split at h5 <;> exact ⟨⟨h3, by omega, by omega⟩, ⟨h3, by omega, by omega⟩⟩
      · rintro ⟨⟨h3, h4, h5⟩, ⟨_, h6, h7⟩⟩
        refine ⟨h3, ?_, ?_⟩ <;> split <;> omega
    · rw [Sp.join_01 h h', Sp.leq_none c h', Bool.and_true]
  · rw [Sp.join_1 h, Sp.leq_none c h, Bool.true_and, Sp.clean_leq]
/-- The greatest below both. -/
theorem Sp.glb (a b c : Sp) : c.leq (a.meet b) = (c.leq a && c.leq b) := by
  cases h : a.none
  · cases h' : b.none
    · rw [Sp.meet_00 h h']
      by_cases hh : min a.hi b.hi < max a.lo b.lo
      · rw [Sp.of_t hh, Bool.eq_iff_iff, Bool.and_eq_true, Sp.leq_iff, Sp.leq_iff, Sp.leq_iff, h, h']
        have h0 : (Sp.mk false 0 0).none = true := rfl
        rw [h0]
        constructor
        · rintro (h1 | ⟨h1, _⟩)
          · exact ⟨Or.inl h1, Or.inl h1⟩
          · cases h1
        · rintro ⟨h1 | ⟨_, h1, h2⟩, h3 | ⟨_, h3, h4⟩⟩
          · exact Or.inl h1
          · exact Or.inl h1
          · exact Or.inl h3
          · left
            apply Classical.byContradiction; intro hc
            rw [Bool.not_eq_true, Sp.none_iff] at hc
            have := hc.2
            omega
      · rw [Sp.of_f hh, Bool.eq_iff_iff, Bool.and_eq_true, Sp.leq_iff, Sp.leq_iff, Sp.leq_iff, h, h', Sp.none_f hh]
        constructor
        · rintro (h1 | ⟨_, h1, h2⟩)
          · exact ⟨Or.inl h1, Or.inl h1⟩
          · dsimp only at h1 h2; exact ⟨Or.inr ⟨rfl, by omega, by omega⟩, Or.inr ⟨rfl, by omega, by omega⟩⟩
        · rintro ⟨h1 | ⟨_, h1, h2⟩, h3 | ⟨_, h3, h4⟩⟩
          · exact Or.inl h1
          · exact Or.inl h1
          · exact Or.inl h3
          · exact Or.inr ⟨rfl, by dsimp only; omega, by dsimp only; omega⟩
    · rw [Sp.meet_01 h h']
      cases hc : c.none
      · rw [Sp.leq_none2 hc h', Bool.and_false]; exact Sp.leq_none2 hc rfl
      · rw [Sp.leq_none _ hc, Sp.leq_none _ hc, Sp.leq_none _ hc]; rfl
  · rw [Sp.meet_1 h]
    cases hc : c.none
    · rw [Sp.leq_none2 hc h, Bool.false_and]; exact Sp.leq_none2 hc rfl
    · rw [Sp.leq_none _ hc, Sp.leq_none _ hc, Sp.leq_none _ hc]; rfl
theorem Sp.same_of {a b : Sp} (h : ∀ c : Sp, a.leq c = b.leq c) : a.same b = true := by
  rw [Sp.same_leq, h b, Sp.leq_refl, ← h a, Sp.leq_refl]; rfl
theorem Sp.same_of' {a b : Sp} (h : ∀ c : Sp, c.leq a = c.leq b) : a.same b = true := by
  rw [Sp.same_leq, ← h a, Sp.leq_refl, h b, Sp.leq_refl]; rfl
theorem Sp.join_up (a b : Sp) : a.leq (a.join b) = true ∧ b.leq (a.join b) = true := by
  have h := Sp.lub a b (a.join b)
  rw [Sp.leq_refl] at h
  simpa using h.symm
theorem Sp.meet_down (a b : Sp) : (a.meet b).leq a = true ∧ (a.meet b).leq b = true := by
  have h := Sp.glb a b (a.meet b)
  rw [Sp.leq_refl] at h
  simpa using h.symm
theorem Sp.join_comm (a b : Sp) : (a.join b).same (b.join a) = true := Sp.same_of fun c => by rw [Sp.lub, Sp.lub, Bool.and_comm]
theorem Sp.meet_comm (a b : Sp) : (a.meet b).same (b.meet a) = true := Sp.same_of' fun c => by rw [Sp.glb, Sp.glb, Bool.and_comm]
theorem Sp.join_assoc (a b c : Sp) : (a.join (b.join c)).same ((a.join b).join c) = true := Sp.same_of fun d => by rw [Sp.lub, Sp.lub, Sp.lub, Sp.lub, Bool.and_assoc]
theorem Sp.meet_assoc (a b c : Sp) : (a.meet (b.meet c)).same ((a.meet b).meet c) = true := Sp.same_of' fun d => by rw [Sp.glb, Sp.glb, Sp.glb, Sp.glb, Bool.and_assoc]

/-- Two new variables, each a span. -/
def CutSp2 (j m : Sp) (W : World) (s7 s8 : Value) (wx : World) : Prop :=
  ∃ b7 b8 : Nat, s7 = .pointer (some ⟨b7, 0, none⟩) ∧ s8 = .pointer (some ⟨b8, 0, none⟩) ∧ wx.heap[b7]? = some (.cells #[.bool j.s, .int .i64 j.lo, .int .i64 j.hi] 23) ∧ wx.heap[b8]? = some (.cells #[.bool m.s, .int .i64 m.lo, .int .i64 m.hi] 23)
    ∧ b7 ≠ b8 ∧ W.heap.size ≤ b7 ∧ W.heap.size ≤ b8 ∧ Below W.heap.size W wx

set_option maxRecDepth 100000 in
set_option maxHeartbeats 8000000 in
theorem law_spanLattice (a b c : Sp) (w : World) :
    Calls Try.prog 6 #[.agg #[.bool a.s, .int .i64 a.lo, .int .i64 a.hi], .agg #[.bool b.s, .int .i64 b.lo, .int .i64 b.hi], .agg #[.bool c.s, .int .i64 c.lo, .int .i64 c.hi]] w fun e w' => e = .returned (.bool true) ∧ Below w.heap.size w w' := by
  have HJ := Lib.hid (span_join a b)
  have HM := Lib.hid (span_meet a b)
  have h1 := span_leq a (a.join b)
  rw [(Sp.join_up a b).1] at h1
  have h2 := span_leq b (a.join b)
  rw [(Sp.join_up a b).2] at h2
  have h3 := span_leq (a.meet b) a
  rw [(Sp.meet_down a b).1] at h3
  have h4 := span_leq (a.meet b) b
  rw [(Sp.meet_down a b).2] at h4
  have H5 := Lib.hid (span_join b a)
  have h6 := span_same (a.join b) (b.join a)
  rw [Sp.join_comm] at h6
  have H7 := Lib.hid (span_meet b a)
  have h8 := span_same (a.meet b) (b.meet a)
  rw [Sp.meet_comm] at h8
  have h9 := span_leq a c
  have h10 := span_leq b c
  have h11 := span_leq (a.join b) c
  rw [Sp.lub] at h11
  have h12 := span_leq c a
  have h13 := span_leq c b
  have h14 := span_leq c (a.meet b)
  rw [Sp.glb] at h14
  have H15 := Lib.hid (span_join b c)
  have H16 := Lib.hid (span_join a (b.join c))
  have H17 := Lib.hid (span_join (a.join b) c)
  have h18 := span_same (a.join (b.join c)) ((a.join b).join c)
  rw [Sp.join_assoc] at h18
  have H19 := Lib.hid (span_meet b c)
  have H20 := Lib.hid (span_meet a (b.meet c))
  have H21 := Lib.hid (span_meet (a.meet b) c)
  have h22 := span_same (a.meet (b.meet c)) ((a.meet b).meet c)
  rw [Sp.meet_assoc] at h22
  have h23 := span_leq a b
  have HT : Hid (a.leq b = true → b.leq c = true → a.leq c = true) := Lib.hid (fun h h' => Sp.leq_trans h h')
  have HL := Lib.hid law03_lives
  have H1 := Lib.hid h1; have H2 := Lib.hid h2; have H3 := Lib.hid h3; have H4 := Lib.hid h4; have H6 := Lib.hid h6; have H8 := Lib.hid h8
  have H18 := Lib.hid h18; have H22 := Lib.hid h22
  clear h1 h2 h3 h4 h6 h8 h18 h22
  generalize a.leq c = p at *
  generalize b.leq c = q at *
  generalize c.leq a = r at *
  generalize c.leq b = s at *
  generalize a.leq b = x at *
  generalize a.join (b.join c) = ja at *
  generalize (a.join b).join c = jb at *
  generalize b.join c = jc at *
  generalize a.meet (b.meet c) = ma at *
  generalize (a.meet b).meet c = mb at *
  generalize b.meet c = mc at *
  generalize a.join b = j at *
  generalize b.join a = j' at *
  generalize a.meet b = m at *
  generalize b.meet a = m' at *
  go_enter Try.func6, Try.ntmps6
  go_wp2
  generalize hW : (((w.alloc (.cells #[.bool a.s, .int .i64 a.lo, .int .i64 a.hi] 23)).alloc (.cells #[.bool b.s, .int .i64 b.lo, .int .i64 b.hi] 23)).alloc (.cells #[.bool c.s, .int .i64 c.lo, .int .i64 c.hi] 23)) = W
  have q0_0 : W.cell? ⟨w.heap.size, 0, none⟩ = some (.bool a.s) := by rw [← hW]; simp [go_sem]
  have q0_1 : W.cell? ⟨w.heap.size, 1, none⟩ = some (.int .i64 a.lo) := by rw [← hW]; simp [go_sem]
  have q0_2 : W.cell? ⟨w.heap.size, 2, none⟩ = some (.int .i64 a.hi) := by rw [← hW]; simp [go_sem]
  have q1_0 : W.cell? ⟨w.heap.size + 1, 0, none⟩ = some (.bool b.s) := by rw [← hW]; simp [go_sem]
  have q1_1 : W.cell? ⟨w.heap.size + 1, 1, none⟩ = some (.int .i64 b.lo) := by rw [← hW]; simp [go_sem]
  have q1_2 : W.cell? ⟨w.heap.size + 1, 2, none⟩ = some (.int .i64 b.hi) := by rw [← hW]; simp [go_sem]
  have q2_0 : W.cell? ⟨w.heap.size + 1 + 1, 0, none⟩ = some (.bool c.s) := by rw [← hW]; simp [go_sem]
  have q2_1 : W.cell? ⟨w.heap.size + 1 + 1, 1, none⟩ = some (.int .i64 c.lo) := by rw [← hW]; simp [go_sem]
  have q2_2 : W.cell? ⟨w.heap.size + 1 + 1, 2, none⟩ = some (.int .i64 c.hi) := by rw [← hW]; simp [go_sem]
  have z0 : w.heap.size < W.heap.size := by rw [← hW]; first | (simp; done) | (simp; omega)
  have z1 : w.heap.size + 1 < W.heap.size := by rw [← hW]; first | (simp; done) | (simp; omega)
  have z2 : w.heap.size + 1 + 1 < W.heap.size := by rw [← hW]; first | (simp; done) | (simp; omega)
  have HW : Below w.heap.size w W := by rw [← hW]; exact (by repeat (first | (with_reducible assumption) | (with_reducible exact Below.refl _ _) | (with_reducible refine Below.alloc ?_ (by first | omega | (simp; omega) | (simp; done) | (dsimp only; omega)) _) | (with_reducible refine Below.setCell ?_ (by first | omega | (simp; omega) | (simp; done) | (dsimp only; omega)) _) | (with_reducible refine Below.drew ?_) | (with_reducible refine Below.trans ?_ (Below.mono (by assumption) (by first | omega | (simp; omega) | (simp; done) | (dsimp only; omega))))))
  clear hW
  go_upto_region 1 with fail
  go_cut [7, 8] (fun s7 s8 wx => CutSp2 j m W s7 s8 wx)
  case first =>
    refine region_seqg (W := W) [_, _, _, _, _, _, _, _] [_, _] rfl (by kernel_rfl) (by kernel_rfl) (by repeat (first | (with_reducible assumption) | (with_reducible exact Below.refl _ _) | (with_reducible refine Below.alloc ?_ (by first | omega | (simp; omega) | (simp; done) | (dsimp only; omega)) _) | (with_reducible refine Below.setCell ?_ (by first | omega | (simp; omega) | (simp; done) | (dsimp only; omega)) _) | (with_reducible refine Below.drew ?_) | (with_reducible refine Below.trans ?_ (Below.mono (by assumption) (by first | omega | (simp; omega) | (simp; done) | (dsimp only; omega)))))) (fun fin hfin => ?_)
    iterate 6
      first
        | (refine SeqG.yes (v := ?_) (A' := ?_) rfl (fun γ => by rfl) ?_ ?_ ?_
           rotate_left 2
           · intro γ w' K hS hK
             obtain ⟨hc, hf⟩ := bcell hS
             have hz := hS.size
             go_simp
             first
               | exact hK.out _ (Below.refl _ _)
               | (go_at_call 20; (with_reducible refine (HJ.out _).mono ?_); rintro e w1 ⟨rfl, hb1⟩; exact hK.out _ hb1)
               | (go_at_call 22; (with_reducible refine (HM.out _).mono ?_); rintro e w1 ⟨rfl, hb1⟩; exact hK.out _ hb1)
               | trace_state
           · intro γ; simp only [Act.put, List.setIfInBounds_toArray, List.set_cons_zero, List.set_cons_succ]; exact rfl)
        | (refine SeqG.no (A' := ?_) rfl (fun γ => by rfl) ?_ ?_
           rotate_left
           · intro γ; simp only [Act.put, List.setIfInBounds_toArray, List.set_cons_zero, List.set_cons_succ]; exact rfl)
    refine SeqG.make (k := 6) (A' := ?_) (fun g => .pointer (some ⟨g 0, 0, none⟩)) (RCell #[.bool false, .int .i64 0, .int .i64 0] 23) rfl (fun γ => by rfl) (RCell.stable _ _) ?_ ?_ ?_
    rotate_left
    · intro γ w' K hS _ hK
      have hm := RCell.made (#[.bool false, .int .i64 0, .int .i64 0]) (23) w'
      have HK := Lib.hid (hK.out (fun _ => w'.heap.size) (w'.alloc (.cells #[.bool false, .int .i64 0, .int .i64 0] 23)) ((Below.refl _ _).alloc (Nat.le_refl _) _) hm); clear hK hm
      go_simp
      exact HK.out
    · intro γ; simp only [Act.put, List.setIfInBounds_toArray, List.set_cons_zero, List.set_cons_succ]; exact rfl
    refine SeqG.make (k := 7) (A' := ?_) (fun g => .pointer (some ⟨g 0, 0, none⟩)) (RCell #[.bool false, .int .i64 0, .int .i64 0] 23) rfl (fun γ => by rfl) (RCell.stable _ _) ?_ ?_ ?_
    rotate_left
    · intro γ w' K hS _ hK
      have hm := RCell.made (#[.bool false, .int .i64 0, .int .i64 0]) (23) w'
      have HK := Lib.hid (hK.out (fun _ => w'.heap.size) (w'.alloc (.cells #[.bool false, .int .i64 0, .int .i64 0] 23)) ((Below.refl _ _).alloc (Nat.le_refl _) _) hm); clear hK hm
      go_simp
      exact HK.out
    · intro γ; simp only [Act.put, List.setIfInBounds_toArray, List.set_cons_zero, List.set_cons_succ]; exact rfl
    refine SeqG.nil (hfin.out _ _ ?_)
    clear hfin fin
    intro γ lo hi w1 hB1 hF hD
    simp only [List.nil_append, List.cons_append, List.forall_mem_cons, List.not_mem_nil, false_implies, implies_true, and_true, ne_eq, not_true, true_and, Nat.reduceEqDiff, not_false_eq_true, true_implies] at hF hD
    obtain ⟨⟨_, _, y7, o7, p7, h7⟩, ⟨_, _, y8, o8, p8, h8⟩⟩ := hF
    have n1 : γ 6 0 ≠ γ 7 0 := by omega
    have w7 : W.heap.size ≤ γ 6 0 := by omega
    have w8 : W.heap.size ≤ γ 7 0 := by omega
    have x7 : γ 6 0 < w1.heap.size := by omega
    have x8 : γ 7 0 < w1.heap.size := by omega
    clear hD o7 p7 o8 p8 y7 y8
    generalize γ 6 0 = b7 at *
    generalize γ 7 0 = b8 at *
    have g7 := blk_cell h7
    have g8 := blk_cell h8
    have f7 := blk_free h7
    have f8 := blk_free h8
    have n4 := Ne.symm n1
    have K7 := Lib.hid h7; have K8 := Lib.hid h8; clear h7 h8
    refine TailL.cons (fun K hK => ?_)
    go_simp
    refine hK.out _ _ ?_
    clear hK K
    refine TailL.cons (fun K hK => ?_)
    go_simp
    refine hK.out _ _ ?_
    clear hK K
    refine TailL.nil ?_
    go_wp2_with fail
    go_meet
    exact ⟨b7, b8, rfl, rfl,
      by (iterate 3 (refine (Below.heap_setCell _ _ _ _ (by dsimp only; omega)).trans ?_))
         exact blk_set3 K7.out,
      by refine blk_set3 (c0 := .bool false) (c1 := .int .i64 0) (c2 := .int .i64 0) ?_
         (iterate 3 (refine (Below.heap_setCell _ _ _ _ (by dsimp only; omega)).trans ?_))
         exact K8.out,
      n1, w7, w8, (by repeat (first | (with_reducible assumption) | (with_reducible exact Below.refl _ _) | (with_reducible refine Below.alloc ?_ (by first | omega | (simp; omega) | (simp; done) | (dsimp only; omega)) _) | (with_reducible refine Below.setCell ?_ (by first | omega | (simp; omega) | (simp; done) | (dsimp only; omega)) _) | (with_reducible refine Below.drew ?_) | (with_reducible refine Below.trans ?_ (Below.mono (by assumption) (by first | omega | (simp; omega) | (simp; done) | (dsimp only; omega))))))⟩
  case rest =>
    obtain ⟨b7, b8, rfl, rfl, h7, h8, n1, w7, w8, hb⟩ := hcut
    replace q0_0 := (hb.cell (p := ⟨w.heap.size, 0, none⟩) z0).trans q0_0
    replace q0_1 := (hb.cell (p := ⟨w.heap.size, 1, none⟩) z0).trans q0_1
    replace q0_2 := (hb.cell (p := ⟨w.heap.size, 2, none⟩) z0).trans q0_2
    replace q1_0 := (hb.cell (p := ⟨w.heap.size + 1, 0, none⟩) z1).trans q1_0
    replace q1_1 := (hb.cell (p := ⟨w.heap.size + 1, 1, none⟩) z1).trans q1_1
    replace q1_2 := (hb.cell (p := ⟨w.heap.size + 1, 2, none⟩) z1).trans q1_2
    replace q2_0 := (hb.cell (p := ⟨w.heap.size + 1 + 1, 0, none⟩) z2).trans q2_0
    replace q2_1 := (hb.cell (p := ⟨w.heap.size + 1 + 1, 1, none⟩) z2).trans q2_1
    replace q2_2 := (hb.cell (p := ⟨w.heap.size + 1 + 1, 2, none⟩) z2).trans q2_2
    replace z0 := Nat.lt_of_lt_of_le z0 hb.size
    replace z1 := Nat.lt_of_lt_of_le z1 hb.size
    replace z2 := Nat.lt_of_lt_of_le z2 hb.size
    have g7 := blk_cell h7
    have g8 := blk_cell h8
    have z7 := blk_lt h7
    have z8 := blk_lt h8
    have q7_0 := g7 0
    have q7_1 := g7 1
    have q7_2 := g7 2
    have q8_0 := g8 0
    have q8_1 := g8 1
    have q8_2 := g8 2
    simp only [List.getElem?_toArray, List.getElem?_cons_zero, List.getElem?_cons_succ] at q7_0 q7_1 q7_2 q8_0 q8_1 q8_2
    replace HW : Below w.heap.size w wc := HW.trans (hb.mono HW.size)
    clear h7 h8 g7 g8 hb w7 w8 n1
    go_wp2
    go_upto_region 2 with fail
    go_cut [52] (fun s52 wx => s52 = .bool false ∧ Below wc.heap.size wc wx)
    case first =>
      refine region_seq (S := fun w' => Below wc.heap.size wc w') rfl (by kernel_rfl) (by kernel_rfl) (by repeat (first | (with_reducible assumption) | (with_reducible exact Below.refl _ _) | (with_reducible refine Below.alloc ?_ (by first | omega | (simp; omega) | (simp; done) | (dsimp only; omega)) _) | (with_reducible refine Below.setCell ?_ (by first | omega | (simp; omega) | (simp; done) | (dsimp only; omega)) _) | (with_reducible refine Below.drew ?_) | (with_reducible refine Below.trans ?_ (Below.mono (by assumption) (by first | omega | (simp; omega) | (simp; done) | (dsimp only; omega)))))) (fun fin hfin => ?_)
      iterate 38
        first
          | (refine SeqL.yes (v := ?_) (A' := ?_) rfl (by rfl) ?_ ?_ ?_
             rotate_left 2
             · intro w' K hS hK
               obtain ⟨hc, hf⟩ := bcell hS
               have hz := hS.size
               go_simp
               first
                 | exact hK.out _ hS
                 | (go_at_call 17; (with_reducible refine (H1.out _).mono ?_); rintro e w1 ⟨rfl, hb1⟩; exact hK.out _ (hS.trans (hb1.mono hz)))
                 | (go_at_call 17; (with_reducible refine (H2.out _).mono ?_); rintro e w1 ⟨rfl, hb1⟩; exact hK.out _ (hS.trans (hb1.mono hz)))
                 | (go_at_call 17; (with_reducible refine (H3.out _).mono ?_); rintro e w1 ⟨rfl, hb1⟩; exact hK.out _ (hS.trans (hb1.mono hz)))
                 | (go_at_call 17; (with_reducible refine (H4.out _).mono ?_); rintro e w1 ⟨rfl, hb1⟩; exact hK.out _ (hS.trans (hb1.mono hz)))
                 | (go_at_call 20; (with_reducible refine (H5.out _).mono ?_); rintro e w1 ⟨rfl, hb1⟩; exact hK.out _ (hS.trans (hb1.mono hz)))
                 | (go_at_call 19; (with_reducible refine (H6.out _).mono ?_); rintro e w1 ⟨rfl, hb1⟩; exact hK.out _ (hS.trans (hb1.mono hz)))
                 | (go_at_call 22; (with_reducible refine (H7.out _).mono ?_); rintro e w1 ⟨rfl, hb1⟩; exact hK.out _ (hS.trans (hb1.mono hz)))
                 | (go_at_call 19; (with_reducible refine (H8.out _).mono ?_); rintro e w1 ⟨rfl, hb1⟩; exact hK.out _ (hS.trans (hb1.mono hz)))
                 | trace_state
             · simp only [Act.put, List.setIfInBounds_toArray, List.set_cons_zero, List.set_cons_succ]; exact rfl)
          | (refine SeqL.no (A' := ?_) rfl (by rfl) ?_ ?_
             rotate_left
             · simp only [Act.put, List.setIfInBounds_toArray, List.set_cons_zero, List.set_cons_succ]; exact rfl)
      refine SeqL.nil (hfin.out _ ?_)
      clear hfin fin
      intro w1 hS1
      go_wp2_with fail
      go_meet
      exact ⟨rfl, (by repeat (first | (with_reducible assumption) | (with_reducible exact Below.refl _ _) | (with_reducible refine Below.alloc ?_ (by first | omega | (simp; omega) | (simp; done) | (dsimp only; omega)) _) | (with_reducible refine Below.setCell ?_ (by first | omega | (simp; omega) | (simp; done) | (dsimp only; omega)) _) | (with_reducible refine Below.drew ?_) | (with_reducible refine Below.trans ?_ (Below.mono (by assumption) (by first | omega | (simp; omega) | (simp; done) | (dsimp only; omega))))))⟩
    case rest =>
      obtain ⟨rfl, hb⟩ := hcut
      replace q0_0 := (hb.cell (p := ⟨w.heap.size, 0, none⟩) z0).trans q0_0
      replace q0_1 := (hb.cell (p := ⟨w.heap.size, 1, none⟩) z0).trans q0_1
      replace q0_2 := (hb.cell (p := ⟨w.heap.size, 2, none⟩) z0).trans q0_2
      replace q1_0 := (hb.cell (p := ⟨w.heap.size + 1, 0, none⟩) z1).trans q1_0
      replace q1_1 := (hb.cell (p := ⟨w.heap.size + 1, 1, none⟩) z1).trans q1_1
      replace q1_2 := (hb.cell (p := ⟨w.heap.size + 1, 2, none⟩) z1).trans q1_2
      replace q2_0 := (hb.cell (p := ⟨w.heap.size + 1 + 1, 0, none⟩) z2).trans q2_0
      replace q2_1 := (hb.cell (p := ⟨w.heap.size + 1 + 1, 1, none⟩) z2).trans q2_1
      replace q2_2 := (hb.cell (p := ⟨w.heap.size + 1 + 1, 2, none⟩) z2).trans q2_2
      replace z0 := Nat.lt_of_lt_of_le z0 hb.size
      replace z1 := Nat.lt_of_lt_of_le z1 hb.size
      replace z2 := Nat.lt_of_lt_of_le z2 hb.size
      replace q7_0 := (hb.cell (p := ⟨b7, 0, none⟩) z7).trans q7_0
      replace q7_1 := (hb.cell (p := ⟨b7, 1, none⟩) z7).trans q7_1
      replace q7_2 := (hb.cell (p := ⟨b7, 2, none⟩) z7).trans q7_2
      replace z7 := Nat.lt_of_lt_of_le z7 hb.size
      replace q8_0 := (hb.cell (p := ⟨b8, 0, none⟩) z8).trans q8_0
      replace q8_1 := (hb.cell (p := ⟨b8, 1, none⟩) z8).trans q8_1
      replace q8_2 := (hb.cell (p := ⟨b8, 2, none⟩) z8).trans q8_2
      replace z8 := Nat.lt_of_lt_of_le z8 hb.size
      replace HW := HW.trans (hb.mono HW.size)
      clear hb
      go_upto_region 4 with fail
      go_cut [82] (fun s82 wx => s82 = .bool false ∧ Below wc.heap.size wc wx)
      case first =>
        clear H1 H2 H3 H4 H5 H6 H7 H8 H15 H16 H17 H18 H19 H20 H21 H22 h23 HT HL HJ HM
        cases p <;> cases q <;> cases r <;> cases s
        all_goals
          simp only [Bool.and_true, Bool.and_false] at h11 h14
          have H9 := Lib.hid h9; have H10 := Lib.hid h10; have H11 := Lib.hid h11; have H12 := Lib.hid h12; have H13 := Lib.hid h13; have H14 := Lib.hid h14
          clear h9 h10 h11 h12 h13 h14
          go_wp2_with (first | (go_at_call 17; (with_reducible refine (H9.out _).mono ?_); rintro e w1 ⟨rfl, hb1⟩; obtain ⟨hc1, hf1⟩ := bcell hb1; have hz1 := hb1.size; (try simp at hz1); (try have hy1 := Nat.lt_of_succ_le hz1); (try have hv1 := Nat.lt_of_succ_lt hy1); (try have hw10 : w.heap.size < w1.heap.size := by omega); (try have hw11 : w.heap.size + 1 < w1.heap.size := by omega); (try have hw12 : w.heap.size + 1 + 1 < w1.heap.size := by omega); (try have hw13 : w.heap.size + 1 + 1 + 1 < w1.heap.size := by omega); (try have hx1_0 : b7 < w1.heap.size := by omega); (try have hx1_1 : b8 < w1.heap.size := by omega); (try have hx1_2 : w.heap.size < w1.heap.size := by omega); (try have hx1_3 : w.heap.size + 1 < w1.heap.size := by omega); (try have hx1_4 : w.heap.size + 1 + 1 < w1.heap.size := by omega)) | (go_at_call 17; (with_reducible refine (H10.out _).mono ?_); rintro e w1 ⟨rfl, hb1⟩; obtain ⟨hc1, hf1⟩ := bcell hb1; have hz1 := hb1.size; (try simp at hz1); (try have hy1 := Nat.lt_of_succ_le hz1); (try have hv1 := Nat.lt_of_succ_lt hy1); (try have hw10 : w.heap.size < w1.heap.size := by omega); (try have hw11 : w.heap.size + 1 < w1.heap.size := by omega); (try have hw12 : w.heap.size + 1 + 1 < w1.heap.size := by omega); (try have hw13 : w.heap.size + 1 + 1 + 1 < w1.heap.size := by omega); (try have hx1_0 : b7 < w1.heap.size := by omega); (try have hx1_1 : b8 < w1.heap.size := by omega); (try have hx1_2 : w.heap.size < w1.heap.size := by omega); (try have hx1_3 : w.heap.size + 1 < w1.heap.size := by omega); (try have hx1_4 : w.heap.size + 1 + 1 < w1.heap.size := by omega)) | (go_at_call 17; (with_reducible refine (H11.out _).mono ?_); rintro e w1 ⟨rfl, hb1⟩; obtain ⟨hc1, hf1⟩ := bcell hb1; have hz1 := hb1.size; (try simp at hz1); (try have hy1 := Nat.lt_of_succ_le hz1); (try have hv1 := Nat.lt_of_succ_lt hy1); (try have hw10 : w.heap.size < w1.heap.size := by omega); (try have hw11 : w.heap.size + 1 < w1.heap.size := by omega); (try have hw12 : w.heap.size + 1 + 1 < w1.heap.size := by omega); (try have hw13 : w.heap.size + 1 + 1 + 1 < w1.heap.size := by omega); (try have hx1_0 : b7 < w1.heap.size := by omega); (try have hx1_1 : b8 < w1.heap.size := by omega); (try have hx1_2 : w.heap.size < w1.heap.size := by omega); (try have hx1_3 : w.heap.size + 1 < w1.heap.size := by omega); (try have hx1_4 : w.heap.size + 1 + 1 < w1.heap.size := by omega)) | (go_at_call 17; (with_reducible refine (H12.out _).mono ?_); rintro e w1 ⟨rfl, hb1⟩; obtain ⟨hc1, hf1⟩ := bcell hb1; have hz1 := hb1.size; (try simp at hz1); (try have hy1 := Nat.lt_of_succ_le hz1); (try have hv1 := Nat.lt_of_succ_lt hy1); (try have hw10 : w.heap.size < w1.heap.size := by omega); (try have hw11 : w.heap.size + 1 < w1.heap.size := by omega); (try have hw12 : w.heap.size + 1 + 1 < w1.heap.size := by omega); (try have hw13 : w.heap.size + 1 + 1 + 1 < w1.heap.size := by omega); (try have hx1_0 : b7 < w1.heap.size := by omega); (try have hx1_1 : b8 < w1.heap.size := by omega); (try have hx1_2 : w.heap.size < w1.heap.size := by omega); (try have hx1_3 : w.heap.size + 1 < w1.heap.size := by omega); (try have hx1_4 : w.heap.size + 1 + 1 < w1.heap.size := by omega)) | (go_at_call 17; (with_reducible refine (H13.out _).mono ?_); rintro e w1 ⟨rfl, hb1⟩; obtain ⟨hc1, hf1⟩ := bcell hb1; have hz1 := hb1.size; (try simp at hz1); (try have hy1 := Nat.lt_of_succ_le hz1); (try have hv1 := Nat.lt_of_succ_lt hy1); (try have hw10 : w.heap.size < w1.heap.size := by omega); (try have hw11 : w.heap.size + 1 < w1.heap.size := by omega); (try have hw12 : w.heap.size + 1 + 1 < w1.heap.size := by omega); (try have hw13 : w.heap.size + 1 + 1 + 1 < w1.heap.size := by omega); (try have hx1_0 : b7 < w1.heap.size := by omega); (try have hx1_1 : b8 < w1.heap.size := by omega); (try have hx1_2 : w.heap.size < w1.heap.size := by omega); (try have hx1_3 : w.heap.size + 1 < w1.heap.size := by omega); (try have hx1_4 : w.heap.size + 1 + 1 < w1.heap.size := by omega)) | (go_at_call 17; (with_reducible refine (H14.out _).mono ?_); rintro e w1 ⟨rfl, hb1⟩; obtain ⟨hc1, hf1⟩ := bcell hb1; have hz1 := hb1.size; (try simp at hz1); (try have hy1 := Nat.lt_of_succ_le hz1); (try have hv1 := Nat.lt_of_succ_lt hy1); (try have hw10 : w.heap.size < w1.heap.size := by omega); (try have hw11 : w.heap.size + 1 < w1.heap.size := by omega); (try have hw12 : w.heap.size + 1 + 1 < w1.heap.size := by omega); (try have hw13 : w.heap.size + 1 + 1 + 1 < w1.heap.size := by omega); (try have hx1_0 : b7 < w1.heap.size := by omega); (try have hx1_1 : b8 < w1.heap.size := by omega); (try have hx1_2 : w.heap.size < w1.heap.size := by omega); (try have hx1_3 : w.heap.size + 1 < w1.heap.size := by omega); (try have hx1_4 : w.heap.size + 1 + 1 < w1.heap.size := by omega)))
          go_meet
          exact ⟨rfl, (by repeat (first | (with_reducible assumption) | (with_reducible exact Below.refl _ _) | (with_reducible refine Below.alloc ?_ (by first | omega | (simp; omega) | (simp; done) | (dsimp only; omega)) _) | (with_reducible refine Below.setCell ?_ (by first | omega | (simp; omega) | (simp; done) | (dsimp only; omega)) _) | (with_reducible refine Below.drew ?_) | (with_reducible refine Below.trans ?_ (Below.mono (by assumption) (by first | omega | (simp; omega) | (simp; done) | (dsimp only; omega))))))⟩
      case rest =>
        obtain ⟨rfl, hb⟩ := hcut
        replace q0_0 := (hb.cell (p := ⟨w.heap.size, 0, none⟩) z0).trans q0_0
        replace q0_1 := (hb.cell (p := ⟨w.heap.size, 1, none⟩) z0).trans q0_1
        replace q0_2 := (hb.cell (p := ⟨w.heap.size, 2, none⟩) z0).trans q0_2
        replace q1_0 := (hb.cell (p := ⟨w.heap.size + 1, 0, none⟩) z1).trans q1_0
        replace q1_1 := (hb.cell (p := ⟨w.heap.size + 1, 1, none⟩) z1).trans q1_1
        replace q1_2 := (hb.cell (p := ⟨w.heap.size + 1, 2, none⟩) z1).trans q1_2
        replace q2_0 := (hb.cell (p := ⟨w.heap.size + 1 + 1, 0, none⟩) z2).trans q2_0
        replace q2_1 := (hb.cell (p := ⟨w.heap.size + 1 + 1, 1, none⟩) z2).trans q2_1
        replace q2_2 := (hb.cell (p := ⟨w.heap.size + 1 + 1, 2, none⟩) z2).trans q2_2
        replace z0 := Nat.lt_of_lt_of_le z0 hb.size
        replace z1 := Nat.lt_of_lt_of_le z1 hb.size
        replace z2 := Nat.lt_of_lt_of_le z2 hb.size
        replace q7_0 := (hb.cell (p := ⟨b7, 0, none⟩) z7).trans q7_0
        replace q7_1 := (hb.cell (p := ⟨b7, 1, none⟩) z7).trans q7_1
        replace q7_2 := (hb.cell (p := ⟨b7, 2, none⟩) z7).trans q7_2
        replace z7 := Nat.lt_of_lt_of_le z7 hb.size
        replace q8_0 := (hb.cell (p := ⟨b8, 0, none⟩) z8).trans q8_0
        replace q8_1 := (hb.cell (p := ⟨b8, 1, none⟩) z8).trans q8_1
        replace q8_2 := (hb.cell (p := ⟨b8, 2, none⟩) z8).trans q8_2
        replace z8 := Nat.lt_of_lt_of_le z8 hb.size
        replace HW := HW.trans (hb.mono HW.size)
        clear hb
        clear H1 H2 H3 H4 H5 H6 H7 H8 HJ HM h11 h12 h13 h14
        go_wp2
        have HW2 := Lib.hid HW
        clear HW
        cases x <;> cases q
        all_goals
          try (obtain rfl : p = true := HT.out rfl rfl)
          have H9 := Lib.hid h9; have H10 := Lib.hid h10; have H23 := Lib.hid h23
          clear h9 h10 h23 HT
          refine region_seq (S := fun w' => Below wc.heap.size wc w') rfl (by kernel_rfl) (by kernel_rfl) (by repeat (first | (with_reducible assumption) | (with_reducible exact Below.refl _ _) | (with_reducible refine Below.alloc ?_ (by first | omega | (simp; omega) | (simp; done) | (dsimp only; omega)) _) | (with_reducible refine Below.setCell ?_ (by first | omega | (simp; omega) | (simp; done) | (dsimp only; omega)) _) | (with_reducible refine Below.drew ?_) | (with_reducible refine Below.trans ?_ (Below.mono (by assumption) (by first | omega | (simp; omega) | (simp; done) | (dsimp only; omega)))))) (fun fin hfin => ?_)
          iterate 41
            first
              | (refine SeqL.yes (v := ?_) (A' := ?_) rfl (by rfl) ?_ ?_ ?_
                 rotate_left 2
                 · intro w' K hS hK
                   obtain ⟨hc, hf⟩ := bcell hS
                   have hz := hS.size
                   go_simp
                   first
                     | exact hK.out _ hS
                     | (go_at_call 20; (with_reducible refine (H15.out _).mono ?_); rintro e w1 ⟨rfl, hb1⟩; exact hK.out _ (hS.trans (hb1.mono hz)))
                     | (go_at_call 20; (with_reducible refine (H16.out _).mono ?_); rintro e w1 ⟨rfl, hb1⟩; exact hK.out _ (hS.trans (hb1.mono hz)))
                     | (go_at_call 20; (with_reducible refine (H17.out _).mono ?_); rintro e w1 ⟨rfl, hb1⟩; exact hK.out _ (hS.trans (hb1.mono hz)))
                     | (go_at_call 19; (with_reducible refine (H18.out _).mono ?_); rintro e w1 ⟨rfl, hb1⟩; exact hK.out _ (hS.trans (hb1.mono hz)))
                     | (go_at_call 22; (with_reducible refine (H19.out _).mono ?_); rintro e w1 ⟨rfl, hb1⟩; exact hK.out _ (hS.trans (hb1.mono hz)))
                     | (go_at_call 22; (with_reducible refine (H20.out _).mono ?_); rintro e w1 ⟨rfl, hb1⟩; exact hK.out _ (hS.trans (hb1.mono hz)))
                     | (go_at_call 22; (with_reducible refine (H21.out _).mono ?_); rintro e w1 ⟨rfl, hb1⟩; exact hK.out _ (hS.trans (hb1.mono hz)))
                     | (go_at_call 19; (with_reducible refine (H22.out _).mono ?_); rintro e w1 ⟨rfl, hb1⟩; exact hK.out _ (hS.trans (hb1.mono hz)))
                     | (go_at_call 17; (with_reducible refine (H23.out _).mono ?_); rintro e w1 ⟨rfl, hb1⟩; exact hK.out _ (hS.trans (hb1.mono hz)))
                     | (go_at_call 17; (with_reducible refine (H10.out _).mono ?_); rintro e w1 ⟨rfl, hb1⟩; exact hK.out _ (hS.trans (hb1.mono hz)))
                     | (go_at_call 17; (with_reducible refine (H9.out _).mono ?_); rintro e w1 ⟨rfl, hb1⟩; exact hK.out _ (hS.trans (hb1.mono hz)))
                     | (go_at_call 24; (with_reducible refine (HL.out _).mono ?_); rintro e w1 ⟨rfl, hb1⟩; exact hK.out _ (hS.trans (hb1.mono hz)))
                     | trace_state
                 · simp only [Act.put, List.setIfInBounds_toArray, List.set_cons_zero, List.set_cons_succ]; exact rfl)
              | (refine SeqL.no (A' := ?_) rfl (by rfl) ?_ ?_
                 rotate_left
                 · simp only [Act.put, List.setIfInBounds_toArray, List.set_cons_zero, List.set_cons_succ]; exact rfl)
          refine SeqL.nil (hfin.out _ ?_)
          clear hfin fin
          intro w1 hS1
          have HW := HW2.out
          go_wp2
          go_ret
          exact ⟨rfl, (by repeat (first | (with_reducible assumption) | (with_reducible exact Below.refl _ _) | (with_reducible refine Below.alloc ?_ (by first | omega | (simp; omega) | (simp; done) | (dsimp only; omega)) _) | (with_reducible refine Below.setCell ?_ (by first | omega | (simp; omega) | (simp; done) | (dsimp only; omega)) _) | (with_reducible refine Below.drew ?_) | (with_reducible refine Below.trans ?_ (Below.mono (by assumption) (by first | omega | (simp; omega) | (simp; done) | (dsimp only; omega))))))⟩
end Go.Proofs.Ytbjdiaakhlgcgaa
