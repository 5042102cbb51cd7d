/- X-PARTIAL The law KeyOrder, walked: layer 26. -/
import Derived.Test.YtoclpodjigfmgaaDoorKeyM
namespace Go.Proofs.YtoclpodjigfmgaaDoor
open Go.RowKit Go.Lib

theorem and_guards (x : Int) (h1 : -1 ≤ x) (h2 : x ≤ 1) : decide (x < -1) = false ∧ decide (1 < x) = false := ⟨decide_eq_false (by omega), decide_eq_false (by omega)⟩

set_option maxRecDepth 1000000 in
set_option maxHeartbeats 4000000 in
theorem law_keyOrder (a b c : Ky) (w : World) (hv : RV w) (ht : TV w) :
    Calls Tryd.prog 4 #[.agg #[encStr a.n, .int .i64 a.d], .agg #[encStr b.n, .int .i64 b.d], .agg #[encStr c.n, .int .i64 c.d]] w fun e w' => e = .returned (.bool true) ∧ Below w.heap.size w w' := by
  have H1 := Lib.hid (key_Cmp a b)
  have H2 := Lib.hid (key_Cmp b a)
  have H3 := Lib.hid (r26_Clean a)
  have H4 := Lib.hid (r26_Clean b)
  have H5 := Lib.hid (r26_Less a.cl b.cl)
  have H6 := Lib.hid (key_Cmp b c)
  have H7 := Lib.hid (key_Cmp a c)
  have HL := Lib.hid (fun w' (hb : Below w.heap.size w w') => law26_lives w' (hv.mono hb) (ht.mono hb))
  have hu0 : -(b.cmp a) = a.cmp b := by rw [Ky.cmp_neg a b]; omega
  obtain ⟨l1, l2⟩ := Ky.cmp_low a b
  have hless := Ky.cmp_less a b
  have hzero := Ky.cmp_zero a b
  have htr := Lib.hid (fun h1 h2 => Ky.cmp_trans (a := a) (b := b) (c := c) h1 h2)
  rw [← hless] at H5
  clear hv ht hless
  -- what the struct comparison comes to
  have hz : ((a.cmp b == 0) != ((a.cl.n == b.cl.n) && (a.cl.d == b.cl.d))) = false := by
    rw [bne_eq_false_iff_eq, Bool.eq_iff_iff, beq_iff_eq, Bool.and_eq_true, beq_iff_eq, beq_iff_eq, hzero]
    exact ⟨fun h => by rw [h]; exact ⟨rfl, rfl⟩, fun h => Ky.ext h.1 h.2⟩
  clear hzero
  generalize a.cmp b = x at *
  generalize b.cmp c = y at *
  generalize a.cmp c = z at *
  generalize a.cl = a' at *
  generalize b.cl = b' at *
  have d1 : decide (x < -1) = false := decide_eq_false (by omega)
  have d2 : decide ((1 : Int) < x) = false := decide_eq_false (by omega)
  generalize b.cmp a = u at *
  have hu1 : wrap64 (-u) = x := by rw [hu0]; unfold wrap64; omega
  have hu2 : IntKind.i64.wrap (-u) = x := by rw [IntKind.wrap_i64, hu0]; omega
  clear hu0
  go_enter Tryd.func4, Tryd.ntmps4
  go_upto_region 1 with fail
  generalize hW : (((w.alloc (.cells #[encStr a.n, .int .i64 a.d] 24)).alloc (.cells #[encStr b.n, .int .i64 b.d] 24)).alloc (.cells #[encStr c.n, .int .i64 c.d] 24)) = W
  have q0_0 : W.cell? ⟨w.heap.size, 0, none⟩ = some (encStr a.n) := by rw [← hW]; simp [go_sem]
  have q0_1 : W.cell? ⟨w.heap.size, 1, none⟩ = some (.int .i64 a.d) := by rw [← hW]; simp [go_sem]
  have q1_0 : W.cell? ⟨w.heap.size + 1, 0, none⟩ = some (encStr b.n) := by rw [← hW]; simp [go_sem]
  have q1_1 : W.cell? ⟨w.heap.size + 1, 1, none⟩ = some (.int .i64 b.d) := by rw [← hW]; simp [go_sem]
  have q2_0 : W.cell? ⟨w.heap.size + 1 + 1, 0, none⟩ = some (encStr c.n) := by rw [← hW]; simp [go_sem]
  have q2_1 : W.cell? ⟨w.heap.size + 1 + 1, 1, none⟩ = some (.int .i64 c.d) := by rw [← hW]; simp [go_sem]
  have z0 : w.heap.size < W.heap.size := by rw [← hW]; first | (simp; done) | (simp; omega)
  have z1 : w.heap.size + 1 < W.heap.size := by rw [← hW]; first | (simp; done) | (simp; omega)
  have z2 : w.heap.size + 1 + 1 < W.heap.size := by rw [← hW]; first | (simp; done) | (simp; omega)
  have HW : Below w.heap.size w W := by rw [← hW]; exact (by repeat (first | (with_reducible assumption) | (with_reducible exact Below.refl _ _) | (with_reducible refine Below.alloc ?_ (by first | omega | (simp; omega) | (simp; done) | (dsimp only; omega)) _) | (with_reducible refine Below.setCell ?_ (by first | omega | (simp; omega) | (simp; done) | (dsimp only; omega)) _) | (with_reducible refine Below.drew ?_) | (with_reducible refine Below.trans ?_ (Below.mono (by assumption) (by first | omega | (simp; omega) | (simp; done) | (dsimp only; omega))))))
  clear hW
  go_wp2_with fail
  go_at_call 20
  refine (H1.out _).mono ?_
  rintro e w1 ⟨rfl, hb1⟩
  have hc0 := (hb1.cell (p := ⟨w.heap.size, 0, none⟩) z0).trans q0_0
  have hc1 := (hb1.cell (p := ⟨w.heap.size, 1, none⟩) z0).trans q0_1
  have hc2 := (hb1.cell (p := ⟨w.heap.size + 1, 0, none⟩) z1).trans q1_0
  have hc3 := (hb1.cell (p := ⟨w.heap.size + 1, 1, none⟩) z1).trans q1_1
  have hc4 := (hb1.cell (p := ⟨w.heap.size + 1 + 1, 0, none⟩) z2).trans q2_0
  have hc5 := (hb1.cell (p := ⟨w.heap.size + 1 + 1, 1, none⟩) z2).trans q2_1
  have y0 := Nat.lt_of_lt_of_le z0 hb1.size
  have y1 := Nat.lt_of_lt_of_le z1 hb1.size
  have y2 := Nat.lt_of_lt_of_le z2 hb1.size
  have hB1 := HW.trans (hb1.mono HW.size)
  clear q0_0 q0_1 q1_0 q1_1 q2_0 q2_1 z0 z1 z2 hb1 HW H1
  have hcase : ((a'.n == b'.n) = false ∧ (x == 0) = false) ∨ ((a'.n == b'.n) = true ∧ (a'.d == b'.d) = false ∧ (x == 0) = false) ∨ ((a'.n == b'.n) = true ∧ (a'.d == b'.d) = true ∧ (x == 0) = true) := by
    cases h1 : a'.n == b'.n
    · rw [h1] at hz; exact Or.inl ⟨rfl, by simpa using hz⟩
    · cases h2 : a'.d == b'.d
      · rw [h1, h2] at hz; exact Or.inr (Or.inl ⟨rfl, rfl, by simpa using hz⟩)
      · rw [h1, h2] at hz; exact Or.inr (Or.inr ⟨rfl, rfl, by simpa using hz⟩)
  clear hz
  go_upto_region 2 with fail
  go_cut [34] from 11 to 34 (fun s34 wx => s34 = .bool false ∧ Below w1.heap.size w1 wx)
  case first =>
    clear H5 H6 H7 HL htr
    rcases hcase with ⟨e1, e3⟩ | ⟨e1, e2, e3⟩ | ⟨e1, e2, e3⟩
    · skip
      refine region_seq (S := fun w' => Below w1.heap.size w1 w') rfl (by kernel_rfl) (by kernel_rfl) (by repeat (first | (with_reducible assumption) | (with_reducible exact Below.refl _ _) | (with_reducible refine Below.alloc ?_ (by first | omega | (simp; omega) | (simp; done) | (dsimp only; omega)) _) | (with_reducible refine Below.setCell ?_ (by first | omega | (simp; omega) | (simp; done) | (dsimp only; omega)) _) | (with_reducible refine Below.drew ?_) | (with_reducible refine Below.trans ?_ (Below.mono (by assumption) (by first | omega | (simp; omega) | (simp; done) | (dsimp only; omega)))))) (fun fin hfin => ?_)
      iterate 24
        first
          | (refine SeqL.yes (v := ?_) (A' := ?_) rfl (by rfl) ?_ ?_ ?_
             rotate_left 2
             · intro w' K hS hK
               obtain ⟨hc, hf⟩ := bcell hS
               have hz := hS.size
               go_simp
               first
                 | exact hK.out _ hS
                 | (go_at_call 20; (with_reducible refine (H2.out _).mono ?_); rintro e w1 ⟨rfl, hb1⟩; exact hK.out _ (hS.trans (hb1.mono hz)))
                 | (go_at_call 17; (with_reducible refine (H3.out _).mono ?_); rintro e w1 ⟨rfl, hb1⟩; exact hK.out _ (hS.trans (hb1.mono hz)))
                 | (go_at_call 17; (with_reducible refine (H4.out _).mono ?_); rintro e w1 ⟨rfl, hb1⟩; exact hK.out _ (hS.trans (hb1.mono hz)))
                 | trace_state
             · simp only [Act.put, List.setIfInBounds_toArray, List.set_cons_zero, List.set_cons_succ]; exact rfl)
          | (refine SeqL.no (A' := ?_) rfl (by rfl) ?_ ?_
             rotate_left
             · simp only [Act.put, List.setIfInBounds_toArray, List.set_cons_zero, List.set_cons_succ]; exact rfl)
      refine SeqL.nil (hfin.out _ ?_)
      clear hfin fin
      intro w1 hS1
      go_wp2_with fail
      go_meet
      exact ⟨rfl, hS1⟩
    · skip
      refine region_seq (S := fun w' => Below w1.heap.size w1 w') rfl (by kernel_rfl) (by kernel_rfl) (by repeat (first | (with_reducible assumption) | (with_reducible exact Below.refl _ _) | (with_reducible refine Below.alloc ?_ (by first | omega | (simp; omega) | (simp; done) | (dsimp only; omega)) _) | (with_reducible refine Below.setCell ?_ (by first | omega | (simp; omega) | (simp; done) | (dsimp only; omega)) _) | (with_reducible refine Below.drew ?_) | (with_reducible refine Below.trans ?_ (Below.mono (by assumption) (by first | omega | (simp; omega) | (simp; done) | (dsimp only; omega)))))) (fun fin hfin => ?_)
      iterate 24
        first
          | (refine SeqL.yes (v := ?_) (A' := ?_) rfl (by rfl) ?_ ?_ ?_
             rotate_left 2
             · intro w' K hS hK
               obtain ⟨hc, hf⟩ := bcell hS
               have hz := hS.size
               go_simp
               first
                 | exact hK.out _ hS
                 | (go_at_call 20; (with_reducible refine (H2.out _).mono ?_); rintro e w1 ⟨rfl, hb1⟩; exact hK.out _ (hS.trans (hb1.mono hz)))
                 | (go_at_call 17; (with_reducible refine (H3.out _).mono ?_); rintro e w1 ⟨rfl, hb1⟩; exact hK.out _ (hS.trans (hb1.mono hz)))
                 | (go_at_call 17; (with_reducible refine (H4.out _).mono ?_); rintro e w1 ⟨rfl, hb1⟩; exact hK.out _ (hS.trans (hb1.mono hz)))
                 | trace_state
             · simp only [Act.put, List.setIfInBounds_toArray, List.set_cons_zero, List.set_cons_succ]; exact rfl)
          | (refine SeqL.no (A' := ?_) rfl (by rfl) ?_ ?_
             rotate_left
             · simp only [Act.put, List.setIfInBounds_toArray, List.set_cons_zero, List.set_cons_succ]; exact rfl)
      refine SeqL.nil (hfin.out _ ?_)
      clear hfin fin
      intro w1 hS1
      go_wp2_with fail
      go_meet
      exact ⟨rfl, hS1⟩
    · skip
      refine region_seq (S := fun w' => Below w1.heap.size w1 w') rfl (by kernel_rfl) (by kernel_rfl) (by repeat (first | (with_reducible assumption) | (with_reducible exact Below.refl _ _) | (with_reducible refine Below.alloc ?_ (by first | omega | (simp; omega) | (simp; done) | (dsimp only; omega)) _) | (with_reducible refine Below.setCell ?_ (by first | omega | (simp; omega) | (simp; done) | (dsimp only; omega)) _) | (with_reducible refine Below.drew ?_) | (with_reducible refine Below.trans ?_ (Below.mono (by assumption) (by first | omega | (simp; omega) | (simp; done) | (dsimp only; omega)))))) (fun fin hfin => ?_)
      iterate 24
        first
          | (refine SeqL.yes (v := ?_) (A' := ?_) rfl (by rfl) ?_ ?_ ?_
             rotate_left 2
             · intro w' K hS hK
               obtain ⟨hc, hf⟩ := bcell hS
               have hz := hS.size
               go_simp
               first
                 | exact hK.out _ hS
                 | (go_at_call 20; (with_reducible refine (H2.out _).mono ?_); rintro e w1 ⟨rfl, hb1⟩; exact hK.out _ (hS.trans (hb1.mono hz)))
                 | (go_at_call 17; (with_reducible refine (H3.out _).mono ?_); rintro e w1 ⟨rfl, hb1⟩; exact hK.out _ (hS.trans (hb1.mono hz)))
                 | (go_at_call 17; (with_reducible refine (H4.out _).mono ?_); rintro e w1 ⟨rfl, hb1⟩; exact hK.out _ (hS.trans (hb1.mono hz)))
                 | trace_state
             · simp only [Act.put, List.setIfInBounds_toArray, List.set_cons_zero, List.set_cons_succ]; exact rfl)
          | (refine SeqL.no (A' := ?_) rfl (by rfl) ?_ ?_
             rotate_left
             · simp only [Act.put, List.setIfInBounds_toArray, List.set_cons_zero, List.set_cons_succ]; exact rfl)
      refine SeqL.nil (hfin.out _ ?_)
      clear hfin fin
      intro w1 hS1
      go_wp2_with fail
      go_meet
      exact ⟨rfl, hS1⟩
  case rest =>
    obtain ⟨rfl, hbc⟩ := hcut
    clear H2 hcase d1 d2 hu1 hu2
    have k0 := (hbc.cell (p := ⟨w.heap.size, 0, none⟩) y0).trans hc0
    have k1 := (hbc.cell (p := ⟨w.heap.size, 1, none⟩) y0).trans hc1
    have k2 := (hbc.cell (p := ⟨w.heap.size + 1, 0, none⟩) y1).trans hc2
    have k3 := (hbc.cell (p := ⟨w.heap.size + 1, 1, none⟩) y1).trans hc3
    have k4 := (hbc.cell (p := ⟨w.heap.size + 1 + 1, 0, none⟩) y2).trans hc4
    have k5 := (hbc.cell (p := ⟨w.heap.size + 1 + 1, 1, none⟩) y2).trans hc5
    have v0 := Nat.lt_of_lt_of_le y0 hbc.size
    have v1 := Nat.lt_of_lt_of_le y1 hbc.size
    have v2 := Nat.lt_of_lt_of_le y2 hbc.size
    have hB2 := hB1.trans (hbc.mono hB1.size)
    clear hc0 hc1 hc2 hc3 hc4 hc5 y0 y1 y2 hB1 hbc l1 l2
    go_wp2_with fail
    generalize hxd : decide (x < 0) = dx at *
    refine region_seq (S := fun w' => Below wc.heap.size wc w') rfl (by kernel_rfl) (by kernel_rfl) (by repeat (first | (with_reducible assumption) | (with_reducible exact Below.refl _ _) | (with_reducible refine Below.alloc ?_ (by first | omega | (simp; omega) | (simp; done) | (dsimp only; omega)) _) | (with_reducible refine Below.setCell ?_ (by first | omega | (simp; omega) | (simp; done) | (dsimp only; omega)) _) | (with_reducible refine Below.drew ?_) | (with_reducible refine Below.trans ?_ (Below.mono (by assumption) (by first | omega | (simp; omega) | (simp; done) | (dsimp only; omega)))))) (fun fin hfin => ?_)
    iterate 8
      first
        | (refine SeqL.yes (v := ?_) (A' := ?_) rfl (by rfl) ?_ ?_ ?_
           rotate_left 2
           · intro w' K hS hK
             obtain ⟨hc, hf⟩ := bcell hS
             have hz := hS.size
             go_simp
             first
               | exact hK.out _ hS
               | (go_at_call 17; (with_reducible refine (H3.out _).mono ?_); rintro e w1 ⟨rfl, hb1⟩; exact hK.out _ (hS.trans (hb1.mono hz)))
               | (go_at_call 17; (with_reducible refine (H4.out _).mono ?_); rintro e w1 ⟨rfl, hb1⟩; exact hK.out _ (hS.trans (hb1.mono hz)))
               | (go_at_call 21; (with_reducible refine (H5.out _).mono ?_); rintro e w1 ⟨rfl, hb1⟩; exact hK.out _ (hS.trans (hb1.mono hz)))
               | trace_state
           · simp only [Act.put, List.setIfInBounds_toArray, List.set_cons_zero, List.set_cons_succ]; exact rfl)
        | (refine SeqL.no (A' := ?_) rfl (by rfl) ?_ ?_
           rotate_left
           · simp only [Act.put, List.setIfInBounds_toArray, List.set_cons_zero, List.set_cons_succ]; exact rfl)
    refine SeqL.nil (hfin.out _ ?_)
    clear hfin fin
    intro w1 hS1
    have m0 := (hS1.cell (p := ⟨w.heap.size, 0, none⟩) v0).trans k0
    have m1 := (hS1.cell (p := ⟨w.heap.size, 1, none⟩) v0).trans k1
    have m2 := (hS1.cell (p := ⟨w.heap.size + 1, 0, none⟩) v1).trans k2
    have m3 := (hS1.cell (p := ⟨w.heap.size + 1, 1, none⟩) v1).trans k3
    have m4 := (hS1.cell (p := ⟨w.heap.size + 1 + 1, 0, none⟩) v2).trans k4
    have m5 := (hS1.cell (p := ⟨w.heap.size + 1 + 1, 1, none⟩) v2).trans k5
    have n0 := Nat.lt_of_lt_of_le v0 hS1.size
    have n1 := Nat.lt_of_lt_of_le v1 hS1.size
    have n2 := Nat.lt_of_lt_of_le v2 hS1.size
    have hB3 := hB2.trans (hS1.mono hB2.size)
    clear k0 k1 k2 k3 k4 k5 v0 v1 v2 hB2 hS1 H3 H4 H5 hxd
    by_cases hx : 0 < x
    · go_wp2_with fail
      go_at_call 19
      refine (HL.out _ hB3).mono ?_
      rintro e w2 ⟨rfl, hb⟩
      go_wp2_with fail
      go_ret
      exact ⟨rfl, hB3.trans (hb.mono hB3.size)⟩
    · go_wp2_with fail
      go_at_call 20
      refine (H6.out _).mono ?_
      rintro e w2 ⟨rfl, hb⟩
      have p0 := (hb.cell (p := ⟨w.heap.size, 0, none⟩) n0).trans m0
      have p1 := (hb.cell (p := ⟨w.heap.size, 1, none⟩) n0).trans m1
      have p4 := (hb.cell (p := ⟨w.heap.size + 1 + 1, 0, none⟩) n2).trans m4
      have p5 := (hb.cell (p := ⟨w.heap.size + 1 + 1, 1, none⟩) n2).trans m5
      have hB4 := hB3.trans (hb.mono hB3.size)
      clear m0 m1 m2 m3 m4 m5 n0 n1 n2 hB3 hb H6
      by_cases hy : 0 < y
      · go_wp2_with fail
        go_at_call 19
        refine (HL.out _ hB4).mono ?_
        rintro e w3 ⟨rfl, hb⟩
        go_wp2_with fail
        go_ret
        exact ⟨rfl, hB4.trans (hb.mono hB4.size)⟩
      · have hzz : z ≤ 0 := htr.out (by omega) (by omega)
        go_wp2_with fail
        go_at_call 20
        refine (H7.out _).mono ?_
        rintro e w3 ⟨rfl, hb⟩
        have hB5 := hB4.trans (hb.mono hB4.size)
        clear p0 p1 p4 p5 hB4 hb H7
        go_wp2_with fail
        go_at_call 19
        refine (HL.out _ hB5).mono ?_
        rintro e w4 ⟨rfl, hb⟩
        go_wp2_with fail
        go_ret
        exact ⟨rfl, hB5.trans (hb.mono hB5.size)⟩
end Go.Proofs.YtoclpodjigfmgaaDoor
