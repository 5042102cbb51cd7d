/- X-PARTIAL The law KeyTexts, walked: layer 26. -/
import Derived.Test.YtoclpodjigfmgaaDoorKeyQ
import Derived.Test.YtoclpodjigfmgaaDoorKeyM
namespace Go.Proofs.YtoclpodjigfmgaaDoor
open Go.RowKit Go.Lib

set_option maxRecDepth 100000 in
set_option maxHeartbeats 2000000 in
theorem r26_Text (k : Ky) (w : World) (hd1 : k.d ≤ 9223372036854775807) (hn : k.n.length ≤ 281474976710000) :
    Calls Tryd.prog 23 #[.agg #[encStr k.n, .int .i64 k.d]] w fun e w' => e = .returned (encStr (textK k)) ∧ Below w.heap.size w w' := by
  unfold textK
  by_cases h : k.d < 0
  · rw [if_pos h]
    go_enter Tryd.func23, Tryd.ntmps23
    go_wp2_with fail
    go_ret
    exact ⟨rfl, (by repeat (first | (with_reducible assumption) | (with_reducible exact Below.refl _ _) | (with_reducible refine Below.alloc ?_ (by first | omega | (simp; omega) | (simp; done) | (dsimp only; omega)) _) | (with_reducible refine Below.setCell ?_ (by first | omega | (simp; omega) | (simp; done) | (dsimp only; omega)) _) | (with_reducible refine Below.drew ?_) | (with_reducible refine Below.trans ?_ (Below.mono (by assumption) (by first | omega | (simp; omega) | (simp; done) | (dsimp only; omega))))))⟩
  · rw [if_neg h]
    have hl := Lib.itoa_length_le k.d (by omega) hd1
    have H0 : ∀ w', Calls Tryd.prog 36 #[.int .i64 k.d] w' fun e w'' => e = .returned (encStr (Lib.itoa k.d)) ∧ Below w'.heap.size w' w'' := fun w' => by
      have := r14_Num k.d.toNat w' (by omega)
      rw [show ((k.d.toNat : Nat) : Int) = k.d by omega] at this
      rw [show Lib.itoa k.d = Lib.decDigits k.d.toNat by unfold Lib.itoa; rw [if_neg h]]
      exact this
    have H1 := Lib.hid H0
    clear H0
    generalize Lib.itoa k.d = x at *
    have a1 : ∀ W, (Op.stringOp .add ⟨k.n.toArray⟩ ⟨#[46]⟩).run Tryd.prog W = .ok (encStr (k.n ++ [46])) W := fun W => by
      refine (run_string_add_sum _ _ _ (by rw [mk_size]; show k.n.length + 1 ≤ _; omega)).trans ?_
      rw [show (⟨#[46]⟩ : ByteArray) = ⟨([46] : Str).toArray⟩ from rfl, mk_app]
    have a2 : ∀ W, (Op.stringOp .add ⟨(k.n ++ [46]).toArray⟩ ⟨x.toArray⟩).run Tryd.prog W = .ok (encStr (k.n ++ [46] ++ x)) W := fun W => by
      refine (run_string_add_sum _ _ _ (by rw [mk_size, mk_size, List.length_append]; show k.n.length + 1 + _ ≤ _; omega)).trans ?_
      rw [mk_app]
    clear hl hn hd1
    generalize k.n ++ [46] ++ x = z at *
    generalize k.n ++ [46] = y at *
    go_enter Tryd.func23, Tryd.ntmps23
    go_upto_region 1 with fail
    generalize hW : (w.alloc (.cells #[encStr k.n, .int .i64 k.d] 24)) = W
    have q0_0 : W.cell? ⟨w.heap.size, 0, none⟩ = some (encStr k.n) := by rw [← hW]; simp [go_sem]
    have q0_1 : W.cell? ⟨w.heap.size, 1, none⟩ = some (.int .i64 k.d) := by rw [← hW]; simp [go_sem]
    have z0 : w.heap.size < W.heap.size := by rw [← hW]; first | (simp; done) | (simp; omega)
    have HW : Below w.heap.size w W := by rw [← hW]; exact (by repeat (first | (with_reducible assumption) | (with_reducible exact Below.refl _ _) | (with_reducible refine Below.alloc ?_ (by first | omega | (simp; omega) | (simp; done) | (dsimp only; omega)) _) | (with_reducible refine Below.setCell ?_ (by first | omega | (simp; omega) | (simp; done) | (dsimp only; omega)) _) | (with_reducible refine Below.drew ?_) | (with_reducible refine Below.trans ?_ (Below.mono (by assumption) (by first | omega | (simp; omega) | (simp; done) | (dsimp only; omega))))))
    clear hW
    go_wp2_with fail
    refine region_seq (S := fun w' => Below W.heap.size W w') rfl (by kernel_rfl) (by kernel_rfl) (by repeat (first | (with_reducible assumption) | (with_reducible exact Below.refl _ _) | (with_reducible refine Below.alloc ?_ (by first | omega | (simp; omega) | (simp; done) | (dsimp only; omega)) _) | (with_reducible refine Below.setCell ?_ (by first | omega | (simp; omega) | (simp; done) | (dsimp only; omega)) _) | (with_reducible refine Below.drew ?_) | (with_reducible refine Below.trans ?_ (Below.mono (by assumption) (by first | omega | (simp; omega) | (simp; done) | (dsimp only; omega)))))) (fun fin hfin => ?_)
    iterate 8
      first
        | (refine SeqL.yes (v := ?_) (A' := ?_) rfl (by rfl) ?_ ?_ ?_
           rotate_left 2
           · intro w' K hS hK
             obtain ⟨hc, hf⟩ := bcell hS
             have hz := hS.size
             go_simp
             first
               | exact hK.out _ hS
               | (go_at_call 36; (with_reducible refine (H1.out _).mono ?_); rintro e w1 ⟨rfl, hb1⟩; exact hK.out _ (hS.trans (hb1.mono hz)))
               | trace_state
           · simp only [Act.put, List.setIfInBounds_toArray, List.set_cons_zero, List.set_cons_succ]; exact rfl)
        | (refine SeqL.no (A' := ?_) rfl (by rfl) ?_ ?_
           rotate_left
           · simp only [Act.put, List.setIfInBounds_toArray, List.set_cons_zero, List.set_cons_succ]; exact rfl)
    refine SeqL.nil (hfin.out _ ?_)
    clear hfin fin
    intro w1 hS1
    go_wp2_with fail
    go_ret
    exact ⟨rfl, (by repeat (first | (with_reducible assumption) | (with_reducible exact Below.refl _ _) | (with_reducible refine Below.alloc ?_ (by first | omega | (simp; omega) | (simp; done) | (dsimp only; omega)) _) | (with_reducible refine Below.setCell ?_ (by first | omega | (simp; omega) | (simp; done) | (dsimp only; omega)) _) | (with_reducible refine Below.drew ?_) | (with_reducible refine Below.trans ?_ (Below.mono (by assumption) (by first | omega | (simp; omega) | (simp; done) | (dsimp only; omega))))))⟩

theorem textK_len (k : Ky) (hd0 : -9223372036854775808 ≤ k.d) (hd1 : k.d ≤ 9223372036854775807) : (textK k).length ≤ k.n.length + 22 := by
  unfold textK
  have := Lib.itoa_length_le k.d hd0 hd1
  split
  · omega
  · rw [List.length_append, List.length_append, List.length_singleton]; omega

set_option maxRecDepth 1000000 in
set_option maxHeartbeats 4000000 in
theorem law_keyTexts (k : Ky) (w : World) (hd0 : -9223372036854775808 ≤ k.d) (hd1 : k.d ≤ 9223372036854775807) (hn : k.n.length ≤ 140737488351232) (hv : RV w) (ht : TV w) :
    Calls Tryd.prog 5 #[.agg #[encStr k.n, .int .i64 k.d]] w fun e w' => e = .returned (.bool true) ∧ Below w.heap.size w w' := by
  have htl := textK_len k hd0 hd1
  have H1 := Lib.hid (fun w' (hb : Below w.heap.size w w') => key_Text k w' hd0 hd1 (by omega) (ht.mono hb))
  have H2 := Lib.hid (fun w' => r26_Text k w' hd1 (by omega))
  have H3 := Lib.hid (fun w' (hb : Below w.heap.size w w') => key_Read (textK k) w' (by omega) (hv.mono hb))
  have H4 := Lib.hid (r10_Name k.n)
  have H5 := Lib.hid (r26_Clean k)
  have HRT := Lib.hid (fun h => read_text k h hd1)
  have HL := Lib.hid (fun w' (hb : Below w.heap.size w w') => law26_lives w' (hv.mono hb) (ht.mono hb))
  clear htl hd0 hd1 hn hv ht
  generalize textK k = s at *
  go_enter Tryd.func5, Tryd.ntmps5
  go_upto_region 1 with fail
  generalize hW : (w.alloc (.cells #[encStr k.n, .int .i64 k.d] 24)) = W
  have q0_0 : W.cell? ⟨w.heap.size, 0, none⟩ = some (encStr k.n) := by rw [← hW]; simp [go_sem]
  have q0_1 : W.cell? ⟨w.heap.size, 1, none⟩ = some (.int .i64 k.d) := by rw [← hW]; simp [go_sem]
  have z0 : w.heap.size < W.heap.size := by rw [← hW]; first | (simp; done) | (simp; omega)
  have HW : Below w.heap.size w W := by rw [← hW]; exact (by repeat (first | (with_reducible assumption) | (with_reducible exact Below.refl _ _) | (with_reducible refine Below.alloc ?_ (by first | omega | (simp; omega) | (simp; done) | (dsimp only; omega)) _) | (with_reducible refine Below.setCell ?_ (by first | omega | (simp; omega) | (simp; done) | (dsimp only; omega)) _) | (with_reducible refine Below.drew ?_) | (with_reducible refine Below.trans ?_ (Below.mono (by assumption) (by first | omega | (simp; omega) | (simp; done) | (dsimp only; omega))))))
  clear hW
  go_wp2_with fail
  go_at_call 22
  refine (H1.out _ HW).mono ?_
  rintro e w1 ⟨rfl, hb1⟩
  have c0 := (hb1.cell (p := ⟨w.heap.size, 0, none⟩) z0).trans q0_0
  have c1 := (hb1.cell (p := ⟨w.heap.size, 1, none⟩) z0).trans q0_1
  have y0 := Nat.lt_of_lt_of_le z0 hb1.size
  have hB1 := HW.trans (hb1.mono HW.size)
  clear q0_0 q0_1 z0 hb1 HW H1
  go_wp2_with fail
  go_at_call 23
  refine (H2.out _).mono ?_
  rintro e w2 ⟨rfl, hb2⟩
  have d0 := (hb2.cell (p := ⟨w.heap.size, 0, none⟩) y0).trans c0
  have d1 := (hb2.cell (p := ⟨w.heap.size, 1, none⟩) y0).trans c1
  have y1 := Nat.lt_of_lt_of_le y0 hb2.size
  have hB2 := hB1.trans (hb2.mono hB1.size)
  clear c0 c1 y0 hb2 hB1 H2
  go_wp2_with fail
  go_at_call 24
  refine (H3.out _ hB2).mono ?_
  rintro e w3 ⟨rfl, hb3⟩
  have c0 := (hb3.cell (p := ⟨w.heap.size, 0, none⟩) y1).trans d0
  have c1 := (hb3.cell (p := ⟨w.heap.size, 1, none⟩) y1).trans d1
  have y2 := Nat.lt_of_lt_of_le y1 hb3.size
  have hB3 := hB2.trans (hb3.mono hB2.size)
  clear d0 d1 y1 hb3 hB2 H3
  go_upto_region 5 with fail
  cases hN : isName k.n with
  | false =>
    rw [hN] at H4
    clear HRT hN H5
    generalize readK s = R at *
    obtain ⟨⟨n, d⟩, e0⟩ := R
    dsimp only
    have hb4 : Below w3.heap.size w3 (w3.alloc (.cells #[encStr n, .int .i64 d] 24)) := (Below.refl _ w3).alloc (Nat.le_refl _) _
    have q0 := (hb4.cell (p := ⟨w.heap.size, 0, none⟩) y2).trans c0
    have q1 := (hb4.cell (p := ⟨w.heap.size, 1, none⟩) y2).trans c1
    have q2 : (w3.alloc (.cells #[encStr n, .int .i64 d] 24)).cell? ⟨w3.heap.size, 0, none⟩ = some (encStr n) := by simp [go_sem]
    have q3 : (w3.alloc (.cells #[encStr n, .int .i64 d] 24)).cell? ⟨w3.heap.size, 1, none⟩ = some (.int .i64 d) := by simp [go_sem]
    have z4 := Nat.lt_of_lt_of_le y2 hb4.size
    have z5 : w3.heap.size < (w3.alloc (.cells #[encStr n, .int .i64 d] 24)).heap.size := by simp
    have HB4 := hB3.trans (hb4.mono hB3.size)
    generalize hW4 : w3.alloc (.cells #[encStr n, .int .i64 d] 24) = W4 at *
    clear hW4 hb4 c0 c1 y2 hB3
    go_wp2_with fail
    refine region_seq (S := fun w' => Below W4.heap.size W4 w') rfl (by kernel_rfl) (by kernel_rfl) (by repeat (first | (with_reducible assumption) | (with_reducible exact Below.refl _ _) | (with_reducible refine Below.alloc ?_ (by first | omega | (simp; omega) | (simp; done) | (dsimp only; omega)) _) | (with_reducible refine Below.setCell ?_ (by first | omega | (simp; omega) | (simp; done) | (dsimp only; omega)) _) | (with_reducible refine Below.drew ?_) | (with_reducible refine Below.trans ?_ (Below.mono (by assumption) (by first | omega | (simp; omega) | (simp; done) | (dsimp only; omega)))))) (fun fin hfin => ?_)
    iterate 18
      first
        | (refine SeqL.yes (v := ?_) (A' := ?_) rfl (by rfl) ?_ ?_ ?_
           rotate_left 2
           · intro w' K hS hK
             obtain ⟨hc, hf⟩ := bcell hS
             have hz := hS.size
             go_simp
             first
               | exact hK.out _ hS
               | (go_at_call 25; (with_reducible refine (H4.out _).mono ?_); rintro e w1 ⟨rfl, hb1⟩; exact hK.out _ (hS.trans (hb1.mono hz)))
               | (go_at_call 19; (with_reducible refine (HL.out _ (HB4.trans (hS.mono HB4.size))).mono ?_); rintro e w1 ⟨rfl, hb1⟩; exact hK.out _ (hS.trans (hb1.mono hz)))
               | trace_state
           · simp only [Act.put, List.setIfInBounds_toArray, List.set_cons_zero, List.set_cons_succ]; exact rfl)
        | (refine SeqL.no (A' := ?_) rfl (by rfl) ?_ ?_
           rotate_left
           · simp only [Act.put, List.setIfInBounds_toArray, List.set_cons_zero, List.set_cons_succ]; exact rfl)
    refine SeqL.nil (hfin.out _ ?_)
    clear hfin fin
    intro w1 hS1
    go_wp2_with fail
    go_ret
    exact ⟨rfl, HB4.trans (hS1.mono HB4.size)⟩
  | true =>
    rw [hN] at H4
    have hR := HRT.out hN
    rw [hR]
    clear HRT hN hR
    dsimp only
    generalize k.cl = kc at *
    obtain ⟨n, d⟩ := kc
    dsimp only at *
    have hb4 : Below w3.heap.size w3 (w3.alloc (.cells #[encStr n, .int .i64 d] 24)) := (Below.refl _ w3).alloc (Nat.le_refl _) _
    have q0 := (hb4.cell (p := ⟨w.heap.size, 0, none⟩) y2).trans c0
    have q1 := (hb4.cell (p := ⟨w.heap.size, 1, none⟩) y2).trans c1
    have q2 : (w3.alloc (.cells #[encStr n, .int .i64 d] 24)).cell? ⟨w3.heap.size, 0, none⟩ = some (encStr n) := by simp [go_sem]
    have q3 : (w3.alloc (.cells #[encStr n, .int .i64 d] 24)).cell? ⟨w3.heap.size, 1, none⟩ = some (.int .i64 d) := by simp [go_sem]
    have z4 := Nat.lt_of_lt_of_le y2 hb4.size
    have z5 : w3.heap.size < (w3.alloc (.cells #[encStr n, .int .i64 d] 24)).heap.size := by simp
    have HB4 := hB3.trans (hb4.mono hB3.size)
    generalize hW4 : w3.alloc (.cells #[encStr n, .int .i64 d] 24) = W4 at *
    clear hW4 hb4 c0 c1 y2 hB3
    go_wp2_with fail
    refine region_seq (S := fun w' => Below W4.heap.size W4 w') rfl (by kernel_rfl) (by kernel_rfl) (by repeat (first | (with_reducible assumption) | (with_reducible exact Below.refl _ _) | (with_reducible refine Below.alloc ?_ (by first | omega | (simp; omega) | (simp; done) | (dsimp only; omega)) _) | (with_reducible refine Below.setCell ?_ (by first | omega | (simp; omega) | (simp; done) | (dsimp only; omega)) _) | (with_reducible refine Below.drew ?_) | (with_reducible refine Below.trans ?_ (Below.mono (by assumption) (by first | omega | (simp; omega) | (simp; done) | (dsimp only; omega)))))) (fun fin hfin => ?_)
    iterate 18
      first
        | (refine SeqL.yes (v := ?_) (A' := ?_) rfl (by rfl) ?_ ?_ ?_
           rotate_left 2
           · intro w' K hS hK
             obtain ⟨hc, hf⟩ := bcell hS
             have hz := hS.size
             go_simp
             first
               | exact hK.out _ hS
               | (go_at_call 25; (with_reducible refine (H4.out _).mono ?_); rintro e w1 ⟨rfl, hb1⟩; exact hK.out _ (hS.trans (hb1.mono hz)))
               | (go_at_call 17; (with_reducible refine (H5.out _).mono ?_); rintro e w1 ⟨rfl, hb1⟩; exact hK.out _ (hS.trans (hb1.mono hz)))
               | (go_at_call 19; (with_reducible refine (HL.out _ (HB4.trans (hS.mono HB4.size))).mono ?_); rintro e w1 ⟨rfl, hb1⟩; exact hK.out _ (hS.trans (hb1.mono hz)))
               | trace_state
           · simp only [Act.put, List.setIfInBounds_toArray, List.set_cons_zero, List.set_cons_succ]; exact rfl)
        | (refine SeqL.no (A' := ?_) rfl (by rfl) ?_ ?_
           rotate_left
           · simp only [Act.put, List.setIfInBounds_toArray, List.set_cons_zero, List.set_cons_succ]; exact rfl)
    refine SeqL.nil (hfin.out _ ?_)
    clear hfin fin
    intro w1 hS1
    go_wp2_with fail
    go_ret
    exact ⟨rfl, HB4.trans (hS1.mono HB4.size)⟩
end Go.Proofs.YtoclpodjigfmgaaDoor
