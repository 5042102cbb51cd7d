/- X-PARTIAL The law KeyTexts, walked: layer 26. -/
import Derived.Test.YtfammopenanapaaDoorKeyQ
namespace Go.Proofs.YtfammopenanapaaDoor
open Go.RowKit Go.Lib

set_option maxRecDepth 100000 in
set_option maxHeartbeats 2000000 in
theorem r26_Text (k : Ky) (w : World) (hd1 : k.d ≤ 9223372036854775807) (hn : k.n.length ≤ 281474976710000) :
    Calls Tryd.prog 23 #[.agg #[encStr k.n, .int .i64 k.d]] w fun e w' => e = .returned (encStr (textK k)) ∧ Below w.heap.size w w' := by
  unfold textK
  by_cases h : k.d < 0
  · rw [if_pos h]
    go_enter Tryd.func23, Tryd.ntmps23
    go_wp2_with fail
    go_ret
    exact ⟨rfl, (by repeat (first | (with_reducible assumption) | (with_reducible exact Below.refl _ _) | (with_reducible refine Below.alloc ?_ (by first | omega | (simp; omega) | (simp; done) | (dsimp only; omega)) _) | (with_reducible refine Below.setCell ?_ (by first | omega | (simp; omega) | (simp; done) | (dsimp only; omega)) _) | (with_reducible refine Below.drew ?_) | (with_reducible refine Below.trans ?_ (Below.mono (by assumption) (by first | omega | (simp; omega) | (simp; done) | (dsimp only; omega))))))⟩
  · rw [if_neg h]
    have hl := Lib.itoa_length_le k.d (by omega) hd1
    have H0 : ∀ w', Calls Tryd.prog 24 #[.int .i64 k.d] w' fun e w'' => e = .returned (encStr (Lib.itoa k.d)) ∧ Below w'.heap.size w' w'' := fun w' => by
      have := r14_Num k.d.toNat w' (by omega)
      rw [show ((k.d.toNat : Nat) : Int) = k.d by omega] at this
      rw [show Lib.itoa k.d = Lib.decDigits k.d.toNat by unfold Lib.itoa; rw [if_neg h]]
      exact this
    have H1 := Lib.hid H0
    clear H0
    generalize Lib.itoa k.d = x at *
    have a1 : ∀ W, (Op.stringOp .add ⟨k.n.toArray⟩ ⟨#[46]⟩).run Tryd.prog W = .ok (encStr (k.n ++ [46])) W := fun W => by
      refine (run_string_add_sum _ _ _ (by rw [mk_size]; show k.n.length + 1 ≤ _; omega)).trans ?_
      rw [show (⟨#[46]⟩ : ByteArray) = ⟨([46] : Str).toArray⟩ from rfl, mk_app]
    have a2 : ∀ W, (Op.stringOp .add ⟨(k.n ++ [46]).toArray⟩ ⟨x.toArray⟩).run Tryd.prog W = .ok (encStr (k.n ++ [46] ++ x)) W := fun W => by
      refine (run_string_add_sum _ _ _ (by rw [mk_size, mk_size, List.length_append]; show k.n.length + 1 + _ ≤ _; omega)).trans ?_
      rw [mk_app]
    clear hl hn hd1
    generalize k.n ++ [46] ++ x = z at *
    generalize k.n ++ [46] = y at *
    go_enter Tryd.func23, Tryd.ntmps23
    go_upto_region 1 with fail
    generalize hW : (w.alloc (.cells #[encStr k.n, .int .i64 k.d] 52)) = W
    have q0_0 : W.cell? ⟨w.heap.size, 0, none⟩ = some (encStr k.n) := by rw [← hW]; simp [go_sem]
    have q0_1 : W.cell? ⟨w.heap.size, 1, none⟩ = some (.int .i64 k.d) := by rw [← hW]; simp [go_sem]
    have z0 : w.heap.size < W.heap.size := by rw [← hW]; first | (simp; done) | (simp; omega)
    have HW : Below w.heap.size w W := by rw [← hW]; exact (by repeat (first | (with_reducible assumption) | (with_reducible exact Below.refl _ _) | (with_reducible refine Below.alloc ?_ (by first | omega | (simp; omega) | (simp; done) | (dsimp only; omega)) _) | (with_reducible refine Below.setCell ?_ (by first | omega | (simp; omega) | (simp; done) | (dsimp only; omega)) _) | (with_reducible refine Below.drew ?_) | (with_reducible refine Below.trans ?_ (Below.mono (by assumption) (by first | omega | (simp; omega) | (simp; done) | (dsimp only; omega))))))
    clear hW
    go_wp2_with fail
    refine region_seq (S := fun w' => Below W.heap.size W w') rfl (by kernel_rfl) (by kernel_rfl) (by repeat (first | (with_reducible assumption) | (with_reducible exact Below.refl _ _) | (with_reducible refine Below.alloc ?_ (by first | omega | (simp; omega) | (simp; done) | (dsimp only; omega)) _) | (with_reducible refine Below.setCell ?_ (by first | omega | (simp; omega) | (simp; done) | (dsimp only; omega)) _) | (with_reducible refine Below.drew ?_) | (with_reducible refine Below.trans ?_ (Below.mono (by assumption) (by first | omega | (simp; omega) | (simp; done) | (dsimp only; omega)))))) (fun fin hfin => ?_)
    iterate 8
      first
        | (refine SeqL.yes (v := ?_) (A' := ?_) rfl (by rfl) ?_ ?_ ?_
           rotate_left 2
           · intro w' K hS hK
             obtain ⟨hc, hf⟩ := bcell hS
             have hz := hS.size
             go_simp
             first
               | exact hK.out _ hS
               | (go_at_call 24; (with_reducible refine (H1.out _).mono ?_); rintro e w1 ⟨rfl, hb1⟩; exact hK.out _ (hS.trans (hb1.mono hz)))
               | trace_state
           · simp only [Act.put, List.setIfInBounds_toArray, List.set_cons_zero, List.set_cons_succ]; exact rfl)
        | (refine SeqL.no (A' := ?_) rfl (by rfl) ?_ ?_
           rotate_left
           · simp only [Act.put, List.setIfInBounds_toArray, List.set_cons_zero, List.set_cons_succ]; exact rfl)
    refine SeqL.nil (hfin.out _ ?_)
    clear hfin fin
    intro w1 hS1
    go_wp2_with fail
    go_ret
    exact ⟨rfl, (by repeat (first | (with_reducible assumption) | (with_reducible exact Below.refl _ _) | (with_reducible refine Below.alloc ?_ (by first | omega | (simp; omega) | (simp; done) | (dsimp only; omega)) _) | (with_reducible refine Below.setCell ?_ (by first | omega | (simp; omega) | (simp; done) | (dsimp only; omega)) _) | (with_reducible refine Below.drew ?_) | (with_reducible refine Below.trans ?_ (Below.mono (by assumption) (by first | omega | (simp; omega) | (simp; done) | (dsimp only; omega))))))⟩

theorem textK_len (k : Ky) (hd0 : -9223372036854775808 ≤ k.d) (hd1 : k.d ≤ 9223372036854775807) : (textK k).length ≤ k.n.length + 22 := by
  unfold textK
  have := Lib.itoa_length_le k.d hd0 hd1
  split
  · omega
  · rw [List.length_append, List.length_append, List.length_singleton]; omega

end Go.Proofs.YtfammopenanapaaDoor
