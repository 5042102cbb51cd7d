/- Texts ReckO, ReckP, ReckQ. -/
import Derived.Test.YtdphjfppfngcmaaReckZ
/- What reckon.decided and reckon.truth return: layer 4. -/
namespace Go.Proofs.Ytdphjfppfngcmaa
open Go.RowKit

def eqP (a b : Sp) : Bool := a.lo == a.hi && a.eqb b
def zeroP (a : Sp) : Bool := a.eqb ⟨true, 0, 0⟩

set_option maxHeartbeats 2000000 in
theorem reckon_dec_12 (a b : Sp) (w : World) :
    Calls Try.prog 60 #[.int .i64 12, .agg #[.bool a.s, .int .i64 a.lo, .int .i64 a.hi], .agg #[.bool b.s, .int .i64 b.lo, .int .i64 b.hi]] w fun e w' => e = .returned (.tuple #[.bool (decide (a.hi < b.lo)), .bool (decide (b.hi ≤ a.lo))]) ∧ Below w.heap.size w w' := by
  go_enter Try.func60, Try.ntmps60
  go_upto_region 1 with fail
  generalize hW : ((w.alloc (.cells #[.bool a.s, .int .i64 a.lo, .int .i64 a.hi] 23)).alloc (.cells #[.bool b.s, .int .i64 b.lo, .int .i64 b.hi] 23)) = W
  have q0_0 : W.cell? ⟨w.heap.size, 0, none⟩ = some (.bool a.s) := by rw [← hW]; simp [go_sem]
  have q0_1 : W.cell? ⟨w.heap.size, 1, none⟩ = some (.int .i64 a.lo) := by rw [← hW]; simp [go_sem]
  have q0_2 : W.cell? ⟨w.heap.size, 2, none⟩ = some (.int .i64 a.hi) := by rw [← hW]; simp [go_sem]
  have q1_0 : W.cell? ⟨w.heap.size + 1, 0, none⟩ = some (.bool b.s) := by rw [← hW]; simp [go_sem]
  have q1_1 : W.cell? ⟨w.heap.size + 1, 1, none⟩ = some (.int .i64 b.lo) := by rw [← hW]; simp [go_sem]
  have q1_2 : W.cell? ⟨w.heap.size + 1, 2, none⟩ = some (.int .i64 b.hi) := by rw [← hW]; simp [go_sem]
  have z0 : w.heap.size < W.heap.size := by rw [← hW]; first | (simp; done) | (simp; omega)
  have z1 : w.heap.size + 1 < W.heap.size := by rw [← hW]; first | (simp; done) | (simp; omega)
  have HW : Below w.heap.size w W := by rw [← hW]; exact (by repeat (first | (with_reducible assumption) | (with_reducible exact Below.refl _ _) | (with_reducible refine Below.alloc ?_ (by first | omega | (simp; omega) | (simp; done) | (dsimp only; omega)) _) | (with_reducible refine Below.setCell ?_ (by first | omega | (simp; omega) | (simp; done) | (dsimp only; omega)) _) | (with_reducible refine Below.drew ?_) | (with_reducible refine Below.trans ?_ (Below.mono (by assumption) (by first | omega | (simp; omega) | (simp; done) | (dsimp only; omega))))))
  clear hW
  go_upto_region 3 with fail
  refine region_seq (S := fun w' => Below W.heap.size W w') rfl (by kernel_rfl) (by kernel_rfl) (by repeat (first | (with_reducible assumption) | (with_reducible exact Below.refl _ _) | (with_reducible refine Below.alloc ?_ (by first | omega | (simp; omega) | (simp; done) | (dsimp only; omega)) _) | (with_reducible refine Below.setCell ?_ (by first | omega | (simp; omega) | (simp; done) | (dsimp only; omega)) _) | (with_reducible refine Below.drew ?_) | (with_reducible refine Below.trans ?_ (Below.mono (by assumption) (by first | omega | (simp; omega) | (simp; done) | (dsimp only; omega)))))) (fun fin hfin => ?_)
  iterate 12
    first
      | (refine SeqL.yes (v := ?_) (A' := ?_) rfl (by rfl) ?_ ?_ ?_
         rotate_left 2
         · intro w' K hS hK
           obtain ⟨hc, hf⟩ := bcell hS
           have hz := hS.size
           go_simp
           first
             | exact hK.out _ hS
             | trace_state
         · simp only [Act.put, List.setIfInBounds_toArray, List.set_cons_zero, List.set_cons_succ]; exact rfl)
      | (refine SeqL.no (A' := ?_) rfl (by rfl) ?_ ?_
         rotate_left
         · simp only [Act.put, List.setIfInBounds_toArray, List.set_cons_zero, List.set_cons_succ]; exact rfl)
  refine SeqL.nil (hfin.out _ ?_)
  clear hfin fin
  intro w1 hS1
  go_wp2
  go_ret2
  exact ⟨rfl, (by repeat (first | (with_reducible assumption) | (with_reducible exact Below.refl _ _) | (with_reducible refine Below.alloc ?_ (by first | omega | (simp; omega) | (simp; done) | (dsimp only; omega)) _) | (with_reducible refine Below.setCell ?_ (by first | omega | (simp; omega) | (simp; done) | (dsimp only; omega)) _) | (with_reducible refine Below.drew ?_) | (with_reducible refine Below.trans ?_ (Below.mono (by assumption) (by first | omega | (simp; omega) | (simp; done) | (dsimp only; omega))))))⟩

set_option maxHeartbeats 2000000 in
theorem reckon_dec_13 (a b : Sp) (w : World) :
    Calls Try.prog 60 #[.int .i64 13, .agg #[.bool a.s, .int .i64 a.lo, .int .i64 a.hi], .agg #[.bool b.s, .int .i64 b.lo, .int .i64 b.hi]] w fun e w' => e = .returned (.tuple #[.bool (decide (a.hi ≤ b.lo)), .bool (decide (b.hi < a.lo))]) ∧ Below w.heap.size w w' := by
  go_enter Try.func60, Try.ntmps60
  go_upto_region 1 with fail
  generalize hW : ((w.alloc (.cells #[.bool a.s, .int .i64 a.lo, .int .i64 a.hi] 23)).alloc (.cells #[.bool b.s, .int .i64 b.lo, .int .i64 b.hi] 23)) = W
  have q0_0 : W.cell? ⟨w.heap.size, 0, none⟩ = some (.bool a.s) := by rw [← hW]; simp [go_sem]
  have q0_1 : W.cell? ⟨w.heap.size, 1, none⟩ = some (.int .i64 a.lo) := by rw [← hW]; simp [go_sem]
  have q0_2 : W.cell? ⟨w.heap.size, 2, none⟩ = some (.int .i64 a.hi) := by rw [← hW]; simp [go_sem]
  have q1_0 : W.cell? ⟨w.heap.size + 1, 0, none⟩ = some (.bool b.s) := by rw [← hW]; simp [go_sem]
  have q1_1 : W.cell? ⟨w.heap.size + 1, 1, none⟩ = some (.int .i64 b.lo) := by rw [← hW]; simp [go_sem]
  have q1_2 : W.cell? ⟨w.heap.size + 1, 2, none⟩ = some (.int .i64 b.hi) := by rw [← hW]; simp [go_sem]
  have z0 : w.heap.size < W.heap.size := by rw [← hW]; first | (simp; done) | (simp; omega)
  have z1 : w.heap.size + 1 < W.heap.size := by rw [← hW]; first | (simp; done) | (simp; omega)
  have HW : Below w.heap.size w W := by rw [← hW]; exact (by repeat (first | (with_reducible assumption) | (with_reducible exact Below.refl _ _) | (with_reducible refine Below.alloc ?_ (by first | omega | (simp; omega) | (simp; done) | (dsimp only; omega)) _) | (with_reducible refine Below.setCell ?_ (by first | omega | (simp; omega) | (simp; done) | (dsimp only; omega)) _) | (with_reducible refine Below.drew ?_) | (with_reducible refine Below.trans ?_ (Below.mono (by assumption) (by first | omega | (simp; omega) | (simp; done) | (dsimp only; omega))))))
  clear hW
  go_upto_region 5 with fail
  refine region_seq (S := fun w' => Below W.heap.size W w') rfl (by kernel_rfl) (by kernel_rfl) (by repeat (first | (with_reducible assumption) | (with_reducible exact Below.refl _ _) | (with_reducible refine Below.alloc ?_ (by first | omega | (simp; omega) | (simp; done) | (dsimp only; omega)) _) | (with_reducible refine Below.setCell ?_ (by first | omega | (simp; omega) | (simp; done) | (dsimp only; omega)) _) | (with_reducible refine Below.drew ?_) | (with_reducible refine Below.trans ?_ (Below.mono (by assumption) (by first | omega | (simp; omega) | (simp; done) | (dsimp only; omega)))))) (fun fin hfin => ?_)
  iterate 12
    first
      | (refine SeqL.yes (v := ?_) (A' := ?_) rfl (by rfl) ?_ ?_ ?_
         rotate_left 2
         · intro w' K hS hK
           obtain ⟨hc, hf⟩ := bcell hS
           have hz := hS.size
           go_simp
           first
             | exact hK.out _ hS
             | trace_state
         · simp only [Act.put, List.setIfInBounds_toArray, List.set_cons_zero, List.set_cons_succ]; exact rfl)
      | (refine SeqL.no (A' := ?_) rfl (by rfl) ?_ ?_
         rotate_left
         · simp only [Act.put, List.setIfInBounds_toArray, List.set_cons_zero, List.set_cons_succ]; exact rfl)
  refine SeqL.nil (hfin.out _ ?_)
  clear hfin fin
  intro w1 hS1
  go_wp2
  go_ret2
  exact ⟨rfl, (by repeat (first | (with_reducible assumption) | (with_reducible exact Below.refl _ _) | (with_reducible refine Below.alloc ?_ (by first | omega | (simp; omega) | (simp; done) | (dsimp only; omega)) _) | (with_reducible refine Below.setCell ?_ (by first | omega | (simp; omega) | (simp; done) | (dsimp only; omega)) _) | (with_reducible refine Below.drew ?_) | (with_reducible refine Below.trans ?_ (Below.mono (by assumption) (by first | omega | (simp; omega) | (simp; done) | (dsimp only; omega))))))⟩

set_option maxHeartbeats 2000000 in
theorem reckon_dec_14 (a b : Sp) (w : World) :
    Calls Try.prog 60 #[.int .i64 14, .agg #[.bool a.s, .int .i64 a.lo, .int .i64 a.hi], .agg #[.bool b.s, .int .i64 b.lo, .int .i64 b.hi]] w fun e w' => e = .returned (.tuple #[.bool (eqP a b), .bool ((a.meet b).none)]) ∧ Below w.heap.size w w' := by
  have HE : Hid (∀ w, Calls Try.prog 78 #[.agg #[.bool a.s, .int .i64 a.lo, .int .i64 a.hi], .agg #[.bool b.s, .int .i64 b.lo, .int .i64 b.hi]] w fun e w' => e = .returned (.bool (eqP a b)) ∧ Below w.heap.size w w') := Lib.hid (reckon_equal a b)
  have HA := Lib.hid (reckon_apart a b)
  generalize eqP a b = q at *
  generalize (a.meet b).none = p at *
  go_enter Try.func60, Try.ntmps60
  go_upto_region 1 with fail
  generalize hW : ((w.alloc (.cells #[.bool a.s, .int .i64 a.lo, .int .i64 a.hi] 23)).alloc (.cells #[.bool b.s, .int .i64 b.lo, .int .i64 b.hi] 23)) = W
  have q0_0 : W.cell? ⟨w.heap.size, 0, none⟩ = some (.bool a.s) := by rw [← hW]; simp [go_sem]
  have q0_1 : W.cell? ⟨w.heap.size, 1, none⟩ = some (.int .i64 a.lo) := by rw [← hW]; simp [go_sem]
  have q0_2 : W.cell? ⟨w.heap.size, 2, none⟩ = some (.int .i64 a.hi) := by rw [← hW]; simp [go_sem]
  have q1_0 : W.cell? ⟨w.heap.size + 1, 0, none⟩ = some (.bool b.s) := by rw [← hW]; simp [go_sem]
  have q1_1 : W.cell? ⟨w.heap.size + 1, 1, none⟩ = some (.int .i64 b.lo) := by rw [← hW]; simp [go_sem]
  have q1_2 : W.cell? ⟨w.heap.size + 1, 2, none⟩ = some (.int .i64 b.hi) := by rw [← hW]; simp [go_sem]
  have z0 : w.heap.size < W.heap.size := by rw [← hW]; first | (simp; done) | (simp; omega)
  have z1 : w.heap.size + 1 < W.heap.size := by rw [← hW]; first | (simp; done) | (simp; omega)
  have HW : Below w.heap.size w W := by rw [← hW]; exact (by repeat (first | (with_reducible assumption) | (with_reducible exact Below.refl _ _) | (with_reducible refine Below.alloc ?_ (by first | omega | (simp; omega) | (simp; done) | (dsimp only; omega)) _) | (with_reducible refine Below.setCell ?_ (by first | omega | (simp; omega) | (simp; done) | (dsimp only; omega)) _) | (with_reducible refine Below.drew ?_) | (with_reducible refine Below.trans ?_ (Below.mono (by assumption) (by first | omega | (simp; omega) | (simp; done) | (dsimp only; omega))))))
  clear hW
  go_upto_region 7 with fail
  refine region_seq (S := fun w' => Below W.heap.size W w') rfl (by kernel_rfl) (by kernel_rfl) (by repeat (first | (with_reducible assumption) | (with_reducible exact Below.refl _ _) | (with_reducible refine Below.alloc ?_ (by first | omega | (simp; omega) | (simp; done) | (dsimp only; omega)) _) | (with_reducible refine Below.setCell ?_ (by first | omega | (simp; omega) | (simp; done) | (dsimp only; omega)) _) | (with_reducible refine Below.drew ?_) | (with_reducible refine Below.trans ?_ (Below.mono (by assumption) (by first | omega | (simp; omega) | (simp; done) | (dsimp only; omega)))))) (fun fin hfin => ?_)
  iterate 8
    first
      | (refine SeqL.yes (v := ?_) (A' := ?_) rfl (by rfl) ?_ ?_ ?_
         rotate_left 2
         · intro w' K hS hK
           obtain ⟨hc, hf⟩ := bcell hS
           have hz := hS.size
           go_simp
           first
             | exact hK.out _ hS
             | (go_at_call 78; (with_reducible refine (HE.out _).mono ?_); rintro e w1 ⟨rfl, hb1⟩; exact hK.out _ (hS.trans (hb1.mono hz)))
             | (go_at_call 79; (with_reducible refine (HA.out _).mono ?_); rintro e w1 ⟨rfl, hb1⟩; exact hK.out _ (hS.trans (hb1.mono hz)))
             | trace_state
         · simp only [Act.put, List.setIfInBounds_toArray, List.set_cons_zero, List.set_cons_succ]; exact rfl)
      | (refine SeqL.no (A' := ?_) rfl (by rfl) ?_ ?_
         rotate_left
         · simp only [Act.put, List.setIfInBounds_toArray, List.set_cons_zero, List.set_cons_succ]; exact rfl)
  refine SeqL.nil (hfin.out _ ?_)
  clear hfin fin
  intro w1 hS1
  go_wp2
  go_ret2
  exact ⟨rfl, (by repeat (first | (with_reducible assumption) | (with_reducible exact Below.refl _ _) | (with_reducible refine Below.alloc ?_ (by first | omega | (simp; omega) | (simp; done) | (dsimp only; omega)) _) | (with_reducible refine Below.setCell ?_ (by first | omega | (simp; omega) | (simp; done) | (dsimp only; omega)) _) | (with_reducible refine Below.drew ?_) | (with_reducible refine Below.trans ?_ (Below.mono (by assumption) (by first | omega | (simp; omega) | (simp; done) | (dsimp only; omega))))))⟩

set_option maxHeartbeats 2000000 in
theorem reckon_dec_15 (a b : Sp) (w : World) :
    Calls Try.prog 60 #[.int .i64 15, .agg #[.bool a.s, .int .i64 a.lo, .int .i64 a.hi], .agg #[.bool b.s, .int .i64 b.lo, .int .i64 b.hi]] w fun e w' => e = .returned (.tuple #[.bool ((a.meet b).none), .bool (eqP a b)]) ∧ Below w.heap.size w w' := by
  have HE : Hid (∀ w, Calls Try.prog 78 #[.agg #[.bool a.s, .int .i64 a.lo, .int .i64 a.hi], .agg #[.bool b.s, .int .i64 b.lo, .int .i64 b.hi]] w fun e w' => e = .returned (.bool (eqP a b)) ∧ Below w.heap.size w w') := Lib.hid (reckon_equal a b)
  have HA := Lib.hid (reckon_apart a b)
  generalize eqP a b = q at *
  generalize (a.meet b).none = p at *
  go_enter Try.func60, Try.ntmps60
  go_upto_region 1 with fail
  generalize hW : ((w.alloc (.cells #[.bool a.s, .int .i64 a.lo, .int .i64 a.hi] 23)).alloc (.cells #[.bool b.s, .int .i64 b.lo, .int .i64 b.hi] 23)) = W
  have q0_0 : W.cell? ⟨w.heap.size, 0, none⟩ = some (.bool a.s) := by rw [← hW]; simp [go_sem]
  have q0_1 : W.cell? ⟨w.heap.size, 1, none⟩ = some (.int .i64 a.lo) := by rw [← hW]; simp [go_sem]
  have q0_2 : W.cell? ⟨w.heap.size, 2, none⟩ = some (.int .i64 a.hi) := by rw [← hW]; simp [go_sem]
  have q1_0 : W.cell? ⟨w.heap.size + 1, 0, none⟩ = some (.bool b.s) := by rw [← hW]; simp [go_sem]
  have q1_1 : W.cell? ⟨w.heap.size + 1, 1, none⟩ = some (.int .i64 b.lo) := by rw [← hW]; simp [go_sem]
  have q1_2 : W.cell? ⟨w.heap.size + 1, 2, none⟩ = some (.int .i64 b.hi) := by rw [← hW]; simp [go_sem]
  have z0 : w.heap.size < W.heap.size := by rw [← hW]; first | (simp; done) | (simp; omega)
  have z1 : w.heap.size + 1 < W.heap.size := by rw [← hW]; first | (simp; done) | (simp; omega)
  have HW : Below w.heap.size w W := by rw [← hW]; exact (by repeat (first | (with_reducible assumption) | (with_reducible exact Below.refl _ _) | (with_reducible refine Below.alloc ?_ (by first | omega | (simp; omega) | (simp; done) | (dsimp only; omega)) _) | (with_reducible refine Below.setCell ?_ (by first | omega | (simp; omega) | (simp; done) | (dsimp only; omega)) _) | (with_reducible refine Below.drew ?_) | (with_reducible refine Below.trans ?_ (Below.mono (by assumption) (by first | omega | (simp; omega) | (simp; done) | (dsimp only; omega))))))
  clear hW
  go_upto_region 9 with fail
  refine region_seq (S := fun w' => Below W.heap.size W w') rfl (by kernel_rfl) (by kernel_rfl) (by repeat (first | (with_reducible assumption) | (with_reducible exact Below.refl _ _) | (with_reducible refine Below.alloc ?_ (by first | omega | (simp; omega) | (simp; done) | (dsimp only; omega)) _) | (with_reducible refine Below.setCell ?_ (by first | omega | (simp; omega) | (simp; done) | (dsimp only; omega)) _) | (with_reducible refine Below.drew ?_) | (with_reducible refine Below.trans ?_ (Below.mono (by assumption) (by first | omega | (simp; omega) | (simp; done) | (dsimp only; omega)))))) (fun fin hfin => ?_)
  iterate 8
    first
      | (refine SeqL.yes (v := ?_) (A' := ?_) rfl (by rfl) ?_ ?_ ?_
         rotate_left 2
         · intro w' K hS hK
           obtain ⟨hc, hf⟩ := bcell hS
           have hz := hS.size
           go_simp
           first
             | exact hK.out _ hS
             | (go_at_call 78; (with_reducible refine (HE.out _).mono ?_); rintro e w1 ⟨rfl, hb1⟩; exact hK.out _ (hS.trans (hb1.mono hz)))
             | (go_at_call 79; (with_reducible refine (HA.out _).mono ?_); rintro e w1 ⟨rfl, hb1⟩; exact hK.out _ (hS.trans (hb1.mono hz)))
             | trace_state
         · simp only [Act.put, List.setIfInBounds_toArray, List.set_cons_zero, List.set_cons_succ]; exact rfl)
      | (refine SeqL.no (A' := ?_) rfl (by rfl) ?_ ?_
         rotate_left
         · simp only [Act.put, List.setIfInBounds_toArray, List.set_cons_zero, List.set_cons_succ]; exact rfl)
  refine SeqL.nil (hfin.out _ ?_)
  clear hfin fin
  intro w1 hS1
  go_wp2
  go_ret2
  exact ⟨rfl, (by repeat (first | (with_reducible assumption) | (with_reducible exact Below.refl _ _) | (with_reducible refine Below.alloc ?_ (by first | omega | (simp; omega) | (simp; done) | (dsimp only; omega)) _) | (with_reducible refine Below.setCell ?_ (by first | omega | (simp; omega) | (simp; done) | (dsimp only; omega)) _) | (with_reducible refine Below.drew ?_) | (with_reducible refine Below.trans ?_ (Below.mono (by assumption) (by first | omega | (simp; omega) | (simp; done) | (dsimp only; omega))))))⟩

set_option maxHeartbeats 2000000 in
theorem reckon_dec_16 (a b : Sp) (w : World) :
    Calls Try.prog 60 #[.int .i64 16, .agg #[.bool a.s, .int .i64 a.lo, .int .i64 a.hi], .agg #[.bool b.s, .int .i64 b.lo, .int .i64 b.hi]] w fun e w' => e = .returned (.tuple #[.bool (!a.has 0 && !b.has 0), .bool (zeroP a || zeroP b)]) ∧ Below w.heap.size w w' := by
  have HA := Lib.hid (span_has a 0)
  have HB := Lib.hid (span_has b 0)
  have ZA : Hid (∀ w, Calls Try.prog 80 #[.agg #[.bool a.s, .int .i64 a.lo, .int .i64 a.hi]] w fun e w' => e = .returned (.bool (zeroP a)) ∧ Below w.heap.size w w') := Lib.hid (reckon_zero a)
  have ZB : Hid (∀ w, Calls Try.prog 80 #[.agg #[.bool b.s, .int .i64 b.lo, .int .i64 b.hi]] w fun e w' => e = .returned (.bool (zeroP b)) ∧ Below w.heap.size w w') := Lib.hid (reckon_zero b)
  generalize a.has 0 = x1 at *
  generalize b.has 0 = x2 at *
  generalize zeroP a = z1 at *
  generalize zeroP b = z2 at *
  cases x1 <;> cases x2 <;> cases z1 <;> cases z2
  all_goals
    go_enter Try.func60, Try.ntmps60
    go_upto_region 1 with fail
    generalize hW : ((w.alloc (.cells #[.bool a.s, .int .i64 a.lo, .int .i64 a.hi] 23)).alloc (.cells #[.bool b.s, .int .i64 b.lo, .int .i64 b.hi] 23)) = W
    have q0_0 : W.cell? ⟨w.heap.size, 0, none⟩ = some (.bool a.s) := by rw [← hW]; simp [go_sem]
    have q0_1 : W.cell? ⟨w.heap.size, 1, none⟩ = some (.int .i64 a.lo) := by rw [← hW]; simp [go_sem]
    have q0_2 : W.cell? ⟨w.heap.size, 2, none⟩ = some (.int .i64 a.hi) := by rw [← hW]; simp [go_sem]
    have q1_0 : W.cell? ⟨w.heap.size + 1, 0, none⟩ = some (.bool b.s) := by rw [← hW]; simp [go_sem]
    have q1_1 : W.cell? ⟨w.heap.size + 1, 1, none⟩ = some (.int .i64 b.lo) := by rw [← hW]; simp [go_sem]
    have q1_2 : W.cell? ⟨w.heap.size + 1, 2, none⟩ = some (.int .i64 b.hi) := by rw [← hW]; simp [go_sem]
    have z0 : w.heap.size < W.heap.size := by rw [← hW]; first | (simp; done) | (simp; omega)
    have z1 : w.heap.size + 1 < W.heap.size := by rw [← hW]; first | (simp; done) | (simp; omega)
    have HW : Below w.heap.size w W := by rw [← hW]; exact (by repeat (first | (with_reducible assumption) | (with_reducible exact Below.refl _ _) | (with_reducible refine Below.alloc ?_ (by first | omega | (simp; omega) | (simp; done) | (dsimp only; omega)) _) | (with_reducible refine Below.setCell ?_ (by first | omega | (simp; omega) | (simp; done) | (dsimp only; omega)) _) | (with_reducible refine Below.drew ?_) | (with_reducible refine Below.trans ?_ (Below.mono (by assumption) (by first | omega | (simp; omega) | (simp; done) | (dsimp only; omega))))))
    clear hW
    go_upto_region 11 with fail
    refine region_seq (S := fun w' => Below W.heap.size W w') rfl (by kernel_rfl) (by kernel_rfl) (by repeat (first | (with_reducible assumption) | (with_reducible exact Below.refl _ _) | (with_reducible refine Below.alloc ?_ (by first | omega | (simp; omega) | (simp; done) | (dsimp only; omega)) _) | (with_reducible refine Below.setCell ?_ (by first | omega | (simp; omega) | (simp; done) | (dsimp only; omega)) _) | (with_reducible refine Below.drew ?_) | (with_reducible refine Below.trans ?_ (Below.mono (by assumption) (by first | omega | (simp; omega) | (simp; done) | (dsimp only; omega)))))) (fun fin hfin => ?_)
    iterate 16
      first
        | (refine SeqL.yes (v := ?_) (A' := ?_) rfl (by rfl) ?_ ?_ ?_
           rotate_left 2
           · intro w' K hS hK
             obtain ⟨hc, hf⟩ := bcell hS
             have hz := hS.size
             go_simp
             first
               | exact hK.out _ hS
               | (go_at_call 20; (with_reducible refine (HA.out _).mono ?_); rintro e w1 ⟨rfl, hb1⟩; exact hK.out _ (hS.trans (hb1.mono hz)))
               | (go_at_call 20; (with_reducible refine (HB.out _).mono ?_); rintro e w1 ⟨rfl, hb1⟩; exact hK.out _ (hS.trans (hb1.mono hz)))
               | (go_at_call 80; (with_reducible refine (ZA.out _).mono ?_); rintro e w1 ⟨rfl, hb1⟩; exact hK.out _ (hS.trans (hb1.mono hz)))
               | (go_at_call 80; (with_reducible refine (ZB.out _).mono ?_); rintro e w1 ⟨rfl, hb1⟩; exact hK.out _ (hS.trans (hb1.mono hz)))
               | trace_state
           · simp only [Act.put, List.setIfInBounds_toArray, List.set_cons_zero, List.set_cons_succ]; exact rfl)
        | (refine SeqL.no (A' := ?_) rfl (by rfl) ?_ ?_
           rotate_left
           · simp only [Act.put, List.setIfInBounds_toArray, List.set_cons_zero, List.set_cons_succ]; exact rfl)
    refine SeqL.nil (hfin.out _ ?_)
    clear hfin fin
    intro w1 hS1
    go_wp2
    go_ret2
    exact ⟨rfl, (by repeat (first | (with_reducible assumption) | (with_reducible exact Below.refl _ _) | (with_reducible refine Below.alloc ?_ (by first | omega | (simp; omega) | (simp; done) | (dsimp only; omega)) _) | (with_reducible refine Below.setCell ?_ (by first | omega | (simp; omega) | (simp; done) | (dsimp only; omega)) _) | (with_reducible refine Below.drew ?_) | (with_reducible refine Below.trans ?_ (Below.mono (by assumption) (by first | omega | (simp; omega) | (simp; done) | (dsimp only; omega))))))⟩

set_option maxHeartbeats 2000000 in
theorem reckon_dec_17 (a b : Sp) (w : World) :
    Calls Try.prog 60 #[.int .i64 17, .agg #[.bool a.s, .int .i64 a.lo, .int .i64 a.hi], .agg #[.bool b.s, .int .i64 b.lo, .int .i64 b.hi]] w fun e w' => e = .returned (.tuple #[.bool (!a.has 0 || !b.has 0), .bool (zeroP a && zeroP b)]) ∧ Below w.heap.size w w' := by
  have HA := Lib.hid (span_has a 0)
  have HB := Lib.hid (span_has b 0)
  have ZA : Hid (∀ w, Calls Try.prog 80 #[.agg #[.bool a.s, .int .i64 a.lo, .int .i64 a.hi]] w fun e w' => e = .returned (.bool (zeroP a)) ∧ Below w.heap.size w w') := Lib.hid (reckon_zero a)
  have ZB : Hid (∀ w, Calls Try.prog 80 #[.agg #[.bool b.s, .int .i64 b.lo, .int .i64 b.hi]] w fun e w' => e = .returned (.bool (zeroP b)) ∧ Below w.heap.size w w') := Lib.hid (reckon_zero b)
  generalize a.has 0 = x1 at *
  generalize b.has 0 = x2 at *
  generalize zeroP a = z1 at *
  generalize zeroP b = z2 at *
  cases x1 <;> cases x2 <;> cases z1 <;> cases z2
  all_goals
    go_enter Try.func60, Try.ntmps60
    go_upto_region 1 with fail
    generalize hW : ((w.alloc (.cells #[.bool a.s, .int .i64 a.lo, .int .i64 a.hi] 23)).alloc (.cells #[.bool b.s, .int .i64 b.lo, .int .i64 b.hi] 23)) = W
    have q0_0 : W.cell? ⟨w.heap.size, 0, none⟩ = some (.bool a.s) := by rw [← hW]; simp [go_sem]
    have q0_1 : W.cell? ⟨w.heap.size, 1, none⟩ = some (.int .i64 a.lo) := by rw [← hW]; simp [go_sem]
    have q0_2 : W.cell? ⟨w.heap.size, 2, none⟩ = some (.int .i64 a.hi) := by rw [← hW]; simp [go_sem]
    have q1_0 : W.cell? ⟨w.heap.size + 1, 0, none⟩ = some (.bool b.s) := by rw [← hW]; simp [go_sem]
    have q1_1 : W.cell? ⟨w.heap.size + 1, 1, none⟩ = some (.int .i64 b.lo) := by rw [← hW]; simp [go_sem]
    have q1_2 : W.cell? ⟨w.heap.size + 1, 2, none⟩ = some (.int .i64 b.hi) := by rw [← hW]; simp [go_sem]
    have z0 : w.heap.size < W.heap.size := by rw [← hW]; first | (simp; done) | (simp; omega)
    have z1 : w.heap.size + 1 < W.heap.size := by rw [← hW]; first | (simp; done) | (simp; omega)
    have HW : Below w.heap.size w W := by rw [← hW]; exact (by repeat (first | (with_reducible assumption) | (with_reducible exact Below.refl _ _) | (with_reducible refine Below.alloc ?_ (by first | omega | (simp; omega) | (simp; done) | (dsimp only; omega)) _) | (with_reducible refine Below.setCell ?_ (by first | omega | (simp; omega) | (simp; done) | (dsimp only; omega)) _) | (with_reducible refine Below.drew ?_) | (with_reducible refine Below.trans ?_ (Below.mono (by assumption) (by first | omega | (simp; omega) | (simp; done) | (dsimp only; omega))))))
    clear hW
    go_upto_region 12 with fail
    refine region_seq (S := fun w' => Below W.heap.size W w') rfl (by kernel_rfl) (by kernel_rfl) (by repeat (first | (with_reducible assumption) | (with_reducible exact Below.refl _ _) | (with_reducible refine Below.alloc ?_ (by first | omega | (simp; omega) | (simp; done) | (dsimp only; omega)) _) | (with_reducible refine Below.setCell ?_ (by first | omega | (simp; omega) | (simp; done) | (dsimp only; omega)) _) | (with_reducible refine Below.drew ?_) | (with_reducible refine Below.trans ?_ (Below.mono (by assumption) (by first | omega | (simp; omega) | (simp; done) | (dsimp only; omega)))))) (fun fin hfin => ?_)
    iterate 16
      first
        | (refine SeqL.yes (v := ?_) (A' := ?_) rfl (by rfl) ?_ ?_ ?_
           rotate_left 2
           · intro w' K hS hK
             obtain ⟨hc, hf⟩ := bcell hS
             have hz := hS.size
             go_simp
             first
               | exact hK.out _ hS
               | (go_at_call 20; (with_reducible refine (HA.out _).mono ?_); rintro e w1 ⟨rfl, hb1⟩; exact hK.out _ (hS.trans (hb1.mono hz)))
               | (go_at_call 20; (with_reducible refine (HB.out _).mono ?_); rintro e w1 ⟨rfl, hb1⟩; exact hK.out _ (hS.trans (hb1.mono hz)))
               | (go_at_call 80; (with_reducible refine (ZA.out _).mono ?_); rintro e w1 ⟨rfl, hb1⟩; exact hK.out _ (hS.trans (hb1.mono hz)))
               | (go_at_call 80; (with_reducible refine (ZB.out _).mono ?_); rintro e w1 ⟨rfl, hb1⟩; exact hK.out _ (hS.trans (hb1.mono hz)))
               | trace_state
           · simp only [Act.put, List.setIfInBounds_toArray, List.set_cons_zero, List.set_cons_succ]; exact rfl)
        | (refine SeqL.no (A' := ?_) rfl (by rfl) ?_ ?_
           rotate_left
           · simp only [Act.put, List.setIfInBounds_toArray, List.set_cons_zero, List.set_cons_succ]; exact rfl)
    refine SeqL.nil (hfin.out _ ?_)
    clear hfin fin
    intro w1 hS1
    go_wp2
    go_ret2
    exact ⟨rfl, (by repeat (first | (with_reducible assumption) | (with_reducible exact Below.refl _ _) | (with_reducible refine Below.alloc ?_ (by first | omega | (simp; omega) | (simp; done) | (dsimp only; omega)) _) | (with_reducible refine Below.setCell ?_ (by first | omega | (simp; omega) | (simp; done) | (dsimp only; omega)) _) | (with_reducible refine Below.drew ?_) | (with_reducible refine Below.trans ?_ (Below.mono (by assumption) (by first | omega | (simp; omega) | (simp; done) | (dsimp only; omega))))))⟩

end Go.Proofs.Ytdphjfppfngcmaa

/- What the document's own may of layer 4 returns. -/
namespace Go.Proofs.Ytdphjfppfngcmaa
open Go.RowKit

def oneB (a b : Sp) : Bool := a.lo == a.hi && b.lo == b.hi && a.lo == b.lo
def nzB (a : Sp) : Bool := a.lo != 0 || a.hi != 0
def mayS (op : Int) (a b : Sp) : Bool × Bool :=
  if op = 12 then (decide (a.lo < b.hi), decide (b.lo ≤ a.hi)) else if op = 13 then (decide (a.lo ≤ b.hi), decide (b.lo < a.hi))
  else if op = 14 then (!(a.meet b).none, !oneB a b) else if op = 15 then (!oneB a b, !(a.meet b).none)
  else if op = 16 then (nzB a && nzB b, a.has 0 || b.has 0) else (nzB a || nzB b, a.has 0 && b.has 0)

set_option maxRecDepth 100000 in
set_option maxHeartbeats 4000000 in
theorem r4_may (op : Int) (hop : op = 12 ∨ op = 13 ∨ op = 14 ∨ op = 15 ∨ op = 16 ∨ op = 17) (a b : Sp) (w : World) :
    Calls Try.prog 34 #[.int .i64 op, .agg #[.bool a.s, .int .i64 a.lo, .int .i64 a.hi], .agg #[.bool b.s, .int .i64 b.lo, .int .i64 b.hi]] w fun e w' => e = .returned (.tuple #[.bool (mayS op a b).1, .bool (mayS op a b).2]) ∧ Below w.heap.size w w' := by
  have HM := Lib.hid (r3_meet a b)
  have HN := Lib.hid (r3_None (a.meet b))
  have HA := Lib.hid (r3_has a 0)
  have HB := Lib.hid (r3_has b 0)
  have E12 : op = 12 → mayS op a b = (decide (a.lo < b.hi), decide (b.lo ≤ a.hi)) := fun h => by subst h; rfl
  have E13 : op = 13 → mayS op a b = (decide (a.lo ≤ b.hi), decide (b.lo < a.hi)) := fun h => by subst h; rfl
  have E14 : op = 14 → mayS op a b = (!(a.meet b).none, !oneB a b) := fun h => by subst h; rfl
  have E15 : op = 15 → mayS op a b = (!oneB a b, !(a.meet b).none) := fun h => by subst h; rfl
  have E16 : op = 16 → mayS op a b = (nzB a && nzB b, a.has 0 || b.has 0) := fun h => by subst h; rfl
  have E17 : op = 17 → mayS op a b = (nzB a || nzB b, a.has 0 && b.has 0) := fun h => by subst h; rfl
  generalize mayS op a b = r at *
  generalize a.meet b = m at *
  generalize a.has 0 = x1 at *
  generalize b.has 0 = x2 at *
  go_enter Try.func34, Try.ntmps34
  go_upto_region 1 with fail
  generalize hW : ((w.alloc (.cells #[.bool a.s, .int .i64 a.lo, .int .i64 a.hi] 23)).alloc (.cells #[.bool b.s, .int .i64 b.lo, .int .i64 b.hi] 23)) = W
  have q0_0 : W.cell? ⟨w.heap.size, 0, none⟩ = some (.bool a.s) := by rw [← hW]; simp [go_sem]
  have q0_1 : W.cell? ⟨w.heap.size, 1, none⟩ = some (.int .i64 a.lo) := by rw [← hW]; simp [go_sem]
  have q0_2 : W.cell? ⟨w.heap.size, 2, none⟩ = some (.int .i64 a.hi) := by rw [← hW]; simp [go_sem]
  have q1_0 : W.cell? ⟨w.heap.size + 1, 0, none⟩ = some (.bool b.s) := by rw [← hW]; simp [go_sem]
  have q1_1 : W.cell? ⟨w.heap.size + 1, 1, none⟩ = some (.int .i64 b.lo) := by rw [← hW]; simp [go_sem]
  have q1_2 : W.cell? ⟨w.heap.size + 1, 2, none⟩ = some (.int .i64 b.hi) := by rw [← hW]; simp [go_sem]
  have z0 : w.heap.size < W.heap.size := by rw [← hW]; first | (simp; done) | (simp; omega)
  have z1 : w.heap.size + 1 < W.heap.size := by rw [← hW]; first | (simp; done) | (simp; omega)
  have HW : Below w.heap.size w W := by rw [← hW]; exact (by repeat (first | (with_reducible assumption) | (with_reducible exact Below.refl _ _) | (with_reducible refine Below.alloc ?_ (by first | omega | (simp; omega) | (simp; done) | (dsimp only; omega)) _) | (with_reducible refine Below.setCell ?_ (by first | omega | (simp; omega) | (simp; done) | (dsimp only; omega)) _) | (with_reducible refine Below.drew ?_) | (with_reducible refine Below.trans ?_ (Below.mono (by assumption) (by first | omega | (simp; omega) | (simp; done) | (dsimp only; omega))))))
  clear hW
  go_upto_region 2 with (go_at_call 32; (with_reducible refine (HM.out _).mono ?_); rintro e w1 ⟨rfl, hb1⟩; obtain ⟨hc1, hf1⟩ := bcell hb1; have hz1 := hb1.size; (try simp at hz1); (try have hy1 := Nat.lt_of_succ_le hz1); (try have hv1 := Nat.lt_of_succ_lt hy1); (try have hw10 : w.heap.size < w1.heap.size := by omega); (try have hw11 : w.heap.size + 1 < w1.heap.size := by omega); (try have hw12 : w.heap.size + 1 + 1 < w1.heap.size := by omega); (try have hw13 : w.heap.size + 1 + 1 + 1 < w1.heap.size := by omega))
  generalize hV : (w1.alloc (.cells #[.bool m.s, .int .i64 m.lo, .int .i64 m.hi] 23)) = V
  have p0_0 : V.cell? ⟨w1.heap.size, 0, none⟩ = some (.bool m.s) := by rw [← hV]; simp [go_sem]
  have p0_1 : V.cell? ⟨w1.heap.size, 1, none⟩ = some (.int .i64 m.lo) := by rw [← hV]; simp [go_sem]
  have p0_2 : V.cell? ⟨w1.heap.size, 2, none⟩ = some (.int .i64 m.hi) := by rw [← hV]; simp [go_sem]
  have fp0 : ∀ o, V.frozen? ⟨w1.heap.size, o, none⟩ = false := by intro o; rw [← hV]; simp [go_sem]
  have zp0 : w1.heap.size < V.heap.size := by rw [← hV]; first | (simp; done) | (simp; omega)
  have HV : Below w1.heap.size w1 V := by rw [← hV]; exact (by repeat (first | (with_reducible assumption) | (with_reducible exact Below.refl _ _) | (with_reducible refine Below.alloc ?_ (by first | omega | (simp; omega) | (simp; done) | (dsimp only; omega)) _) | (with_reducible refine Below.setCell ?_ (by first | omega | (simp; omega) | (simp; done) | (dsimp only; omega)) _) | (with_reducible refine Below.drew ?_) | (with_reducible refine Below.trans ?_ (Below.mono (by assumption) (by first | omega | (simp; omega) | (simp; done) | (dsimp only; omega))))))
  clear hV
  have hWV := hb1.trans (HV.mono hb1.size)
  have HWV := HW.trans (hWV.mono HW.size)
  replace q0_0 := (hWV.cell (p := ⟨w.heap.size, 0, none⟩) z0).trans q0_0
  replace q0_1 := (hWV.cell (p := ⟨w.heap.size, 1, none⟩) z0).trans q0_1
  replace q0_2 := (hWV.cell (p := ⟨w.heap.size, 2, none⟩) z0).trans q0_2
  replace q1_0 := (hWV.cell (p := ⟨w.heap.size + 1, 0, none⟩) z1).trans q1_0
  replace q1_1 := (hWV.cell (p := ⟨w.heap.size + 1, 1, none⟩) z1).trans q1_1
  replace q1_2 := (hWV.cell (p := ⟨w.heap.size + 1, 2, none⟩) z1).trans q1_2
  replace z0 := Nat.lt_of_lt_of_le z0 hWV.size
  replace z1 := Nat.lt_of_lt_of_le z1 hWV.size
  clear hc1 hf1 hb1 hz1 hw10 hw11 HW HV hWV HM
  generalize w1.heap.size = B at *
  go_cut [9] (fun s9 wx => s9 = .bool (oneB a b) ∧ wx = V)
  case first =>
    cases h1 : a.lo == a.hi <;> cases h2 : b.lo == b.hi <;> cases h3 : a.lo == b.lo
    all_goals
      go_wp2
      go_meet
      exact ⟨by unfold oneB; rw [h1, h2, h3]; rfl, rfl⟩
  case rest =>
    obtain ⟨rfl, rfl⟩ := hcut
    generalize oneB a b = ob at *
    go_upto_region 3 with fail
    refine region_seq (S := fun w' => Below wc.heap.size wc w') rfl (by kernel_rfl) (by kernel_rfl) (by repeat (first | (with_reducible assumption) | (with_reducible exact Below.refl _ _) | (with_reducible refine Below.alloc ?_ (by first | omega | (simp; omega) | (simp; done) | (dsimp only; omega)) _) | (with_reducible refine Below.setCell ?_ (by first | omega | (simp; omega) | (simp; done) | (dsimp only; omega)) _) | (with_reducible refine Below.drew ?_) | (with_reducible refine Below.trans ?_ (Below.mono (by assumption) (by first | omega | (simp; omega) | (simp; done) | (dsimp only; omega)))))) (fun fin hfin => ?_)
    iterate 6
      first
        | (refine SeqL.yes (v := ?_) (A' := ?_) rfl (by rfl) ?_ ?_ ?_
           rotate_left 2
           · intro w' K hS hK
             obtain ⟨hc, hf⟩ := bcell hS
             have hz := hS.size
             go_simp
             first
               | exact hK.out _ hS
               | (go_at_call 10; (with_reducible refine (HA.out _).mono ?_); rintro e w1 ⟨rfl, hb1⟩; exact hK.out _ (hS.trans (hb1.mono hz)))
               | (go_at_call 10; (with_reducible refine (HB.out _).mono ?_); rintro e w1 ⟨rfl, hb1⟩; exact hK.out _ (hS.trans (hb1.mono hz)))
               | trace_state
           · simp only [Act.put, List.setIfInBounds_toArray, List.set_cons_zero, List.set_cons_succ]; exact rfl)
        | (refine SeqL.no (A' := ?_) rfl (by rfl) ?_ ?_
           rotate_left
           · simp only [Act.put, List.setIfInBounds_toArray, List.set_cons_zero, List.set_cons_succ]; exact rfl)
    refine SeqL.nil (hfin.out _ ?_)
    clear hfin fin
    intro w1 hS1
    have HWS := HWV.trans (hS1.mono HWV.size)
    replace q0_0 := (hS1.cell (p := ⟨w.heap.size, 0, none⟩) z0).trans q0_0
    replace q0_1 := (hS1.cell (p := ⟨w.heap.size, 1, none⟩) z0).trans q0_1
    replace q0_2 := (hS1.cell (p := ⟨w.heap.size, 2, none⟩) z0).trans q0_2
    replace q1_0 := (hS1.cell (p := ⟨w.heap.size + 1, 0, none⟩) z1).trans q1_0
    replace q1_1 := (hS1.cell (p := ⟨w.heap.size + 1, 1, none⟩) z1).trans q1_1
    replace q1_2 := (hS1.cell (p := ⟨w.heap.size + 1, 2, none⟩) z1).trans q1_2
    replace z0 := Nat.lt_of_lt_of_le z0 hS1.size
    replace z1 := Nat.lt_of_lt_of_le z1 hS1.size
    replace p0_0 := (hS1.cell (p := ⟨B, 0, none⟩) zp0).trans p0_0
    replace p0_1 := (hS1.cell (p := ⟨B, 1, none⟩) zp0).trans p0_1
    replace p0_2 := (hS1.cell (p := ⟨B, 2, none⟩) zp0).trans p0_2
    replace zp0 := Nat.lt_of_lt_of_le zp0 hS1.size
    clear hS1 HWV HA HB fp0
    go_upto_region 4 with fail
    go_cut [12, 13] (fun s12 s13 wx => s12 = .bool (nzB a) ∧ s13 = .bool (nzB b) ∧ Below w1.heap.size w1 wx)
    case first =>
      cases h1 : a.lo != 0 <;> cases h2 : b.lo != 0
      all_goals
        refine region_seq (S := fun w' => Below w1.heap.size w1 w') rfl (by kernel_rfl) (by kernel_rfl) (by repeat (first | (with_reducible assumption) | (with_reducible exact Below.refl _ _) | (with_reducible refine Below.alloc ?_ (by first | omega | (simp; omega) | (simp; done) | (dsimp only; omega)) _) | (with_reducible refine Below.setCell ?_ (by first | omega | (simp; omega) | (simp; done) | (dsimp only; omega)) _) | (with_reducible refine Below.drew ?_) | (with_reducible refine Below.trans ?_ (Below.mono (by assumption) (by first | omega | (simp; omega) | (simp; done) | (dsimp only; omega)))))) (fun fin hfin => ?_)
        iterate 18
          first
            | (refine SeqL.yes (v := ?_) (A' := ?_) rfl (by rfl) ?_ ?_ ?_
               rotate_left 2
               · intro w' K hS hK
                 obtain ⟨hc, hf⟩ := bcell hS
                 have hz := hS.size
                 go_simp
                 first
                   | exact hK.out _ hS
                   | trace_state
               · simp only [Act.put, List.setIfInBounds_toArray, List.set_cons_zero, List.set_cons_succ]; exact rfl)
            | (refine SeqL.no (A' := ?_) rfl (by rfl) ?_ ?_
               rotate_left
               · simp only [Act.put, List.setIfInBounds_toArray, List.set_cons_zero, List.set_cons_succ]; exact rfl)
        refine SeqL.nil (hfin.out _ ?_)
        clear hfin fin
        intro w1 hS1
        go_wp2
        go_meet
        exact ⟨by unfold nzB; rw [h1]; rfl, by unfold nzB; rw [h2]; rfl, hS1⟩
    case rest =>
      obtain ⟨rfl, rfl, hS2⟩ := hcut
      have HWT := HWS.trans (hS2.mono HWS.size)
      replace q0_0 := (hS2.cell (p := ⟨w.heap.size, 0, none⟩) z0).trans q0_0
      replace q0_1 := (hS2.cell (p := ⟨w.heap.size, 1, none⟩) z0).trans q0_1
      replace q0_2 := (hS2.cell (p := ⟨w.heap.size, 2, none⟩) z0).trans q0_2
      replace q1_0 := (hS2.cell (p := ⟨w.heap.size + 1, 0, none⟩) z1).trans q1_0
      replace q1_1 := (hS2.cell (p := ⟨w.heap.size + 1, 1, none⟩) z1).trans q1_1
      replace q1_2 := (hS2.cell (p := ⟨w.heap.size + 1, 2, none⟩) z1).trans q1_2
      replace z0 := Nat.lt_of_lt_of_le z0 hS2.size
      replace z1 := Nat.lt_of_lt_of_le z1 hS2.size
      replace p0_0 := (hS2.cell (p := ⟨B, 0, none⟩) zp0).trans p0_0
      replace p0_1 := (hS2.cell (p := ⟨B, 1, none⟩) zp0).trans p0_1
      replace p0_2 := (hS2.cell (p := ⟨B, 2, none⟩) zp0).trans p0_2
      replace zp0 := Nat.lt_of_lt_of_le zp0 hS2.size
      clear hS2 HWS
      generalize nzB a = an at *
      generalize nzB b = bn at *
      generalize m.none = mn at *
      rcases hop with rfl | rfl | rfl | rfl | rfl | rfl
      · have e := E12 rfl
        clear E12 E13 E14 E15 E16 E17 HN
        go_upto_region 7 with fail
        refine region_seq (S := fun w' => Below wc.heap.size wc w') rfl (by kernel_rfl) (by kernel_rfl) (by repeat (first | (with_reducible assumption) | (with_reducible exact Below.refl _ _) | (with_reducible refine Below.alloc ?_ (by first | omega | (simp; omega) | (simp; done) | (dsimp only; omega)) _) | (with_reducible refine Below.setCell ?_ (by first | omega | (simp; omega) | (simp; done) | (dsimp only; omega)) _) | (with_reducible refine Below.drew ?_) | (with_reducible refine Below.trans ?_ (Below.mono (by assumption) (by first | omega | (simp; omega) | (simp; done) | (dsimp only; omega)))))) (fun fin hfin => ?_)
        iterate 12
          first
            | (refine SeqL.yes (v := ?_) (A' := ?_) rfl (by rfl) ?_ ?_ ?_
               rotate_left 2
               · intro w' K hS hK
                 obtain ⟨hc, hf⟩ := bcell hS
                 have hz := hS.size
                 go_simp
                 first
                   | exact hK.out _ hS
                   | trace_state
               · simp only [Act.put, List.setIfInBounds_toArray, List.set_cons_zero, List.set_cons_succ]; exact rfl)
            | (refine SeqL.no (A' := ?_) rfl (by rfl) ?_ ?_
               rotate_left
               · simp only [Act.put, List.setIfInBounds_toArray, List.set_cons_zero, List.set_cons_succ]; exact rfl)
        refine SeqL.nil (hfin.out _ ?_)
        clear hfin fin
        intro w1 hS1
        go_wp2
        go_ret2
        exact ⟨by rw [e]; rfl, (by repeat (first | (with_reducible assumption) | (with_reducible exact Below.refl _ _) | (with_reducible refine Below.alloc ?_ (by first | omega | (simp; omega) | (simp; done) | (dsimp only; omega)) _) | (with_reducible refine Below.setCell ?_ (by first | omega | (simp; omega) | (simp; done) | (dsimp only; omega)) _) | (with_reducible refine Below.drew ?_) | (with_reducible refine Below.trans ?_ (Below.mono (by assumption) (by first | omega | (simp; omega) | (simp; done) | (dsimp only; omega))))))⟩
      · have e := E13 rfl
        clear E12 E13 E14 E15 E16 E17 HN
        go_upto_region 9 with fail
        refine region_seq (S := fun w' => Below wc.heap.size wc w') rfl (by kernel_rfl) (by kernel_rfl) (by repeat (first | (with_reducible assumption) | (with_reducible exact Below.refl _ _) | (with_reducible refine Below.alloc ?_ (by first | omega | (simp; omega) | (simp; done) | (dsimp only; omega)) _) | (with_reducible refine Below.setCell ?_ (by first | omega | (simp; omega) | (simp; done) | (dsimp only; omega)) _) | (with_reducible refine Below.drew ?_) | (with_reducible refine Below.trans ?_ (Below.mono (by assumption) (by first | omega | (simp; omega) | (simp; done) | (dsimp only; omega)))))) (fun fin hfin => ?_)
        iterate 12
          first
            | (refine SeqL.yes (v := ?_) (A' := ?_) rfl (by rfl) ?_ ?_ ?_
               rotate_left 2
               · intro w' K hS hK
                 obtain ⟨hc, hf⟩ := bcell hS
                 have hz := hS.size
                 go_simp
                 first
                   | exact hK.out _ hS
                   | trace_state
               · simp only [Act.put, List.setIfInBounds_toArray, List.set_cons_zero, List.set_cons_succ]; exact rfl)
            | (refine SeqL.no (A' := ?_) rfl (by rfl) ?_ ?_
               rotate_left
               · simp only [Act.put, List.setIfInBounds_toArray, List.set_cons_zero, List.set_cons_succ]; exact rfl)
        refine SeqL.nil (hfin.out _ ?_)
        clear hfin fin
        intro w1 hS1
        go_wp2
        go_ret2
        exact ⟨by rw [e]; rfl, (by repeat (first | (with_reducible assumption) | (with_reducible exact Below.refl _ _) | (with_reducible refine Below.alloc ?_ (by first | omega | (simp; omega) | (simp; done) | (dsimp only; omega)) _) | (with_reducible refine Below.setCell ?_ (by first | omega | (simp; omega) | (simp; done) | (dsimp only; omega)) _) | (with_reducible refine Below.drew ?_) | (with_reducible refine Below.trans ?_ (Below.mono (by assumption) (by first | omega | (simp; omega) | (simp; done) | (dsimp only; omega))))))⟩
      · have e := Lib.hid (E14 rfl)
        clear E12 E13 E14 E15 E16 E17
        go_wp2_with (go_at_call 16; (with_reducible refine (HN.out _).mono ?_); rintro e w2 ⟨rfl, hb2⟩; obtain ⟨hc2, hf2⟩ := bcell hb2; have hz2 := hb2.size; (try simp at hz2); (try have hy2 := Nat.lt_of_succ_le hz2); (try have hv2 := Nat.lt_of_succ_lt hy2); (try have hw20 : w.heap.size < w2.heap.size := by omega); (try have hw21 : w.heap.size + 1 < w2.heap.size := by omega); (try have hw22 : w.heap.size + 1 + 1 < w2.heap.size := by omega); (try have hw23 : w.heap.size + 1 + 1 + 1 < w2.heap.size := by omega))
        go_ret2
        exact ⟨by rw [e.out]; rfl, (by repeat (first | (with_reducible assumption) | (with_reducible exact Below.refl _ _) | (with_reducible refine Below.alloc ?_ (by first | omega | (simp; omega) | (simp; done) | (dsimp only; omega)) _) | (with_reducible refine Below.setCell ?_ (by first | omega | (simp; omega) | (simp; done) | (dsimp only; omega)) _) | (with_reducible refine Below.drew ?_) | (with_reducible refine Below.trans ?_ (Below.mono (by assumption) (by first | omega | (simp; omega) | (simp; done) | (dsimp only; omega))))))⟩
      · have e := Lib.hid (E15 rfl)
        clear E12 E13 E14 E15 E16 E17
        go_wp2_with (go_at_call 16; (with_reducible refine (HN.out _).mono ?_); rintro e w2 ⟨rfl, hb2⟩; obtain ⟨hc2, hf2⟩ := bcell hb2; have hz2 := hb2.size; (try simp at hz2); (try have hy2 := Nat.lt_of_succ_le hz2); (try have hv2 := Nat.lt_of_succ_lt hy2); (try have hw20 : w.heap.size < w2.heap.size := by omega); (try have hw21 : w.heap.size + 1 < w2.heap.size := by omega); (try have hw22 : w.heap.size + 1 + 1 < w2.heap.size := by omega); (try have hw23 : w.heap.size + 1 + 1 + 1 < w2.heap.size := by omega))
        go_ret2
        exact ⟨by rw [e.out]; rfl, (by repeat (first | (with_reducible assumption) | (with_reducible exact Below.refl _ _) | (with_reducible refine Below.alloc ?_ (by first | omega | (simp; omega) | (simp; done) | (dsimp only; omega)) _) | (with_reducible refine Below.setCell ?_ (by first | omega | (simp; omega) | (simp; done) | (dsimp only; omega)) _) | (with_reducible refine Below.drew ?_) | (with_reducible refine Below.trans ?_ (Below.mono (by assumption) (by first | omega | (simp; omega) | (simp; done) | (dsimp only; omega))))))⟩
      all_goals
        first | have e := Lib.hid (E16 rfl) | have e := Lib.hid (E17 rfl)
        clear E12 E13 E14 E15 E16 E17 HN
        cases x1 <;> cases an
        all_goals
          go_wp2
          go_ret2
          exact ⟨by rw [e.out]; rfl, (by repeat (first | (with_reducible assumption) | (with_reducible exact Below.refl _ _) | (with_reducible refine Below.alloc ?_ (by first | omega | (simp; omega) | (simp; done) | (dsimp only; omega)) _) | (with_reducible refine Below.setCell ?_ (by first | omega | (simp; omega) | (simp; done) | (dsimp only; omega)) _) | (with_reducible refine Below.drew ?_) | (with_reducible refine Below.trans ?_ (Below.mono (by assumption) (by first | omega | (simp; omega) | (simp; done) | (dsimp only; omega))))))⟩
end Go.Proofs.Ytdphjfppfngcmaa

/- What reckon.truth returns: layer 4; truths of the program and of the document are one. -/
namespace Go.Proofs.Ytdphjfppfngcmaa
open Go.RowKit

def decS (op : Int) (a b : Sp) : Bool × Bool :=
  if op = 12 then (decide (a.hi < b.lo), decide (b.hi ≤ a.lo)) else if op = 13 then (decide (a.hi ≤ b.lo), decide (b.hi < a.lo))
  else if op = 14 then (eqP a b, (a.meet b).none) else if op = 15 then ((a.meet b).none, eqP a b)
  else if op = 16 then (!a.has 0 && !b.has 0, zeroP a || zeroP b) else (!a.has 0 || !b.has 0, zeroP a && zeroP b)
theorem reckon_decided (op : Int) (hop : op = 12 ∨ op = 13 ∨ op = 14 ∨ op = 15 ∨ op = 16 ∨ op = 17) (a b : Sp) (w : World) :
    Calls Try.prog 60 #[.int .i64 op, .agg #[.bool a.s, .int .i64 a.lo, .int .i64 a.hi], .agg #[.bool b.s, .int .i64 b.lo, .int .i64 b.hi]] w fun e w' => e = .returned (.tuple #[.bool (decS op a b).1, .bool (decS op a b).2]) ∧ Below w.heap.size w w' := by
  rcases hop with rfl | rfl | rfl | rfl | rfl | rfl
  · exact reckon_dec_12 a b w
  · exact reckon_dec_13 a b w
  · exact reckon_dec_14 a b w
  · exact reckon_dec_15 a b w
  · exact reckon_dec_16 a b w
  · exact reckon_dec_17 a b w

def trueS (op : Int) (a b : Sp) : Sp := if (decS op a b).1 then Sp.of 1 1 else if (decS op a b).2 then Sp.of 0 0 else Sp.of 0 1

set_option maxHeartbeats 2000000 in
theorem reckon_truth (op : Int) (hop : op = 12 ∨ op = 13 ∨ op = 14 ∨ op = 15 ∨ op = 16 ∨ op = 17) (a b : Sp) (w : World) :
    Calls Try.prog 29 #[.int .i64 op, .agg #[.bool a.s, .int .i64 a.lo, .int .i64 a.hi], .agg #[.bool b.s, .int .i64 b.lo, .int .i64 b.hi]] w fun e w' => e = .returned (.agg #[.bool (trueS op a b).s, .int .i64 (trueS op a b).lo, .int .i64 (trueS op a b).hi]) ∧ Below w.heap.size w w' := by
  have HD := Lib.hid (reckon_decided op hop a b)
  have H1 := Lib.hid (span_one 1)
  have H0 := Lib.hid (span_one 0)
  have H2 := Lib.hid (span_of 0 1)
  have E : trueS op a b = if (decS op a b).1 then Sp.of 1 1 else if (decS op a b).2 then Sp.of 0 0 else Sp.of 0 1 := rfl
  generalize trueS op a b = r at *
  generalize decS op a b = d at *
  obtain ⟨d1, d2⟩ := d
  dsimp only at HD E
  have HE := Lib.hid E
  clear E
  generalize hs1 : Sp.of 1 1 = s1 at *
  generalize hs2 : Sp.of 0 0 = s2 at *
  generalize hs3 : Sp.of 0 1 = s3 at *
  clear hs1 hs2 hs3
  cases d1 <;> cases d2
  all_goals
    go_enter Try.func29, Try.ntmps29
    go_upto_region 1 with fail
    generalize hW : (((w.alloc (.cells #[.bool a.s, .int .i64 a.lo, .int .i64 a.hi] 23)).alloc (.cells #[.bool b.s, .int .i64 b.lo, .int .i64 b.hi] 23)).alloc (.cells #[.bool false, .int .i64 0, .int .i64 0] 23)) = W
    have q0_0 : W.cell? ⟨w.heap.size, 0, none⟩ = some (.bool a.s) := by rw [← hW]; simp [go_sem]
    have q0_1 : W.cell? ⟨w.heap.size, 1, none⟩ = some (.int .i64 a.lo) := by rw [← hW]; simp [go_sem]
    have q0_2 : W.cell? ⟨w.heap.size, 2, none⟩ = some (.int .i64 a.hi) := by rw [← hW]; simp [go_sem]
    have q1_0 : W.cell? ⟨w.heap.size + 1, 0, none⟩ = some (.bool b.s) := by rw [← hW]; simp [go_sem]
    have q1_1 : W.cell? ⟨w.heap.size + 1, 1, none⟩ = some (.int .i64 b.lo) := by rw [← hW]; simp [go_sem]
    have q1_2 : W.cell? ⟨w.heap.size + 1, 2, none⟩ = some (.int .i64 b.hi) := by rw [← hW]; simp [go_sem]
    have q2_0 : W.cell? ⟨w.heap.size + 1 + 1, 0, none⟩ = some (.bool false) := by rw [← hW]; simp [go_sem]
    have q2_1 : W.cell? ⟨w.heap.size + 1 + 1, 1, none⟩ = some (.int .i64 0) := by rw [← hW]; simp [go_sem]
    have q2_2 : W.cell? ⟨w.heap.size + 1 + 1, 2, none⟩ = some (.int .i64 0) := by rw [← hW]; simp [go_sem]
    have f0 : ∀ o, W.frozen? ⟨w.heap.size, o, none⟩ = false := by intro o; rw [← hW]; simp [go_sem]
    have f1 : ∀ o, W.frozen? ⟨w.heap.size + 1, o, none⟩ = false := by intro o; rw [← hW]; simp [go_sem]
    have f2 : ∀ o, W.frozen? ⟨w.heap.size + 1 + 1, o, none⟩ = false := by intro o; rw [← hW]; simp [go_sem]
    have z0 : w.heap.size < W.heap.size := by rw [← hW]; first | (simp; done) | (simp; omega)
    have z1 : w.heap.size + 1 < W.heap.size := by rw [← hW]; first | (simp; done) | (simp; omega)
    have z2 : w.heap.size + 1 + 1 < W.heap.size := by rw [← hW]; first | (simp; done) | (simp; omega)
    have HW : Below w.heap.size w W := by rw [← hW]; exact (by repeat (first | (with_reducible assumption) | (with_reducible exact Below.refl _ _) | (with_reducible refine Below.alloc ?_ (by first | omega | (simp; omega) | (simp; done) | (dsimp only; omega)) _) | (with_reducible refine Below.setCell ?_ (by first | omega | (simp; omega) | (simp; done) | (dsimp only; omega)) _) | (with_reducible refine Below.drew ?_) | (with_reducible refine Below.trans ?_ (Below.mono (by assumption) (by first | omega | (simp; omega) | (simp; done) | (dsimp only; omega))))))
    clear hW
    go_wp2_with (first | (go_at_call 60; (with_reducible refine (HD.out _).mono ?_); rintro e w1 ⟨rfl, hb1⟩; obtain ⟨hc1, hf1⟩ := bcell hb1; have hz1 := hb1.size; (try simp at hz1); (try have hy1 := Nat.lt_of_succ_le hz1); (try have hv1 := Nat.lt_of_succ_lt hy1); (try have hw10 : w.heap.size < w1.heap.size := by omega); (try have hw11 : w.heap.size + 1 < w1.heap.size := by omega); (try have hw12 : w.heap.size + 1 + 1 < w1.heap.size := by omega); (try have hw13 : w.heap.size + 1 + 1 + 1 < w1.heap.size := by omega)) | (go_at_call 23; (with_reducible refine (H1.out _).mono ?_); rintro e w2 ⟨rfl, hb2⟩; obtain ⟨hc2, hf2⟩ := bcell hb2; have hz2 := hb2.size; (try simp at hz2); (try have hy2 := Nat.lt_of_succ_le hz2); (try have hv2 := Nat.lt_of_succ_lt hy2); (try have hw20 : w.heap.size < w2.heap.size := by omega); (try have hw21 : w.heap.size + 1 < w2.heap.size := by omega); (try have hw22 : w.heap.size + 1 + 1 < w2.heap.size := by omega); (try have hw23 : w.heap.size + 1 + 1 + 1 < w2.heap.size := by omega); (try have hx2_0 : w.heap.size + 1 + 1 < w2.heap.size := by omega)) | (go_at_call 23; (with_reducible refine (H0.out _).mono ?_); rintro e w3 ⟨rfl, hb3⟩; obtain ⟨hc3, hf3⟩ := bcell hb3; have hz3 := hb3.size; (try simp at hz3); (try have hy3 := Nat.lt_of_succ_le hz3); (try have hv3 := Nat.lt_of_succ_lt hy3); (try have hw30 : w.heap.size < w3.heap.size := by omega); (try have hw31 : w.heap.size + 1 < w3.heap.size := by omega); (try have hw32 : w.heap.size + 1 + 1 < w3.heap.size := by omega); (try have hw33 : w.heap.size + 1 + 1 + 1 < w3.heap.size := by omega); (try have hx3_0 : w.heap.size + 1 + 1 < w3.heap.size := by omega)) | (go_at_call 37; (with_reducible refine (H2.out _).mono ?_); rintro e w4 ⟨rfl, hb4⟩; obtain ⟨hc4, hf4⟩ := bcell hb4; have hz4 := hb4.size; (try simp at hz4); (try have hy4 := Nat.lt_of_succ_le hz4); (try have hv4 := Nat.lt_of_succ_lt hy4); (try have hw40 : w.heap.size < w4.heap.size := by omega); (try have hw41 : w.heap.size + 1 < w4.heap.size := by omega); (try have hw42 : w.heap.size + 1 + 1 < w4.heap.size := by omega); (try have hw43 : w.heap.size + 1 + 1 + 1 < w4.heap.size := by omega); (try have hx4_0 : w.heap.size + 1 + 1 < w4.heap.size := by omega)))
    refine bodyPost_ret (by simp [results, Try.results29, go_sem, *] <;> rfl) rfl ⟨by rw [HE.out]; rfl, (by repeat (first | (with_reducible assumption) | (with_reducible exact Below.refl _ _) | (with_reducible refine Below.alloc ?_ (by first | omega | (simp; omega) | (simp; done) | (dsimp only; omega)) _) | (with_reducible refine Below.setCell ?_ (by first | omega | (simp; omega) | (simp; done) | (dsimp only; omega)) _) | (with_reducible refine Below.drew ?_) | (with_reducible refine Below.trans ?_ (Below.mono (by assumption) (by first | omega | (simp; omega) | (simp; done) | (dsimp only; omega))))))⟩

theorem hasz {a : Sp} (h : a.none = false) : a.has 0 = (decide (a.lo ≤ 0) && decide (0 ≤ a.hi)) := Sp.has_some 0 h
theorem none_parts {a : Sp} (h : a.none = false) : a.s = true ∧ a.lo ≤ a.hi := by
  unfold Sp.none at h
  rw [Bool.or_eq_false_iff] at h
  have := of_decide_eq_false h.2
  exact ⟨by simpa using h.1, by omega⟩
theorem of_none (lo hi : Int) : (Sp.of lo hi).none = decide (hi < lo) := by
  by_cases h : hi < lo
  · rw [Sp.of_t h, decide_eq_true h]; rfl
  · rw [Sp.of_f h, decide_eq_false h]; exact Sp.none_f h

theorem eq_one {a b : Sp} (h1 : a.s = true) (h2 : b.s = true) : eqP a b = oneB a b := by
  rw [Bool.eq_iff_iff]
  simp only [eqP, oneB, Sp.eqb, h1, h2, Bool.and_eq_true, beq_iff_eq, true_and]
  omega
theorem zero_nz {a : Sp} (h1 : a.s = true) : zeroP a = !nzB a := by
  rw [Bool.eq_iff_iff]
  simp only [zeroP, nzB, Sp.eqb, h1, Bool.and_eq_true, beq_iff_eq, true_and, Bool.not_eq_true', Bool.or_eq_false_iff, bne_eq_false_iff_eq]
theorem one_not {a b : Sp} (_l1 : a.lo ≤ a.hi) : ¬ (oneB a b = true ∧ decide (min a.hi b.hi < max a.lo b.lo) = true) := by
  simp only [oneB, Bool.and_eq_true, beq_iff_eq, decide_eq_true_eq]
  omega
theorem has_nz {a : Sp} (h : a.none = false) : a.has 0 = false → nzB a = true := by
  rw [hasz h]
  obtain ⟨_, l⟩ := none_parts h
  simp only [nzB, Bool.and_eq_false_iff, decide_eq_false_iff_not, Bool.or_eq_true, bne_iff_ne, ne_eq]
  omega

/-- The program's truth is the document's. -/
theorem true_may {op : Int} (hop : op = 12 ∨ op = 13 ∨ op = 14 ∨ op = 15 ∨ op = 16 ∨ op = 17) {a b : Sp} (ha : a.none = false) (hb : b.none = false) : trueS op a b = truthS (mayS op a b).1 (mayS op a b).2 := by
  have key : (mayS op a b).1 = !(decS op a b).2 ∧ (mayS op a b).2 = !(decS op a b).1 ∧ ¬ ((decS op a b).1 = true ∧ (decS op a b).2 = true) := by
    obtain ⟨s1, l1⟩ := none_parts ha
    obtain ⟨s2, l2⟩ := none_parts hb
    have hm : (a.meet b).none = decide (min a.hi b.hi < max a.lo b.lo) := by rw [Sp.meet_00 ha hb, of_none]
    have h1 := hasz ha
    have h2 := hasz hb
    rcases hop with rfl | rfl | rfl | rfl | rfl | rfl
    · show decide (a.lo < b.hi) = !decide (b.hi ≤ a.lo) ∧ decide (b.lo ≤ a.hi) = !decide (a.hi < b.lo) ∧ ¬ (decide (a.hi < b.lo) = true ∧ decide (b.hi ≤ a.lo) = true)
      refine ⟨?_, ?_, ?_⟩
      · rw [← decide_not, decide_eq_decide]; omega
      · rw [← decide_not, decide_eq_decide]; omega
      · rw [decide_eq_true_eq, decide_eq_true_eq]; omega
    · show decide (a.lo ≤ b.hi) = !decide (b.hi < a.lo) ∧ decide (b.lo < a.hi) = !decide (a.hi ≤ b.lo) ∧ ¬ (decide (a.hi ≤ b.lo) = true ∧ decide (b.hi < a.lo) = true)
      refine ⟨?_, ?_, ?_⟩
      · rw [← decide_not, decide_eq_decide]; omega
      · rw [← decide_not, decide_eq_decide]; omega
      · rw [decide_eq_true_eq, decide_eq_true_eq]; omega
    · show (!(a.meet b).none) = !(a.meet b).none ∧ (!oneB a b) = !eqP a b ∧ ¬ (eqP a b = true ∧ (a.meet b).none = true)
      rw [eq_one s1 s2, hm]
      exact ⟨rfl, rfl, one_not l1⟩
    · show (!oneB a b) = !eqP a b ∧ (!(a.meet b).none) = !(a.meet b).none ∧ ¬ ((a.meet b).none = true ∧ eqP a b = true)
      rw [eq_one s1 s2, hm]
      exact ⟨rfl, rfl, fun h => one_not l1 ⟨h.2, h.1⟩⟩
    all_goals
      have n1 := has_nz ha
      have n2 := has_nz hb
      clear h1 h2
    · show (nzB a && nzB b) = !(zeroP a || zeroP b) ∧ (a.has 0 || b.has 0) = !(!a.has 0 && !b.has 0) ∧ ¬ ((!a.has 0 && !b.has 0) = true ∧ (zeroP a || zeroP b) = true)
      rw [zero_nz s1, zero_nz s2]
      generalize nzB a = x at *
      generalize nzB b = y at *
      generalize a.has 0 = u at *
      generalize b.has 0 = v at *
      revert n1 n2
      cases x <;> cases y <;> cases u <;> cases v <;> decide
    · show (nzB a || nzB b) = !(zeroP a && zeroP b) ∧ (a.has 0 && b.has 0) = !(!a.has 0 || !b.has 0) ∧ ¬ ((!a.has 0 || !b.has 0) = true ∧ (zeroP a && zeroP b) = true)
      rw [zero_nz s1, zero_nz s2]
      generalize nzB a = x at *
      generalize nzB b = y at *
      generalize a.has 0 = u at *
      generalize b.has 0 = v at *
      revert n1 n2
      cases x <;> cases y <;> cases u <;> cases v <;> decide
  obtain ⟨k1, k2, k3⟩ := key
  unfold trueS truthS
  rw [k1, k2]
  generalize (decS op a b).1 = y at *
  generalize (decS op a b).2 = n at *
  cases y <;> cases n
  · rfl
  · rfl
  · rfl
  · exact absurd ⟨rfl, rfl⟩ k3
end Go.Proofs.Ytdphjfppfngcmaa
