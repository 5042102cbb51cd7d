/- What reckon.Do, One and Traps return: layer 4. -/
import Derived.Test.YtdphjfppfngcmaaReckN
import Derived.Test.YtdphjfppfngcmaaReckY
namespace Go.Proofs.Ytdphjfppfngcmaa
open Go.RowKit

/-- What an operator comes to on two spans. -/
def doS (op : Int) (a b : Sp) : Sp :=
  if (a.none || b.none) = true then ⟨false, 0, 0⟩ else if op = 7 ∨ op = 10 ∨ op = 11 then betS (cor4 op a.lo a.hi b.lo b.hi) else if op = 8 then betS (quoL a b 2)
  else if op = 9 then remS a b else if op = 12 ∨ op = 13 ∨ op = 14 ∨ op = 15 ∨ op = 16 ∨ op = 17 then trueS op a b else ⟨false, 0, 0⟩
theorem doS_none {op : Int} {a b : Sp} (h : (a.none || b.none) = true) : doS op a b = ⟨false, 0, 0⟩ := if_pos h
theorem doS_bet {op : Int} {a b : Sp} (h : (a.none || b.none) = false) (ho : op = 7 ∨ op = 10 ∨ op = 11) : doS op a b = betS (cor4 op a.lo a.hi b.lo b.hi) := by
  unfold doS; rw [if_neg (by rw [h]; decide), if_pos ho]
theorem doS_8 {a b : Sp} (h : (a.none || b.none) = false) : doS 8 a b = betS (quoL a b 2) := by
  unfold doS; rw [if_neg (by rw [h]; decide), if_neg (by omega), if_pos rfl]
theorem doS_9 {a b : Sp} (h : (a.none || b.none) = false) : doS 9 a b = remS a b := by
  unfold doS; rw [if_neg (by rw [h]; decide), if_neg (by omega), if_neg (by omega), if_pos rfl]
theorem doS_t {op : Int} {a b : Sp} (h : (a.none || b.none) = false) (ho : op = 12 ∨ op = 13 ∨ op = 14 ∨ op = 15 ∨ op = 16 ∨ op = 17) : doS op a b = trueS op a b := by
  unfold doS; rw [if_neg (by rw [h]; decide), if_neg (by omega), if_neg (by omega), if_neg (by omega), if_pos ho]
theorem doS_other {op : Int} {a b : Sp} (h : op < 7 ∨ 17 < op) : doS op a b = ⟨false, 0, 0⟩ := by
  unfold doS
  split
  · rfl
  · rw [if_neg (by omega), if_neg (by omega), if_neg (by omega), if_neg (by omega)]

theorem cor_eq {op : Int} (h : op ≠ 8) (x0 x1 y0 y1 : Int) : cor4 op x0 x1 y0 y1 = cornL op x0 x1 y0 y1 := by
  unfold cor4 cornL ex4
  simp only [if_neg h]
theorem reckon_bounds4 (op : Int) (a b : Sp) (ha : I64 a.lo ∧ I64 a.hi) (hb : I64 b.lo ∧ I64 b.hi) (h : op ≠ 8) (w : World) :
    Calls Try.prog 26 #[.int .i64 op, .agg #[.bool a.s, .int .i64 a.lo, .int .i64 a.hi], .agg #[.bool b.s, .int .i64 b.lo, .int .i64 b.hi]] w fun e w' => e = .returned (.agg #[.bool (betS (cor4 op a.lo a.hi b.lo b.hi)).s, .int .i64 (betS (cor4 op a.lo a.hi b.lo b.hi)).lo, .int .i64 (betS (cor4 op a.lo a.hi b.lo b.hi)).hi]) ∧ Below w.heap.size w w' := by
  rw [cor_eq h]
  exact reckon_bounds op a b ha hb w

set_option maxHeartbeats 2000000 in
theorem reckon_do_none (op : Int) (a b : Sp) (h : (a.none || b.none) = true) (w : World) :
    Calls Try.prog 7 #[.int .i64 op, .agg #[.bool a.s, .int .i64 a.lo, .int .i64 a.hi], .agg #[.bool b.s, .int .i64 b.lo, .int .i64 b.hi]] w fun e w' => e = .returned (.agg #[.bool false, .int .i64 0, .int .i64 0]) ∧ Below w.heap.size w w' := by
  have HA := Lib.hid (span_none a)
  have HB := Lib.hid (span_none b)
  generalize a.none = x at *
  generalize b.none = y at *
  cases x <;> cases y
  case false.false => exact absurd h (by decide)
  all_goals
    clear h
    go_enter Try.func7, Try.ntmps7
    go_upto_region 1 with fail
    generalize hW : (((w.alloc (.cells #[.bool a.s, .int .i64 a.lo, .int .i64 a.hi] 23)).alloc (.cells #[.bool b.s, .int .i64 b.lo, .int .i64 b.hi] 23)).alloc (.cells #[.bool false, .int .i64 0, .int .i64 0] 23)) = W
    have q0_0 : W.cell? ⟨w.heap.size, 0, none⟩ = some (.bool a.s) := by rw [← hW]; simp [go_sem]
    have q0_1 : W.cell? ⟨w.heap.size, 1, none⟩ = some (.int .i64 a.lo) := by rw [← hW]; simp [go_sem]
    have q0_2 : W.cell? ⟨w.heap.size, 2, none⟩ = some (.int .i64 a.hi) := by rw [← hW]; simp [go_sem]
    have q1_0 : W.cell? ⟨w.heap.size + 1, 0, none⟩ = some (.bool b.s) := by rw [← hW]; simp [go_sem]
    have q1_1 : W.cell? ⟨w.heap.size + 1, 1, none⟩ = some (.int .i64 b.lo) := by rw [← hW]; simp [go_sem]
    have q1_2 : W.cell? ⟨w.heap.size + 1, 2, none⟩ = some (.int .i64 b.hi) := by rw [← hW]; simp [go_sem]
    have q2_0 : W.cell? ⟨w.heap.size + 1 + 1, 0, none⟩ = some (.bool false) := by rw [← hW]; simp [go_sem]
    have q2_1 : W.cell? ⟨w.heap.size + 1 + 1, 1, none⟩ = some (.int .i64 0) := by rw [← hW]; simp [go_sem]
    have q2_2 : W.cell? ⟨w.heap.size + 1 + 1, 2, none⟩ = some (.int .i64 0) := by rw [← hW]; simp [go_sem]
    have f0 : ∀ o, W.frozen? ⟨w.heap.size, o, none⟩ = false := by intro o; rw [← hW]; simp [go_sem]
    have f1 : ∀ o, W.frozen? ⟨w.heap.size + 1, o, none⟩ = false := by intro o; rw [← hW]; simp [go_sem]
    have f2 : ∀ o, W.frozen? ⟨w.heap.size + 1 + 1, o, none⟩ = false := by intro o; rw [← hW]; simp [go_sem]
    have z0 : w.heap.size < W.heap.size := by rw [← hW]; first | (simp; done) | (simp; omega)
    have z1 : w.heap.size + 1 < W.heap.size := by rw [← hW]; first | (simp; done) | (simp; omega)
    have z2 : w.heap.size + 1 + 1 < W.heap.size := by rw [← hW]; first | (simp; done) | (simp; omega)
    have HW : Below w.heap.size w W := by rw [← hW]; exact (by repeat (first | (with_reducible assumption) | (with_reducible exact Below.refl _ _) | (with_reducible refine Below.alloc ?_ (by first | omega | (simp; omega) | (simp; done) | (dsimp only; omega)) _) | (with_reducible refine Below.setCell ?_ (by first | omega | (simp; omega) | (simp; done) | (dsimp only; omega)) _) | (with_reducible refine Below.drew ?_) | (with_reducible refine Below.trans ?_ (Below.mono (by assumption) (by first | omega | (simp; omega) | (simp; done) | (dsimp only; omega))))))
    clear hW
    clear f0 f1
    go_wp2_with (first | (go_at_call 25; (with_reducible refine (HA.out _).mono ?_); rintro e w1 ⟨rfl, hb1⟩; obtain ⟨hc1, hf1⟩ := bcell hb1; have hz1 := hb1.size; (try simp at hz1); (try have hy1 := Nat.lt_of_succ_le hz1); (try have hv1 := Nat.lt_of_succ_lt hy1); (try have hw10 : w.heap.size < w1.heap.size := by omega); (try have hw11 : w.heap.size + 1 < w1.heap.size := by omega); (try have hw12 : w.heap.size + 1 + 1 < w1.heap.size := by omega); (try have hw13 : w.heap.size + 1 + 1 + 1 < w1.heap.size := by omega); (try have hx1_0 : w.heap.size < w1.heap.size := by omega); (try have hx1_1 : w.heap.size + 1 < w1.heap.size := by omega); (try have hx1_2 : w.heap.size + 1 + 1 < w1.heap.size := by omega)) | (go_at_call 25; (with_reducible refine (HB.out _).mono ?_); rintro e w2 ⟨rfl, hb2⟩; obtain ⟨hc2, hf2⟩ := bcell hb2; have hz2 := hb2.size; (try simp at hz2); (try have hy2 := Nat.lt_of_succ_le hz2); (try have hv2 := Nat.lt_of_succ_lt hy2); (try have hw20 : w.heap.size < w2.heap.size := by omega); (try have hw21 : w.heap.size + 1 < w2.heap.size := by omega); (try have hw22 : w.heap.size + 1 + 1 < w2.heap.size := by omega); (try have hw23 : w.heap.size + 1 + 1 + 1 < w2.heap.size := by omega); (try have hx2_0 : w.heap.size < w2.heap.size := by omega); (try have hx2_1 : w.heap.size + 1 < w2.heap.size := by omega); (try have hx2_2 : w.heap.size + 1 + 1 < w2.heap.size := by omega)))
    refine bodyPost_ret (by simp [results, Try.results7, go_sem, *] <;> rfl) rfl ⟨rfl, (by repeat (first | (with_reducible assumption) | (with_reducible exact Below.refl _ _) | (with_reducible refine Below.alloc ?_ (by first | omega | (simp; omega) | (simp; done) | (dsimp only; omega)) _) | (with_reducible refine Below.setCell ?_ (by first | omega | (simp; omega) | (simp; done) | (dsimp only; omega)) _) | (with_reducible refine Below.drew ?_) | (with_reducible refine Below.trans ?_ (Below.mono (by assumption) (by first | omega | (simp; omega) | (simp; done) | (dsimp only; omega))))))⟩
set_option maxHeartbeats 2000000 in
theorem reckon_do_7 (a b : Sp) (ha : I64 a.lo ∧ I64 a.hi) (hb : I64 b.lo ∧ I64 b.hi) (h : (a.none || b.none) = false) (w : World) :
    Calls Try.prog 7 #[.int .i64 7, .agg #[.bool a.s, .int .i64 a.lo, .int .i64 a.hi], .agg #[.bool b.s, .int .i64 b.lo, .int .i64 b.hi]] w fun e w' => e = .returned (.agg #[.bool (betS (cor4 7 a.lo a.hi b.lo b.hi)).s, .int .i64 (betS (cor4 7 a.lo a.hi b.lo b.hi)).lo, .int .i64 (betS (cor4 7 a.lo a.hi b.lo b.hi)).hi]) ∧ Below w.heap.size w w' := by
  have HA := Lib.hid (span_none a)
  have HB := Lib.hid (span_none b)
  rw [Bool.or_eq_false_iff] at h
  rw [h.1] at HA
  rw [h.2] at HB
  clear h
  have HR := Lib.hid (reckon_bounds4 7 a b ha hb (by omega))
  generalize betS (cor4 7 a.lo a.hi b.lo b.hi) = r at *
  clear ha hb
  go_enter Try.func7, Try.ntmps7
  go_upto_region 1 with fail
  generalize hW : (((w.alloc (.cells #[.bool a.s, .int .i64 a.lo, .int .i64 a.hi] 23)).alloc (.cells #[.bool b.s, .int .i64 b.lo, .int .i64 b.hi] 23)).alloc (.cells #[.bool false, .int .i64 0, .int .i64 0] 23)) = W
  have q0_0 : W.cell? ⟨w.heap.size, 0, none⟩ = some (.bool a.s) := by rw [← hW]; simp [go_sem]
  have q0_1 : W.cell? ⟨w.heap.size, 1, none⟩ = some (.int .i64 a.lo) := by rw [← hW]; simp [go_sem]
  have q0_2 : W.cell? ⟨w.heap.size, 2, none⟩ = some (.int .i64 a.hi) := by rw [← hW]; simp [go_sem]
  have q1_0 : W.cell? ⟨w.heap.size + 1, 0, none⟩ = some (.bool b.s) := by rw [← hW]; simp [go_sem]
  have q1_1 : W.cell? ⟨w.heap.size + 1, 1, none⟩ = some (.int .i64 b.lo) := by rw [← hW]; simp [go_sem]
  have q1_2 : W.cell? ⟨w.heap.size + 1, 2, none⟩ = some (.int .i64 b.hi) := by rw [← hW]; simp [go_sem]
  have q2_0 : W.cell? ⟨w.heap.size + 1 + 1, 0, none⟩ = some (.bool false) := by rw [← hW]; simp [go_sem]
  have q2_1 : W.cell? ⟨w.heap.size + 1 + 1, 1, none⟩ = some (.int .i64 0) := by rw [← hW]; simp [go_sem]
  have q2_2 : W.cell? ⟨w.heap.size + 1 + 1, 2, none⟩ = some (.int .i64 0) := by rw [← hW]; simp [go_sem]
  have f0 : ∀ o, W.frozen? ⟨w.heap.size, o, none⟩ = false := by intro o; rw [← hW]; simp [go_sem]
  have f1 : ∀ o, W.frozen? ⟨w.heap.size + 1, o, none⟩ = false := by intro o; rw [← hW]; simp [go_sem]
  have f2 : ∀ o, W.frozen? ⟨w.heap.size + 1 + 1, o, none⟩ = false := by intro o; rw [← hW]; simp [go_sem]
  have z0 : w.heap.size < W.heap.size := by rw [← hW]; first | (simp; done) | (simp; omega)
  have z1 : w.heap.size + 1 < W.heap.size := by rw [← hW]; first | (simp; done) | (simp; omega)
  have z2 : w.heap.size + 1 + 1 < W.heap.size := by rw [← hW]; first | (simp; done) | (simp; omega)
  have HW : Below w.heap.size w W := by rw [← hW]; exact (by repeat (first | (with_reducible assumption) | (with_reducible exact Below.refl _ _) | (with_reducible refine Below.alloc ?_ (by first | omega | (simp; omega) | (simp; done) | (dsimp only; omega)) _) | (with_reducible refine Below.setCell ?_ (by first | omega | (simp; omega) | (simp; done) | (dsimp only; omega)) _) | (with_reducible refine Below.drew ?_) | (with_reducible refine Below.trans ?_ (Below.mono (by assumption) (by first | omega | (simp; omega) | (simp; done) | (dsimp only; omega))))))
  clear hW
  clear f0 f1
  go_wp2_with (first | (go_at_call 25; (with_reducible refine (HA.out _).mono ?_); rintro e w1 ⟨rfl, hb1⟩; obtain ⟨hc1, hf1⟩ := bcell hb1; have hz1 := hb1.size; (try simp at hz1); (try have hy1 := Nat.lt_of_succ_le hz1); (try have hv1 := Nat.lt_of_succ_lt hy1); (try have hw10 : w.heap.size < w1.heap.size := by omega); (try have hw11 : w.heap.size + 1 < w1.heap.size := by omega); (try have hw12 : w.heap.size + 1 + 1 < w1.heap.size := by omega); (try have hw13 : w.heap.size + 1 + 1 + 1 < w1.heap.size := by omega); (try have hx1_0 : w.heap.size < w1.heap.size := by omega); (try have hx1_1 : w.heap.size + 1 < w1.heap.size := by omega); (try have hx1_2 : w.heap.size + 1 + 1 < w1.heap.size := by omega)) | (go_at_call 25; (with_reducible refine (HB.out _).mono ?_); rintro e w2 ⟨rfl, hb2⟩; obtain ⟨hc2, hf2⟩ := bcell hb2; have hz2 := hb2.size; (try simp at hz2); (try have hy2 := Nat.lt_of_succ_le hz2); (try have hv2 := Nat.lt_of_succ_lt hy2); (try have hw20 : w.heap.size < w2.heap.size := by omega); (try have hw21 : w.heap.size + 1 < w2.heap.size := by omega); (try have hw22 : w.heap.size + 1 + 1 < w2.heap.size := by omega); (try have hw23 : w.heap.size + 1 + 1 + 1 < w2.heap.size := by omega); (try have hx2_0 : w.heap.size < w2.heap.size := by omega); (try have hx2_1 : w.heap.size + 1 < w2.heap.size := by omega); (try have hx2_2 : w.heap.size + 1 + 1 < w2.heap.size := by omega)) | (go_at_call 26; (with_reducible refine (HR.out _).mono ?_); rintro e w3 ⟨rfl, hb3⟩; obtain ⟨hc3, hf3⟩ := bcell hb3; have hz3 := hb3.size; (try simp at hz3); (try have hy3 := Nat.lt_of_succ_le hz3); (try have hv3 := Nat.lt_of_succ_lt hy3); (try have hw30 : w.heap.size < w3.heap.size := by omega); (try have hw31 : w.heap.size + 1 < w3.heap.size := by omega); (try have hw32 : w.heap.size + 1 + 1 < w3.heap.size := by omega); (try have hw33 : w.heap.size + 1 + 1 + 1 < w3.heap.size := by omega); (try have hx3_0 : w.heap.size + 1 + 1 < w3.heap.size := by omega)))
  refine bodyPost_ret (by simp [results, Try.results7, go_sem, *] <;> rfl) rfl ⟨rfl, (by repeat (first | (with_reducible assumption) | (with_reducible exact Below.refl _ _) | (with_reducible refine Below.alloc ?_ (by first | omega | (simp; omega) | (simp; done) | (dsimp only; omega)) _) | (with_reducible refine Below.setCell ?_ (by first | omega | (simp; omega) | (simp; done) | (dsimp only; omega)) _) | (with_reducible refine Below.drew ?_) | (with_reducible refine Below.trans ?_ (Below.mono (by assumption) (by first | omega | (simp; omega) | (simp; done) | (dsimp only; omega))))))⟩
set_option maxHeartbeats 2000000 in
theorem reckon_do_10 (a b : Sp) (ha : I64 a.lo ∧ I64 a.hi) (hb : I64 b.lo ∧ I64 b.hi) (h : (a.none || b.none) = false) (w : World) :
    Calls Try.prog 7 #[.int .i64 10, .agg #[.bool a.s, .int .i64 a.lo, .int .i64 a.hi], .agg #[.bool b.s, .int .i64 b.lo, .int .i64 b.hi]] w fun e w' => e = .returned (.agg #[.bool (betS (cor4 10 a.lo a.hi b.lo b.hi)).s, .int .i64 (betS (cor4 10 a.lo a.hi b.lo b.hi)).lo, .int .i64 (betS (cor4 10 a.lo a.hi b.lo b.hi)).hi]) ∧ Below w.heap.size w w' := by
  have HA := Lib.hid (span_none a)
  have HB := Lib.hid (span_none b)
  rw [Bool.or_eq_false_iff] at h
  rw [h.1] at HA
  rw [h.2] at HB
  clear h
  have HR := Lib.hid (reckon_bounds4 10 a b ha hb (by omega))
  generalize betS (cor4 10 a.lo a.hi b.lo b.hi) = r at *
  clear ha hb
  go_enter Try.func7, Try.ntmps7
  go_upto_region 1 with fail
  generalize hW : (((w.alloc (.cells #[.bool a.s, .int .i64 a.lo, .int .i64 a.hi] 23)).alloc (.cells #[.bool b.s, .int .i64 b.lo, .int .i64 b.hi] 23)).alloc (.cells #[.bool false, .int .i64 0, .int .i64 0] 23)) = W
  have q0_0 : W.cell? ⟨w.heap.size, 0, none⟩ = some (.bool a.s) := by rw [← hW]; simp [go_sem]
  have q0_1 : W.cell? ⟨w.heap.size, 1, none⟩ = some (.int .i64 a.lo) := by rw [← hW]; simp [go_sem]
  have q0_2 : W.cell? ⟨w.heap.size, 2, none⟩ = some (.int .i64 a.hi) := by rw [← hW]; simp [go_sem]
  have q1_0 : W.cell? ⟨w.heap.size + 1, 0, none⟩ = some (.bool b.s) := by rw [← hW]; simp [go_sem]
  have q1_1 : W.cell? ⟨w.heap.size + 1, 1, none⟩ = some (.int .i64 b.lo) := by rw [← hW]; simp [go_sem]
  have q1_2 : W.cell? ⟨w.heap.size + 1, 2, none⟩ = some (.int .i64 b.hi) := by rw [← hW]; simp [go_sem]
  have q2_0 : W.cell? ⟨w.heap.size + 1 + 1, 0, none⟩ = some (.bool false) := by rw [← hW]; simp [go_sem]
  have q2_1 : W.cell? ⟨w.heap.size + 1 + 1, 1, none⟩ = some (.int .i64 0) := by rw [← hW]; simp [go_sem]
  have q2_2 : W.cell? ⟨w.heap.size + 1 + 1, 2, none⟩ = some (.int .i64 0) := by rw [← hW]; simp [go_sem]
  have f0 : ∀ o, W.frozen? ⟨w.heap.size, o, none⟩ = false := by intro o; rw [← hW]; simp [go_sem]
  have f1 : ∀ o, W.frozen? ⟨w.heap.size + 1, o, none⟩ = false := by intro o; rw [← hW]; simp [go_sem]
  have f2 : ∀ o, W.frozen? ⟨w.heap.size + 1 + 1, o, none⟩ = false := by intro o; rw [← hW]; simp [go_sem]
  have z0 : w.heap.size < W.heap.size := by rw [← hW]; first | (simp; done) | (simp; omega)
  have z1 : w.heap.size + 1 < W.heap.size := by rw [← hW]; first | (simp; done) | (simp; omega)
  have z2 : w.heap.size + 1 + 1 < W.heap.size := by rw [← hW]; first | (simp; done) | (simp; omega)
  have HW : Below w.heap.size w W := by rw [← hW]; exact (by repeat (first | (with_reducible assumption) | (with_reducible exact Below.refl _ _) | (with_reducible refine Below.alloc ?_ (by first | omega | (simp; omega) | (simp; done) | (dsimp only; omega)) _) | (with_reducible refine Below.setCell ?_ (by first | omega | (simp; omega) | (simp; done) | (dsimp only; omega)) _) | (with_reducible refine Below.drew ?_) | (with_reducible refine Below.trans ?_ (Below.mono (by assumption) (by first | omega | (simp; omega) | (simp; done) | (dsimp only; omega))))))
  clear hW
  clear f0 f1
  go_wp2_with (first | (go_at_call 25; (with_reducible refine (HA.out _).mono ?_); rintro e w1 ⟨rfl, hb1⟩; obtain ⟨hc1, hf1⟩ := bcell hb1; have hz1 := hb1.size; (try simp at hz1); (try have hy1 := Nat.lt_of_succ_le hz1); (try have hv1 := Nat.lt_of_succ_lt hy1); (try have hw10 : w.heap.size < w1.heap.size := by omega); (try have hw11 : w.heap.size + 1 < w1.heap.size := by omega); (try have hw12 : w.heap.size + 1 + 1 < w1.heap.size := by omega); (try have hw13 : w.heap.size + 1 + 1 + 1 < w1.heap.size := by omega); (try have hx1_0 : w.heap.size < w1.heap.size := by omega); (try have hx1_1 : w.heap.size + 1 < w1.heap.size := by omega); (try have hx1_2 : w.heap.size + 1 + 1 < w1.heap.size := by omega)) | (go_at_call 25; (with_reducible refine (HB.out _).mono ?_); rintro e w2 ⟨rfl, hb2⟩; obtain ⟨hc2, hf2⟩ := bcell hb2; have hz2 := hb2.size; (try simp at hz2); (try have hy2 := Nat.lt_of_succ_le hz2); (try have hv2 := Nat.lt_of_succ_lt hy2); (try have hw20 : w.heap.size < w2.heap.size := by omega); (try have hw21 : w.heap.size + 1 < w2.heap.size := by omega); (try have hw22 : w.heap.size + 1 + 1 < w2.heap.size := by omega); (try have hw23 : w.heap.size + 1 + 1 + 1 < w2.heap.size := by omega); (try have hx2_0 : w.heap.size < w2.heap.size := by omega); (try have hx2_1 : w.heap.size + 1 < w2.heap.size := by omega); (try have hx2_2 : w.heap.size + 1 + 1 < w2.heap.size := by omega)) | (go_at_call 26; (with_reducible refine (HR.out _).mono ?_); rintro e w3 ⟨rfl, hb3⟩; obtain ⟨hc3, hf3⟩ := bcell hb3; have hz3 := hb3.size; (try simp at hz3); (try have hy3 := Nat.lt_of_succ_le hz3); (try have hv3 := Nat.lt_of_succ_lt hy3); (try have hw30 : w.heap.size < w3.heap.size := by omega); (try have hw31 : w.heap.size + 1 < w3.heap.size := by omega); (try have hw32 : w.heap.size + 1 + 1 < w3.heap.size := by omega); (try have hw33 : w.heap.size + 1 + 1 + 1 < w3.heap.size := by omega); (try have hx3_0 : w.heap.size + 1 + 1 < w3.heap.size := by omega)))
  refine bodyPost_ret (by simp [results, Try.results7, go_sem, *] <;> rfl) rfl ⟨rfl, (by repeat (first | (with_reducible assumption) | (with_reducible exact Below.refl _ _) | (with_reducible refine Below.alloc ?_ (by first | omega | (simp; omega) | (simp; done) | (dsimp only; omega)) _) | (with_reducible refine Below.setCell ?_ (by first | omega | (simp; omega) | (simp; done) | (dsimp only; omega)) _) | (with_reducible refine Below.drew ?_) | (with_reducible refine Below.trans ?_ (Below.mono (by assumption) (by first | omega | (simp; omega) | (simp; done) | (dsimp only; omega))))))⟩
set_option maxHeartbeats 2000000 in
theorem reckon_do_11 (a b : Sp) (ha : I64 a.lo ∧ I64 a.hi) (hb : I64 b.lo ∧ I64 b.hi) (h : (a.none || b.none) = false) (w : World) :
    Calls Try.prog 7 #[.int .i64 11, .agg #[.bool a.s, .int .i64 a.lo, .int .i64 a.hi], .agg #[.bool b.s, .int .i64 b.lo, .int .i64 b.hi]] w fun e w' => e = .returned (.agg #[.bool (betS (cor4 11 a.lo a.hi b.lo b.hi)).s, .int .i64 (betS (cor4 11 a.lo a.hi b.lo b.hi)).lo, .int .i64 (betS (cor4 11 a.lo a.hi b.lo b.hi)).hi]) ∧ Below w.heap.size w w' := by
  have HA := Lib.hid (span_none a)
  have HB := Lib.hid (span_none b)
  rw [Bool.or_eq_false_iff] at h
  rw [h.1] at HA
  rw [h.2] at HB
  clear h
  have HR := Lib.hid (reckon_bounds4 11 a b ha hb (by omega))
  generalize betS (cor4 11 a.lo a.hi b.lo b.hi) = r at *
  clear ha hb
  go_enter Try.func7, Try.ntmps7
  go_upto_region 1 with fail
  generalize hW : (((w.alloc (.cells #[.bool a.s, .int .i64 a.lo, .int .i64 a.hi] 23)).alloc (.cells #[.bool b.s, .int .i64 b.lo, .int .i64 b.hi] 23)).alloc (.cells #[.bool false, .int .i64 0, .int .i64 0] 23)) = W
  have q0_0 : W.cell? ⟨w.heap.size, 0, none⟩ = some (.bool a.s) := by rw [← hW]; simp [go_sem]
  have q0_1 : W.cell? ⟨w.heap.size, 1, none⟩ = some (.int .i64 a.lo) := by rw [← hW]; simp [go_sem]
  have q0_2 : W.cell? ⟨w.heap.size, 2, none⟩ = some (.int .i64 a.hi) := by rw [← hW]; simp [go_sem]
  have q1_0 : W.cell? ⟨w.heap.size + 1, 0, none⟩ = some (.bool b.s) := by rw [← hW]; simp [go_sem]
  have q1_1 : W.cell? ⟨w.heap.size + 1, 1, none⟩ = some (.int .i64 b.lo) := by rw [← hW]; simp [go_sem]
  have q1_2 : W.cell? ⟨w.heap.size + 1, 2, none⟩ = some (.int .i64 b.hi) := by rw [← hW]; simp [go_sem]
  have q2_0 : W.cell? ⟨w.heap.size + 1 + 1, 0, none⟩ = some (.bool false) := by rw [← hW]; simp [go_sem]
  have q2_1 : W.cell? ⟨w.heap.size + 1 + 1, 1, none⟩ = some (.int .i64 0) := by rw [← hW]; simp [go_sem]
  have q2_2 : W.cell? ⟨w.heap.size + 1 + 1, 2, none⟩ = some (.int .i64 0) := by rw [← hW]; simp [go_sem]
  have f0 : ∀ o, W.frozen? ⟨w.heap.size, o, none⟩ = false := by intro o; rw [← hW]; simp [go_sem]
  have f1 : ∀ o, W.frozen? ⟨w.heap.size + 1, o, none⟩ = false := by intro o; rw [← hW]; simp [go_sem]
  have f2 : ∀ o, W.frozen? ⟨w.heap.size + 1 + 1, o, none⟩ = false := by intro o; rw [← hW]; simp [go_sem]
  have z0 : w.heap.size < W.heap.size := by rw [← hW]; first | (simp; done) | (simp; omega)
  have z1 : w.heap.size + 1 < W.heap.size := by rw [← hW]; first | (simp; done) | (simp; omega)
  have z2 : w.heap.size + 1 + 1 < W.heap.size := by rw [← hW]; first | (simp; done) | (simp; omega)
  have HW : Below w.heap.size w W := by rw [← hW]; exact (by repeat (first | (with_reducible assumption) | (with_reducible exact Below.refl _ _) | (with_reducible refine Below.alloc ?_ (by first | omega | (simp; omega) | (simp; done) | (dsimp only; omega)) _) | (with_reducible refine Below.setCell ?_ (by first | omega | (simp; omega) | (simp; done) | (dsimp only; omega)) _) | (with_reducible refine Below.drew ?_) | (with_reducible refine Below.trans ?_ (Below.mono (by assumption) (by first | omega | (simp; omega) | (simp; done) | (dsimp only; omega))))))
  clear hW
  clear f0 f1
  go_wp2_with (first | (go_at_call 25; (with_reducible refine (HA.out _).mono ?_); rintro e w1 ⟨rfl, hb1⟩; obtain ⟨hc1, hf1⟩ := bcell hb1; have hz1 := hb1.size; (try simp at hz1); (try have hy1 := Nat.lt_of_succ_le hz1); (try have hv1 := Nat.lt_of_succ_lt hy1); (try have hw10 : w.heap.size < w1.heap.size := by omega); (try have hw11 : w.heap.size + 1 < w1.heap.size := by omega); (try have hw12 : w.heap.size + 1 + 1 < w1.heap.size := by omega); (try have hw13 : w.heap.size + 1 + 1 + 1 < w1.heap.size := by omega); (try have hx1_0 : w.heap.size < w1.heap.size := by omega); (try have hx1_1 : w.heap.size + 1 < w1.heap.size := by omega); (try have hx1_2 : w.heap.size + 1 + 1 < w1.heap.size := by omega)) | (go_at_call 25; (with_reducible refine (HB.out _).mono ?_); rintro e w2 ⟨rfl, hb2⟩; obtain ⟨hc2, hf2⟩ := bcell hb2; have hz2 := hb2.size; (try simp at hz2); (try have hy2 := Nat.lt_of_succ_le hz2); (try have hv2 := Nat.lt_of_succ_lt hy2); (try have hw20 : w.heap.size < w2.heap.size := by omega); (try have hw21 : w.heap.size + 1 < w2.heap.size := by omega); (try have hw22 : w.heap.size + 1 + 1 < w2.heap.size := by omega); (try have hw23 : w.heap.size + 1 + 1 + 1 < w2.heap.size := by omega); (try have hx2_0 : w.heap.size < w2.heap.size := by omega); (try have hx2_1 : w.heap.size + 1 < w2.heap.size := by omega); (try have hx2_2 : w.heap.size + 1 + 1 < w2.heap.size := by omega)) | (go_at_call 26; (with_reducible refine (HR.out _).mono ?_); rintro e w3 ⟨rfl, hb3⟩; obtain ⟨hc3, hf3⟩ := bcell hb3; have hz3 := hb3.size; (try simp at hz3); (try have hy3 := Nat.lt_of_succ_le hz3); (try have hv3 := Nat.lt_of_succ_lt hy3); (try have hw30 : w.heap.size < w3.heap.size := by omega); (try have hw31 : w.heap.size + 1 < w3.heap.size := by omega); (try have hw32 : w.heap.size + 1 + 1 < w3.heap.size := by omega); (try have hw33 : w.heap.size + 1 + 1 + 1 < w3.heap.size := by omega); (try have hx3_0 : w.heap.size + 1 + 1 < w3.heap.size := by omega)))
  refine bodyPost_ret (by simp [results, Try.results7, go_sem, *] <;> rfl) rfl ⟨rfl, (by repeat (first | (with_reducible assumption) | (with_reducible exact Below.refl _ _) | (with_reducible refine Below.alloc ?_ (by first | omega | (simp; omega) | (simp; done) | (dsimp only; omega)) _) | (with_reducible refine Below.setCell ?_ (by first | omega | (simp; omega) | (simp; done) | (dsimp only; omega)) _) | (with_reducible refine Below.drew ?_) | (with_reducible refine Below.trans ?_ (Below.mono (by assumption) (by first | omega | (simp; omega) | (simp; done) | (dsimp only; omega))))))⟩
set_option maxHeartbeats 2000000 in
theorem reckon_do_8 (a b : Sp) (ha : I64 a.lo ∧ I64 a.hi) (hb : I64 b.lo ∧ I64 b.hi) (h : (a.none || b.none) = false) (w : World) :
    Calls Try.prog 7 #[.int .i64 8, .agg #[.bool a.s, .int .i64 a.lo, .int .i64 a.hi], .agg #[.bool b.s, .int .i64 b.lo, .int .i64 b.hi]] w fun e w' => e = .returned (.agg #[.bool (betS (quoL a b 2)).s, .int .i64 (betS (quoL a b 2)).lo, .int .i64 (betS (quoL a b 2)).hi]) ∧ Below w.heap.size w w' := by
  have HA := Lib.hid (span_none a)
  have HB := Lib.hid (span_none b)
  rw [Bool.or_eq_false_iff] at h
  rw [h.1] at HA
  rw [h.2] at HB
  clear h
  have HR := Lib.hid (reckon_quotient a b ha hb)
  generalize betS (quoL a b 2) = r at *
  clear ha hb
  go_enter Try.func7, Try.ntmps7
  go_upto_region 1 with fail
  generalize hW : (((w.alloc (.cells #[.bool a.s, .int .i64 a.lo, .int .i64 a.hi] 23)).alloc (.cells #[.bool b.s, .int .i64 b.lo, .int .i64 b.hi] 23)).alloc (.cells #[.bool false, .int .i64 0, .int .i64 0] 23)) = W
  have q0_0 : W.cell? ⟨w.heap.size, 0, none⟩ = some (.bool a.s) := by rw [← hW]; simp [go_sem]
  have q0_1 : W.cell? ⟨w.heap.size, 1, none⟩ = some (.int .i64 a.lo) := by rw [← hW]; simp [go_sem]
  have q0_2 : W.cell? ⟨w.heap.size, 2, none⟩ = some (.int .i64 a.hi) := by rw [← hW]; simp [go_sem]
  have q1_0 : W.cell? ⟨w.heap.size + 1, 0, none⟩ = some (.bool b.s) := by rw [← hW]; simp [go_sem]
  have q1_1 : W.cell? ⟨w.heap.size + 1, 1, none⟩ = some (.int .i64 b.lo) := by rw [← hW]; simp [go_sem]
  have q1_2 : W.cell? ⟨w.heap.size + 1, 2, none⟩ = some (.int .i64 b.hi) := by rw [← hW]; simp [go_sem]
  have q2_0 : W.cell? ⟨w.heap.size + 1 + 1, 0, none⟩ = some (.bool false) := by rw [← hW]; simp [go_sem]
  have q2_1 : W.cell? ⟨w.heap.size + 1 + 1, 1, none⟩ = some (.int .i64 0) := by rw [← hW]; simp [go_sem]
  have q2_2 : W.cell? ⟨w.heap.size + 1 + 1, 2, none⟩ = some (.int .i64 0) := by rw [← hW]; simp [go_sem]
  have f0 : ∀ o, W.frozen? ⟨w.heap.size, o, none⟩ = false := by intro o; rw [← hW]; simp [go_sem]
  have f1 : ∀ o, W.frozen? ⟨w.heap.size + 1, o, none⟩ = false := by intro o; rw [← hW]; simp [go_sem]
  have f2 : ∀ o, W.frozen? ⟨w.heap.size + 1 + 1, o, none⟩ = false := by intro o; rw [← hW]; simp [go_sem]
  have z0 : w.heap.size < W.heap.size := by rw [← hW]; first | (simp; done) | (simp; omega)
  have z1 : w.heap.size + 1 < W.heap.size := by rw [← hW]; first | (simp; done) | (simp; omega)
  have z2 : w.heap.size + 1 + 1 < W.heap.size := by rw [← hW]; first | (simp; done) | (simp; omega)
  have HW : Below w.heap.size w W := by rw [← hW]; exact (by repeat (first | (with_reducible assumption) | (with_reducible exact Below.refl _ _) | (with_reducible refine Below.alloc ?_ (by first | omega | (simp; omega) | (simp; done) | (dsimp only; omega)) _) | (with_reducible refine Below.setCell ?_ (by first | omega | (simp; omega) | (simp; done) | (dsimp only; omega)) _) | (with_reducible refine Below.drew ?_) | (with_reducible refine Below.trans ?_ (Below.mono (by assumption) (by first | omega | (simp; omega) | (simp; done) | (dsimp only; omega))))))
  clear hW
  clear f0 f1
  go_wp2_with (first | (go_at_call 25; (with_reducible refine (HA.out _).mono ?_); rintro e w1 ⟨rfl, hb1⟩; obtain ⟨hc1, hf1⟩ := bcell hb1; have hz1 := hb1.size; (try simp at hz1); (try have hy1 := Nat.lt_of_succ_le hz1); (try have hv1 := Nat.lt_of_succ_lt hy1); (try have hw10 : w.heap.size < w1.heap.size := by omega); (try have hw11 : w.heap.size + 1 < w1.heap.size := by omega); (try have hw12 : w.heap.size + 1 + 1 < w1.heap.size := by omega); (try have hw13 : w.heap.size + 1 + 1 + 1 < w1.heap.size := by omega); (try have hx1_0 : w.heap.size < w1.heap.size := by omega); (try have hx1_1 : w.heap.size + 1 < w1.heap.size := by omega); (try have hx1_2 : w.heap.size + 1 + 1 < w1.heap.size := by omega)) | (go_at_call 25; (with_reducible refine (HB.out _).mono ?_); rintro e w2 ⟨rfl, hb2⟩; obtain ⟨hc2, hf2⟩ := bcell hb2; have hz2 := hb2.size; (try simp at hz2); (try have hy2 := Nat.lt_of_succ_le hz2); (try have hv2 := Nat.lt_of_succ_lt hy2); (try have hw20 : w.heap.size < w2.heap.size := by omega); (try have hw21 : w.heap.size + 1 < w2.heap.size := by omega); (try have hw22 : w.heap.size + 1 + 1 < w2.heap.size := by omega); (try have hw23 : w.heap.size + 1 + 1 + 1 < w2.heap.size := by omega); (try have hx2_0 : w.heap.size < w2.heap.size := by omega); (try have hx2_1 : w.heap.size + 1 < w2.heap.size := by omega); (try have hx2_2 : w.heap.size + 1 + 1 < w2.heap.size := by omega)) | (go_at_call 27; (with_reducible refine (HR.out _).mono ?_); rintro e w3 ⟨rfl, hb3⟩; obtain ⟨hc3, hf3⟩ := bcell hb3; have hz3 := hb3.size; (try simp at hz3); (try have hy3 := Nat.lt_of_succ_le hz3); (try have hv3 := Nat.lt_of_succ_lt hy3); (try have hw30 : w.heap.size < w3.heap.size := by omega); (try have hw31 : w.heap.size + 1 < w3.heap.size := by omega); (try have hw32 : w.heap.size + 1 + 1 < w3.heap.size := by omega); (try have hw33 : w.heap.size + 1 + 1 + 1 < w3.heap.size := by omega); (try have hx3_0 : w.heap.size + 1 + 1 < w3.heap.size := by omega)))
  refine bodyPost_ret (by simp [results, Try.results7, go_sem, *] <;> rfl) rfl ⟨rfl, (by repeat (first | (with_reducible assumption) | (with_reducible exact Below.refl _ _) | (with_reducible refine Below.alloc ?_ (by first | omega | (simp; omega) | (simp; done) | (dsimp only; omega)) _) | (with_reducible refine Below.setCell ?_ (by first | omega | (simp; omega) | (simp; done) | (dsimp only; omega)) _) | (with_reducible refine Below.drew ?_) | (with_reducible refine Below.trans ?_ (Below.mono (by assumption) (by first | omega | (simp; omega) | (simp; done) | (dsimp only; omega))))))⟩
set_option maxHeartbeats 2000000 in
theorem reckon_do_9 (a b : Sp) (ha : I64 a.lo ∧ I64 a.hi) (hb : I64 b.lo ∧ I64 b.hi) (h : (a.none || b.none) = false) (w : World) :
    Calls Try.prog 7 #[.int .i64 9, .agg #[.bool a.s, .int .i64 a.lo, .int .i64 a.hi], .agg #[.bool b.s, .int .i64 b.lo, .int .i64 b.hi]] w fun e w' => e = .returned (.agg #[.bool (remS a b).s, .int .i64 (remS a b).lo, .int .i64 (remS a b).hi]) ∧ Below w.heap.size w w' := by
  have HA := Lib.hid (span_none a)
  have HB := Lib.hid (span_none b)
  rw [Bool.or_eq_false_iff] at h
  rw [h.1] at HA
  rw [h.2] at HB
  clear h
  have HR := Lib.hid (reckon_remainder a b ha hb)
  generalize remS a b = r at *
  clear ha hb
  go_enter Try.func7, Try.ntmps7
  go_upto_region 1 with fail
  generalize hW : (((w.alloc (.cells #[.bool a.s, .int .i64 a.lo, .int .i64 a.hi] 23)).alloc (.cells #[.bool b.s, .int .i64 b.lo, .int .i64 b.hi] 23)).alloc (.cells #[.bool false, .int .i64 0, .int .i64 0] 23)) = W
  have q0_0 : W.cell? ⟨w.heap.size, 0, none⟩ = some (.bool a.s) := by rw [← hW]; simp [go_sem]
  have q0_1 : W.cell? ⟨w.heap.size, 1, none⟩ = some (.int .i64 a.lo) := by rw [← hW]; simp [go_sem]
  have q0_2 : W.cell? ⟨w.heap.size, 2, none⟩ = some (.int .i64 a.hi) := by rw [← hW]; simp [go_sem]
  have q1_0 : W.cell? ⟨w.heap.size + 1, 0, none⟩ = some (.bool b.s) := by rw [← hW]; simp [go_sem]
  have q1_1 : W.cell? ⟨w.heap.size + 1, 1, none⟩ = some (.int .i64 b.lo) := by rw [← hW]; simp [go_sem]
  have q1_2 : W.cell? ⟨w.heap.size + 1, 2, none⟩ = some (.int .i64 b.hi) := by rw [← hW]; simp [go_sem]
  have q2_0 : W.cell? ⟨w.heap.size + 1 + 1, 0, none⟩ = some (.bool false) := by rw [← hW]; simp [go_sem]
  have q2_1 : W.cell? ⟨w.heap.size + 1 + 1, 1, none⟩ = some (.int .i64 0) := by rw [← hW]; simp [go_sem]
  have q2_2 : W.cell? ⟨w.heap.size + 1 + 1, 2, none⟩ = some (.int .i64 0) := by rw [← hW]; simp [go_sem]
  have f0 : ∀ o, W.frozen? ⟨w.heap.size, o, none⟩ = false := by intro o; rw [← hW]; simp [go_sem]
  have f1 : ∀ o, W.frozen? ⟨w.heap.size + 1, o, none⟩ = false := by intro o; rw [← hW]; simp [go_sem]
  have f2 : ∀ o, W.frozen? ⟨w.heap.size + 1 + 1, o, none⟩ = false := by intro o; rw [← hW]; simp [go_sem]
  have z0 : w.heap.size < W.heap.size := by rw [← hW]; first | (simp; done) | (simp; omega)
  have z1 : w.heap.size + 1 < W.heap.size := by rw [← hW]; first | (simp; done) | (simp; omega)
  have z2 : w.heap.size + 1 + 1 < W.heap.size := by rw [← hW]; first | (simp; done) | (simp; omega)
  have HW : Below w.heap.size w W := by rw [← hW]; exact (by repeat (first | (with_reducible assumption) | (with_reducible exact Below.refl _ _) | (with_reducible refine Below.alloc ?_ (by first | omega | (simp; omega) | (simp; done) | (dsimp only; omega)) _) | (with_reducible refine Below.setCell ?_ (by first | omega | (simp; omega) | (simp; done) | (dsimp only; omega)) _) | (with_reducible refine Below.drew ?_) | (with_reducible refine Below.trans ?_ (Below.mono (by assumption) (by first | omega | (simp; omega) | (simp; done) | (dsimp only; omega))))))
  clear hW
  clear f0 f1
  go_wp2_with (first | (go_at_call 25; (with_reducible refine (HA.out _).mono ?_); rintro e w1 ⟨rfl, hb1⟩; obtain ⟨hc1, hf1⟩ := bcell hb1; have hz1 := hb1.size; (try simp at hz1); (try have hy1 := Nat.lt_of_succ_le hz1); (try have hv1 := Nat.lt_of_succ_lt hy1); (try have hw10 : w.heap.size < w1.heap.size := by omega); (try have hw11 : w.heap.size + 1 < w1.heap.size := by omega); (try have hw12 : w.heap.size + 1 + 1 < w1.heap.size := by omega); (try have hw13 : w.heap.size + 1 + 1 + 1 < w1.heap.size := by omega); (try have hx1_0 : w.heap.size < w1.heap.size := by omega); (try have hx1_1 : w.heap.size + 1 < w1.heap.size := by omega); (try have hx1_2 : w.heap.size + 1 + 1 < w1.heap.size := by omega)) | (go_at_call 25; (with_reducible refine (HB.out _).mono ?_); rintro e w2 ⟨rfl, hb2⟩; obtain ⟨hc2, hf2⟩ := bcell hb2; have hz2 := hb2.size; (try simp at hz2); (try have hy2 := Nat.lt_of_succ_le hz2); (try have hv2 := Nat.lt_of_succ_lt hy2); (try have hw20 : w.heap.size < w2.heap.size := by omega); (try have hw21 : w.heap.size + 1 < w2.heap.size := by omega); (try have hw22 : w.heap.size + 1 + 1 < w2.heap.size := by omega); (try have hw23 : w.heap.size + 1 + 1 + 1 < w2.heap.size := by omega); (try have hx2_0 : w.heap.size < w2.heap.size := by omega); (try have hx2_1 : w.heap.size + 1 < w2.heap.size := by omega); (try have hx2_2 : w.heap.size + 1 + 1 < w2.heap.size := by omega)) | (go_at_call 28; (with_reducible refine (HR.out _).mono ?_); rintro e w3 ⟨rfl, hb3⟩; obtain ⟨hc3, hf3⟩ := bcell hb3; have hz3 := hb3.size; (try simp at hz3); (try have hy3 := Nat.lt_of_succ_le hz3); (try have hv3 := Nat.lt_of_succ_lt hy3); (try have hw30 : w.heap.size < w3.heap.size := by omega); (try have hw31 : w.heap.size + 1 < w3.heap.size := by omega); (try have hw32 : w.heap.size + 1 + 1 < w3.heap.size := by omega); (try have hw33 : w.heap.size + 1 + 1 + 1 < w3.heap.size := by omega); (try have hx3_0 : w.heap.size + 1 + 1 < w3.heap.size := by omega)))
  refine bodyPost_ret (by simp [results, Try.results7, go_sem, *] <;> rfl) rfl ⟨rfl, (by repeat (first | (with_reducible assumption) | (with_reducible exact Below.refl _ _) | (with_reducible refine Below.alloc ?_ (by first | omega | (simp; omega) | (simp; done) | (dsimp only; omega)) _) | (with_reducible refine Below.setCell ?_ (by first | omega | (simp; omega) | (simp; done) | (dsimp only; omega)) _) | (with_reducible refine Below.drew ?_) | (with_reducible refine Below.trans ?_ (Below.mono (by assumption) (by first | omega | (simp; omega) | (simp; done) | (dsimp only; omega))))))⟩
set_option maxHeartbeats 2000000 in
theorem reckon_do_12 (a b : Sp) (h : (a.none || b.none) = false) (w : World) :
    Calls Try.prog 7 #[.int .i64 12, .agg #[.bool a.s, .int .i64 a.lo, .int .i64 a.hi], .agg #[.bool b.s, .int .i64 b.lo, .int .i64 b.hi]] w fun e w' => e = .returned (.agg #[.bool (trueS 12 a b).s, .int .i64 (trueS 12 a b).lo, .int .i64 (trueS 12 a b).hi]) ∧ Below w.heap.size w w' := by
  have HA := Lib.hid (span_none a)
  have HB := Lib.hid (span_none b)
  rw [Bool.or_eq_false_iff] at h
  rw [h.1] at HA
  rw [h.2] at HB
  clear h
  have HR := Lib.hid (reckon_truth 12 (by omega) a b)
  generalize trueS 12 a b = r at *
  go_enter Try.func7, Try.ntmps7
  go_upto_region 1 with fail
  generalize hW : (((w.alloc (.cells #[.bool a.s, .int .i64 a.lo, .int .i64 a.hi] 23)).alloc (.cells #[.bool b.s, .int .i64 b.lo, .int .i64 b.hi] 23)).alloc (.cells #[.bool false, .int .i64 0, .int .i64 0] 23)) = W
  have q0_0 : W.cell? ⟨w.heap.size, 0, none⟩ = some (.bool a.s) := by rw [← hW]; simp [go_sem]
  have q0_1 : W.cell? ⟨w.heap.size, 1, none⟩ = some (.int .i64 a.lo) := by rw [← hW]; simp [go_sem]
  have q0_2 : W.cell? ⟨w.heap.size, 2, none⟩ = some (.int .i64 a.hi) := by rw [← hW]; simp [go_sem]
  have q1_0 : W.cell? ⟨w.heap.size + 1, 0, none⟩ = some (.bool b.s) := by rw [← hW]; simp [go_sem]
  have q1_1 : W.cell? ⟨w.heap.size + 1, 1, none⟩ = some (.int .i64 b.lo) := by rw [← hW]; simp [go_sem]
  have q1_2 : W.cell? ⟨w.heap.size + 1, 2, none⟩ = some (.int .i64 b.hi) := by rw [← hW]; simp [go_sem]
  have q2_0 : W.cell? ⟨w.heap.size + 1 + 1, 0, none⟩ = some (.bool false) := by rw [← hW]; simp [go_sem]
  have q2_1 : W.cell? ⟨w.heap.size + 1 + 1, 1, none⟩ = some (.int .i64 0) := by rw [← hW]; simp [go_sem]
  have q2_2 : W.cell? ⟨w.heap.size + 1 + 1, 2, none⟩ = some (.int .i64 0) := by rw [← hW]; simp [go_sem]
  have f0 : ∀ o, W.frozen? ⟨w.heap.size, o, none⟩ = false := by intro o; rw [← hW]; simp [go_sem]
  have f1 : ∀ o, W.frozen? ⟨w.heap.size + 1, o, none⟩ = false := by intro o; rw [← hW]; simp [go_sem]
  have f2 : ∀ o, W.frozen? ⟨w.heap.size + 1 + 1, o, none⟩ = false := by intro o; rw [← hW]; simp [go_sem]
  have z0 : w.heap.size < W.heap.size := by rw [← hW]; first | (simp; done) | (simp; omega)
  have z1 : w.heap.size + 1 < W.heap.size := by rw [← hW]; first | (simp; done) | (simp; omega)
  have z2 : w.heap.size + 1 + 1 < W.heap.size := by rw [← hW]; first | (simp; done) | (simp; omega)
  have HW : Below w.heap.size w W := by rw [← hW]; exact (by repeat (first | (with_reducible assumption) | (with_reducible exact Below.refl _ _) | (with_reducible refine Below.alloc ?_ (by first | omega | (simp; omega) | (simp; done) | (dsimp only; omega)) _) | (with_reducible refine Below.setCell ?_ (by first | omega | (simp; omega) | (simp; done) | (dsimp only; omega)) _) | (with_reducible refine Below.drew ?_) | (with_reducible refine Below.trans ?_ (Below.mono (by assumption) (by first | omega | (simp; omega) | (simp; done) | (dsimp only; omega))))))
  clear hW
  clear f0 f1
  go_wp2_with (first | (go_at_call 25; (with_reducible refine (HA.out _).mono ?_); rintro e w1 ⟨rfl, hb1⟩; obtain ⟨hc1, hf1⟩ := bcell hb1; have hz1 := hb1.size; (try simp at hz1); (try have hy1 := Nat.lt_of_succ_le hz1); (try have hv1 := Nat.lt_of_succ_lt hy1); (try have hw10 : w.heap.size < w1.heap.size := by omega); (try have hw11 : w.heap.size + 1 < w1.heap.size := by omega); (try have hw12 : w.heap.size + 1 + 1 < w1.heap.size := by omega); (try have hw13 : w.heap.size + 1 + 1 + 1 < w1.heap.size := by omega); (try have hx1_0 : w.heap.size < w1.heap.size := by omega); (try have hx1_1 : w.heap.size + 1 < w1.heap.size := by omega); (try have hx1_2 : w.heap.size + 1 + 1 < w1.heap.size := by omega)) | (go_at_call 25; (with_reducible refine (HB.out _).mono ?_); rintro e w2 ⟨rfl, hb2⟩; obtain ⟨hc2, hf2⟩ := bcell hb2; have hz2 := hb2.size; (try simp at hz2); (try have hy2 := Nat.lt_of_succ_le hz2); (try have hv2 := Nat.lt_of_succ_lt hy2); (try have hw20 : w.heap.size < w2.heap.size := by omega); (try have hw21 : w.heap.size + 1 < w2.heap.size := by omega); (try have hw22 : w.heap.size + 1 + 1 < w2.heap.size := by omega); (try have hw23 : w.heap.size + 1 + 1 + 1 < w2.heap.size := by omega); (try have hx2_0 : w.heap.size < w2.heap.size := by omega); (try have hx2_1 : w.heap.size + 1 < w2.heap.size := by omega); (try have hx2_2 : w.heap.size + 1 + 1 < w2.heap.size := by omega)) | (go_at_call 29; (with_reducible refine (HR.out _).mono ?_); rintro e w3 ⟨rfl, hb3⟩; obtain ⟨hc3, hf3⟩ := bcell hb3; have hz3 := hb3.size; (try simp at hz3); (try have hy3 := Nat.lt_of_succ_le hz3); (try have hv3 := Nat.lt_of_succ_lt hy3); (try have hw30 : w.heap.size < w3.heap.size := by omega); (try have hw31 : w.heap.size + 1 < w3.heap.size := by omega); (try have hw32 : w.heap.size + 1 + 1 < w3.heap.size := by omega); (try have hw33 : w.heap.size + 1 + 1 + 1 < w3.heap.size := by omega); (try have hx3_0 : w.heap.size + 1 + 1 < w3.heap.size := by omega)))
  refine bodyPost_ret (by simp [results, Try.results7, go_sem, *] <;> rfl) rfl ⟨rfl, (by repeat (first | (with_reducible assumption) | (with_reducible exact Below.refl _ _) | (with_reducible refine Below.alloc ?_ (by first | omega | (simp; omega) | (simp; done) | (dsimp only; omega)) _) | (with_reducible refine Below.setCell ?_ (by first | omega | (simp; omega) | (simp; done) | (dsimp only; omega)) _) | (with_reducible refine Below.drew ?_) | (with_reducible refine Below.trans ?_ (Below.mono (by assumption) (by first | omega | (simp; omega) | (simp; done) | (dsimp only; omega))))))⟩
set_option maxHeartbeats 2000000 in
theorem reckon_do_13 (a b : Sp) (h : (a.none || b.none) = false) (w : World) :
    Calls Try.prog 7 #[.int .i64 13, .agg #[.bool a.s, .int .i64 a.lo, .int .i64 a.hi], .agg #[.bool b.s, .int .i64 b.lo, .int .i64 b.hi]] w fun e w' => e = .returned (.agg #[.bool (trueS 13 a b).s, .int .i64 (trueS 13 a b).lo, .int .i64 (trueS 13 a b).hi]) ∧ Below w.heap.size w w' := by
  have HA := Lib.hid (span_none a)
  have HB := Lib.hid (span_none b)
  rw [Bool.or_eq_false_iff] at h
  rw [h.1] at HA
  rw [h.2] at HB
  clear h
  have HR := Lib.hid (reckon_truth 13 (by omega) a b)
  generalize trueS 13 a b = r at *
  go_enter Try.func7, Try.ntmps7
  go_upto_region 1 with fail
  generalize hW : (((w.alloc (.cells #[.bool a.s, .int .i64 a.lo, .int .i64 a.hi] 23)).alloc (.cells #[.bool b.s, .int .i64 b.lo, .int .i64 b.hi] 23)).alloc (.cells #[.bool false, .int .i64 0, .int .i64 0] 23)) = W
  have q0_0 : W.cell? ⟨w.heap.size, 0, none⟩ = some (.bool a.s) := by rw [← hW]; simp [go_sem]
  have q0_1 : W.cell? ⟨w.heap.size, 1, none⟩ = some (.int .i64 a.lo) := by rw [← hW]; simp [go_sem]
  have q0_2 : W.cell? ⟨w.heap.size, 2, none⟩ = some (.int .i64 a.hi) := by rw [← hW]; simp [go_sem]
  have q1_0 : W.cell? ⟨w.heap.size + 1, 0, none⟩ = some (.bool b.s) := by rw [← hW]; simp [go_sem]
  have q1_1 : W.cell? ⟨w.heap.size + 1, 1, none⟩ = some (.int .i64 b.lo) := by rw [← hW]; simp [go_sem]
  have q1_2 : W.cell? ⟨w.heap.size + 1, 2, none⟩ = some (.int .i64 b.hi) := by rw [← hW]; simp [go_sem]
  have q2_0 : W.cell? ⟨w.heap.size + 1 + 1, 0, none⟩ = some (.bool false) := by rw [← hW]; simp [go_sem]
  have q2_1 : W.cell? ⟨w.heap.size + 1 + 1, 1, none⟩ = some (.int .i64 0) := by rw [← hW]; simp [go_sem]
  have q2_2 : W.cell? ⟨w.heap.size + 1 + 1, 2, none⟩ = some (.int .i64 0) := by rw [← hW]; simp [go_sem]
  have f0 : ∀ o, W.frozen? ⟨w.heap.size, o, none⟩ = false := by intro o; rw [← hW]; simp [go_sem]
  have f1 : ∀ o, W.frozen? ⟨w.heap.size + 1, o, none⟩ = false := by intro o; rw [← hW]; simp [go_sem]
  have f2 : ∀ o, W.frozen? ⟨w.heap.size + 1 + 1, o, none⟩ = false := by intro o; rw [← hW]; simp [go_sem]
  have z0 : w.heap.size < W.heap.size := by rw [← hW]; first | (simp; done) | (simp; omega)
  have z1 : w.heap.size + 1 < W.heap.size := by rw [← hW]; first | (simp; done) | (simp; omega)
  have z2 : w.heap.size + 1 + 1 < W.heap.size := by rw [← hW]; first | (simp; done) | (simp; omega)
  have HW : Below w.heap.size w W := by rw [← hW]; exact (by repeat (first | (with_reducible assumption) | (with_reducible exact Below.refl _ _) | (with_reducible refine Below.alloc ?_ (by first | omega | (simp; omega) | (simp; done) | (dsimp only; omega)) _) | (with_reducible refine Below.setCell ?_ (by first | omega | (simp; omega) | (simp; done) | (dsimp only; omega)) _) | (with_reducible refine Below.drew ?_) | (with_reducible refine Below.trans ?_ (Below.mono (by assumption) (by first | omega | (simp; omega) | (simp; done) | (dsimp only; omega))))))
  clear hW
  clear f0 f1
  go_wp2_with (first | (go_at_call 25; (with_reducible refine (HA.out _).mono ?_); rintro e w1 ⟨rfl, hb1⟩; obtain ⟨hc1, hf1⟩ := bcell hb1; have hz1 := hb1.size; (try simp at hz1); (try have hy1 := Nat.lt_of_succ_le hz1); (try have hv1 := Nat.lt_of_succ_lt hy1); (try have hw10 : w.heap.size < w1.heap.size := by omega); (try have hw11 : w.heap.size + 1 < w1.heap.size := by omega); (try have hw12 : w.heap.size + 1 + 1 < w1.heap.size := by omega); (try have hw13 : w.heap.size + 1 + 1 + 1 < w1.heap.size := by omega); (try have hx1_0 : w.heap.size < w1.heap.size := by omega); (try have hx1_1 : w.heap.size + 1 < w1.heap.size := by omega); (try have hx1_2 : w.heap.size + 1 + 1 < w1.heap.size := by omega)) | (go_at_call 25; (with_reducible refine (HB.out _).mono ?_); rintro e w2 ⟨rfl, hb2⟩; obtain ⟨hc2, hf2⟩ := bcell hb2; have hz2 := hb2.size; (try simp at hz2); (try have hy2 := Nat.lt_of_succ_le hz2); (try have hv2 := Nat.lt_of_succ_lt hy2); (try have hw20 : w.heap.size < w2.heap.size := by omega); (try have hw21 : w.heap.size + 1 < w2.heap.size := by omega); (try have hw22 : w.heap.size + 1 + 1 < w2.heap.size := by omega); (try have hw23 : w.heap.size + 1 + 1 + 1 < w2.heap.size := by omega); (try have hx2_0 : w.heap.size < w2.heap.size := by omega); (try have hx2_1 : w.heap.size + 1 < w2.heap.size := by omega); (try have hx2_2 : w.heap.size + 1 + 1 < w2.heap.size := by omega)) | (go_at_call 29; (with_reducible refine (HR.out _).mono ?_); rintro e w3 ⟨rfl, hb3⟩; obtain ⟨hc3, hf3⟩ := bcell hb3; have hz3 := hb3.size; (try simp at hz3); (try have hy3 := Nat.lt_of_succ_le hz3); (try have hv3 := Nat.lt_of_succ_lt hy3); (try have hw30 : w.heap.size < w3.heap.size := by omega); (try have hw31 : w.heap.size + 1 < w3.heap.size := by omega); (try have hw32 : w.heap.size + 1 + 1 < w3.heap.size := by omega); (try have hw33 : w.heap.size + 1 + 1 + 1 < w3.heap.size := by omega); (try have hx3_0 : w.heap.size + 1 + 1 < w3.heap.size := by omega)))
  refine bodyPost_ret (by simp [results, Try.results7, go_sem, *] <;> rfl) rfl ⟨rfl, (by repeat (first | (with_reducible assumption) | (with_reducible exact Below.refl _ _) | (with_reducible refine Below.alloc ?_ (by first | omega | (simp; omega) | (simp; done) | (dsimp only; omega)) _) | (with_reducible refine Below.setCell ?_ (by first | omega | (simp; omega) | (simp; done) | (dsimp only; omega)) _) | (with_reducible refine Below.drew ?_) | (with_reducible refine Below.trans ?_ (Below.mono (by assumption) (by first | omega | (simp; omega) | (simp; done) | (dsimp only; omega))))))⟩
set_option maxHeartbeats 2000000 in
theorem reckon_do_14 (a b : Sp) (h : (a.none || b.none) = false) (w : World) :
    Calls Try.prog 7 #[.int .i64 14, .agg #[.bool a.s, .int .i64 a.lo, .int .i64 a.hi], .agg #[.bool b.s, .int .i64 b.lo, .int .i64 b.hi]] w fun e w' => e = .returned (.agg #[.bool (trueS 14 a b).s, .int .i64 (trueS 14 a b).lo, .int .i64 (trueS 14 a b).hi]) ∧ Below w.heap.size w w' := by
  have HA := Lib.hid (span_none a)
  have HB := Lib.hid (span_none b)
  rw [Bool.or_eq_false_iff] at h
  rw [h.1] at HA
  rw [h.2] at HB
  clear h
  have HR := Lib.hid (reckon_truth 14 (by omega) a b)
  generalize trueS 14 a b = r at *
  go_enter Try.func7, Try.ntmps7
  go_upto_region 1 with fail
  generalize hW : (((w.alloc (.cells #[.bool a.s, .int .i64 a.lo, .int .i64 a.hi] 23)).alloc (.cells #[.bool b.s, .int .i64 b.lo, .int .i64 b.hi] 23)).alloc (.cells #[.bool false, .int .i64 0, .int .i64 0] 23)) = W
  have q0_0 : W.cell? ⟨w.heap.size, 0, none⟩ = some (.bool a.s) := by rw [← hW]; simp [go_sem]
  have q0_1 : W.cell? ⟨w.heap.size, 1, none⟩ = some (.int .i64 a.lo) := by rw [← hW]; simp [go_sem]
  have q0_2 : W.cell? ⟨w.heap.size, 2, none⟩ = some (.int .i64 a.hi) := by rw [← hW]; simp [go_sem]
  have q1_0 : W.cell? ⟨w.heap.size + 1, 0, none⟩ = some (.bool b.s) := by rw [← hW]; simp [go_sem]
  have q1_1 : W.cell? ⟨w.heap.size + 1, 1, none⟩ = some (.int .i64 b.lo) := by rw [← hW]; simp [go_sem]
  have q1_2 : W.cell? ⟨w.heap.size + 1, 2, none⟩ = some (.int .i64 b.hi) := by rw [← hW]; simp [go_sem]
  have q2_0 : W.cell? ⟨w.heap.size + 1 + 1, 0, none⟩ = some (.bool false) := by rw [← hW]; simp [go_sem]
  have q2_1 : W.cell? ⟨w.heap.size + 1 + 1, 1, none⟩ = some (.int .i64 0) := by rw [← hW]; simp [go_sem]
  have q2_2 : W.cell? ⟨w.heap.size + 1 + 1, 2, none⟩ = some (.int .i64 0) := by rw [← hW]; simp [go_sem]
  have f0 : ∀ o, W.frozen? ⟨w.heap.size, o, none⟩ = false := by intro o; rw [← hW]; simp [go_sem]
  have f1 : ∀ o, W.frozen? ⟨w.heap.size + 1, o, none⟩ = false := by intro o; rw [← hW]; simp [go_sem]
  have f2 : ∀ o, W.frozen? ⟨w.heap.size + 1 + 1, o, none⟩ = false := by intro o; rw [← hW]; simp [go_sem]
  have z0 : w.heap.size < W.heap.size := by rw [← hW]; first | (simp; done) | (simp; omega)
  have z1 : w.heap.size + 1 < W.heap.size := by rw [← hW]; first | (simp; done) | (simp; omega)
  have z2 : w.heap.size + 1 + 1 < W.heap.size := by rw [← hW]; first | (simp; done) | (simp; omega)
  have HW : Below w.heap.size w W := by rw [← hW]; exact (by repeat (first | (with_reducible assumption) | (with_reducible exact Below.refl _ _) | (with_reducible refine Below.alloc ?_ (by first | omega | (simp; omega) | (simp; done) | (dsimp only; omega)) _) | (with_reducible refine Below.setCell ?_ (by first | omega | (simp; omega) | (simp; done) | (dsimp only; omega)) _) | (with_reducible refine Below.drew ?_) | (with_reducible refine Below.trans ?_ (Below.mono (by assumption) (by first | omega | (simp; omega) | (simp; done) | (dsimp only; omega))))))
  clear hW
  clear f0 f1
  go_wp2_with (first | (go_at_call 25; (with_reducible refine (HA.out _).mono ?_); rintro e w1 ⟨rfl, hb1⟩; obtain ⟨hc1, hf1⟩ := bcell hb1; have hz1 := hb1.size; (try simp at hz1); (try have hy1 := Nat.lt_of_succ_le hz1); (try have hv1 := Nat.lt_of_succ_lt hy1); (try have hw10 : w.heap.size < w1.heap.size := by omega); (try have hw11 : w.heap.size + 1 < w1.heap.size := by omega); (try have hw12 : w.heap.size + 1 + 1 < w1.heap.size := by omega); (try have hw13 : w.heap.size + 1 + 1 + 1 < w1.heap.size := by omega); (try have hx1_0 : w.heap.size < w1.heap.size := by omega); (try have hx1_1 : w.heap.size + 1 < w1.heap.size := by omega); (try have hx1_2 : w.heap.size + 1 + 1 < w1.heap.size := by omega)) | (go_at_call 25; (with_reducible refine (HB.out _).mono ?_); rintro e w2 ⟨rfl, hb2⟩; obtain ⟨hc2, hf2⟩ := bcell hb2; have hz2 := hb2.size; (try simp at hz2); (try have hy2 := Nat.lt_of_succ_le hz2); (try have hv2 := Nat.lt_of_succ_lt hy2); (try have hw20 : w.heap.size < w2.heap.size := by omega); (try have hw21 : w.heap.size + 1 < w2.heap.size := by omega); (try have hw22 : w.heap.size + 1 + 1 < w2.heap.size := by omega); (try have hw23 : w.heap.size + 1 + 1 + 1 < w2.heap.size := by omega); (try have hx2_0 : w.heap.size < w2.heap.size := by omega); (try have hx2_1 : w.heap.size + 1 < w2.heap.size := by omega); (try have hx2_2 : w.heap.size + 1 + 1 < w2.heap.size := by omega)) | (go_at_call 29; (with_reducible refine (HR.out _).mono ?_); rintro e w3 ⟨rfl, hb3⟩; obtain ⟨hc3, hf3⟩ := bcell hb3; have hz3 := hb3.size; (try simp at hz3); (try have hy3 := Nat.lt_of_succ_le hz3); (try have hv3 := Nat.lt_of_succ_lt hy3); (try have hw30 : w.heap.size < w3.heap.size := by omega); (try have hw31 : w.heap.size + 1 < w3.heap.size := by omega); (try have hw32 : w.heap.size + 1 + 1 < w3.heap.size := by omega); (try have hw33 : w.heap.size + 1 + 1 + 1 < w3.heap.size := by omega); (try have hx3_0 : w.heap.size + 1 + 1 < w3.heap.size := by omega)))
  refine bodyPost_ret (by simp [results, Try.results7, go_sem, *] <;> rfl) rfl ⟨rfl, (by repeat (first | (with_reducible assumption) | (with_reducible exact Below.refl _ _) | (with_reducible refine Below.alloc ?_ (by first | omega | (simp; omega) | (simp; done) | (dsimp only; omega)) _) | (with_reducible refine Below.setCell ?_ (by first | omega | (simp; omega) | (simp; done) | (dsimp only; omega)) _) | (with_reducible refine Below.drew ?_) | (with_reducible refine Below.trans ?_ (Below.mono (by assumption) (by first | omega | (simp; omega) | (simp; done) | (dsimp only; omega))))))⟩
set_option maxHeartbeats 2000000 in
theorem reckon_do_15 (a b : Sp) (h : (a.none || b.none) = false) (w : World) :
    Calls Try.prog 7 #[.int .i64 15, .agg #[.bool a.s, .int .i64 a.lo, .int .i64 a.hi], .agg #[.bool b.s, .int .i64 b.lo, .int .i64 b.hi]] w fun e w' => e = .returned (.agg #[.bool (trueS 15 a b).s, .int .i64 (trueS 15 a b).lo, .int .i64 (trueS 15 a b).hi]) ∧ Below w.heap.size w w' := by
  have HA := Lib.hid (span_none a)
  have HB := Lib.hid (span_none b)
  rw [Bool.or_eq_false_iff] at h
  rw [h.1] at HA
  rw [h.2] at HB
  clear h
  have HR := Lib.hid (reckon_truth 15 (by omega) a b)
  generalize trueS 15 a b = r at *
  go_enter Try.func7, Try.ntmps7
  go_upto_region 1 with fail
  generalize hW : (((w.alloc (.cells #[.bool a.s, .int .i64 a.lo, .int .i64 a.hi] 23)).alloc (.cells #[.bool b.s, .int .i64 b.lo, .int .i64 b.hi] 23)).alloc (.cells #[.bool false, .int .i64 0, .int .i64 0] 23)) = W
  have q0_0 : W.cell? ⟨w.heap.size, 0, none⟩ = some (.bool a.s) := by rw [← hW]; simp [go_sem]
  have q0_1 : W.cell? ⟨w.heap.size, 1, none⟩ = some (.int .i64 a.lo) := by rw [← hW]; simp [go_sem]
  have q0_2 : W.cell? ⟨w.heap.size, 2, none⟩ = some (.int .i64 a.hi) := by rw [← hW]; simp [go_sem]
  have q1_0 : W.cell? ⟨w.heap.size + 1, 0, none⟩ = some (.bool b.s) := by rw [← hW]; simp [go_sem]
  have q1_1 : W.cell? ⟨w.heap.size + 1, 1, none⟩ = some (.int .i64 b.lo) := by rw [← hW]; simp [go_sem]
  have q1_2 : W.cell? ⟨w.heap.size + 1, 2, none⟩ = some (.int .i64 b.hi) := by rw [← hW]; simp [go_sem]
  have q2_0 : W.cell? ⟨w.heap.size + 1 + 1, 0, none⟩ = some (.bool false) := by rw [← hW]; simp [go_sem]
  have q2_1 : W.cell? ⟨w.heap.size + 1 + 1, 1, none⟩ = some (.int .i64 0) := by rw [← hW]; simp [go_sem]
  have q2_2 : W.cell? ⟨w.heap.size + 1 + 1, 2, none⟩ = some (.int .i64 0) := by rw [← hW]; simp [go_sem]
  have f0 : ∀ o, W.frozen? ⟨w.heap.size, o, none⟩ = false := by intro o; rw [← hW]; simp [go_sem]
  have f1 : ∀ o, W.frozen? ⟨w.heap.size + 1, o, none⟩ = false := by intro o; rw [← hW]; simp [go_sem]
  have f2 : ∀ o, W.frozen? ⟨w.heap.size + 1 + 1, o, none⟩ = false := by intro o; rw [← hW]; simp [go_sem]
  have z0 : w.heap.size < W.heap.size := by rw [← hW]; first | (simp; done) | (simp; omega)
  have z1 : w.heap.size + 1 < W.heap.size := by rw [← hW]; first | (simp; done) | (simp; omega)
  have z2 : w.heap.size + 1 + 1 < W.heap.size := by rw [← hW]; first | (simp; done) | (simp; omega)
  have HW : Below w.heap.size w W := by rw [← hW]; exact (by repeat (first | (with_reducible assumption) | (with_reducible exact Below.refl _ _) | (with_reducible refine Below.alloc ?_ (by first | omega | (simp; omega) | (simp; done) | (dsimp only; omega)) _) | (with_reducible refine Below.setCell ?_ (by first | omega | (simp; omega) | (simp; done) | (dsimp only; omega)) _) | (with_reducible refine Below.drew ?_) | (with_reducible refine Below.trans ?_ (Below.mono (by assumption) (by first | omega | (simp; omega) | (simp; done) | (dsimp only; omega))))))
  clear hW
  clear f0 f1
  go_wp2_with (first | (go_at_call 25; (with_reducible refine (HA.out _).mono ?_); rintro e w1 ⟨rfl, hb1⟩; obtain ⟨hc1, hf1⟩ := bcell hb1; have hz1 := hb1.size; (try simp at hz1); (try have hy1 := Nat.lt_of_succ_le hz1); (try have hv1 := Nat.lt_of_succ_lt hy1); (try have hw10 : w.heap.size < w1.heap.size := by omega); (try have hw11 : w.heap.size + 1 < w1.heap.size := by omega); (try have hw12 : w.heap.size + 1 + 1 < w1.heap.size := by omega); (try have hw13 : w.heap.size + 1 + 1 + 1 < w1.heap.size := by omega); (try have hx1_0 : w.heap.size < w1.heap.size := by omega); (try have hx1_1 : w.heap.size + 1 < w1.heap.size := by omega); (try have hx1_2 : w.heap.size + 1 + 1 < w1.heap.size := by omega)) | (go_at_call 25; (with_reducible refine (HB.out _).mono ?_); rintro e w2 ⟨rfl, hb2⟩; obtain ⟨hc2, hf2⟩ := bcell hb2; have hz2 := hb2.size; (try simp at hz2); (try have hy2 := Nat.lt_of_succ_le hz2); (try have hv2 := Nat.lt_of_succ_lt hy2); (try have hw20 : w.heap.size < w2.heap.size := by omega); (try have hw21 : w.heap.size + 1 < w2.heap.size := by omega); (try have hw22 : w.heap.size + 1 + 1 < w2.heap.size := by omega); (try have hw23 : w.heap.size + 1 + 1 + 1 < w2.heap.size := by omega); (try have hx2_0 : w.heap.size < w2.heap.size := by omega); (try have hx2_1 : w.heap.size + 1 < w2.heap.size := by omega); (try have hx2_2 : w.heap.size + 1 + 1 < w2.heap.size := by omega)) | (go_at_call 29; (with_reducible refine (HR.out _).mono ?_); rintro e w3 ⟨rfl, hb3⟩; obtain ⟨hc3, hf3⟩ := bcell hb3; have hz3 := hb3.size; (try simp at hz3); (try have hy3 := Nat.lt_of_succ_le hz3); (try have hv3 := Nat.lt_of_succ_lt hy3); (try have hw30 : w.heap.size < w3.heap.size := by omega); (try have hw31 : w.heap.size + 1 < w3.heap.size := by omega); (try have hw32 : w.heap.size + 1 + 1 < w3.heap.size := by omega); (try have hw33 : w.heap.size + 1 + 1 + 1 < w3.heap.size := by omega); (try have hx3_0 : w.heap.size + 1 + 1 < w3.heap.size := by omega)))
  refine bodyPost_ret (by simp [results, Try.results7, go_sem, *] <;> rfl) rfl ⟨rfl, (by repeat (first | (with_reducible assumption) | (with_reducible exact Below.refl _ _) | (with_reducible refine Below.alloc ?_ (by first | omega | (simp; omega) | (simp; done) | (dsimp only; omega)) _) | (with_reducible refine Below.setCell ?_ (by first | omega | (simp; omega) | (simp; done) | (dsimp only; omega)) _) | (with_reducible refine Below.drew ?_) | (with_reducible refine Below.trans ?_ (Below.mono (by assumption) (by first | omega | (simp; omega) | (simp; done) | (dsimp only; omega))))))⟩
set_option maxHeartbeats 2000000 in
theorem reckon_do_16 (a b : Sp) (h : (a.none || b.none) = false) (w : World) :
    Calls Try.prog 7 #[.int .i64 16, .agg #[.bool a.s, .int .i64 a.lo, .int .i64 a.hi], .agg #[.bool b.s, .int .i64 b.lo, .int .i64 b.hi]] w fun e w' => e = .returned (.agg #[.bool (trueS 16 a b).s, .int .i64 (trueS 16 a b).lo, .int .i64 (trueS 16 a b).hi]) ∧ Below w.heap.size w w' := by
  have HA := Lib.hid (span_none a)
  have HB := Lib.hid (span_none b)
  rw [Bool.or_eq_false_iff] at h
  rw [h.1] at HA
  rw [h.2] at HB
  clear h
  have HR := Lib.hid (reckon_truth 16 (by omega) a b)
  generalize trueS 16 a b = r at *
  go_enter Try.func7, Try.ntmps7
  go_upto_region 1 with fail
  generalize hW : (((w.alloc (.cells #[.bool a.s, .int .i64 a.lo, .int .i64 a.hi] 23)).alloc (.cells #[.bool b.s, .int .i64 b.lo, .int .i64 b.hi] 23)).alloc (.cells #[.bool false, .int .i64 0, .int .i64 0] 23)) = W
  have q0_0 : W.cell? ⟨w.heap.size, 0, none⟩ = some (.bool a.s) := by rw [← hW]; simp [go_sem]
  have q0_1 : W.cell? ⟨w.heap.size, 1, none⟩ = some (.int .i64 a.lo) := by rw [← hW]; simp [go_sem]
  have q0_2 : W.cell? ⟨w.heap.size, 2, none⟩ = some (.int .i64 a.hi) := by rw [← hW]; simp [go_sem]
  have q1_0 : W.cell? ⟨w.heap.size + 1, 0, none⟩ = some (.bool b.s) := by rw [← hW]; simp [go_sem]
  have q1_1 : W.cell? ⟨w.heap.size + 1, 1, none⟩ = some (.int .i64 b.lo) := by rw [← hW]; simp [go_sem]
  have q1_2 : W.cell? ⟨w.heap.size + 1, 2, none⟩ = some (.int .i64 b.hi) := by rw [← hW]; simp [go_sem]
  have q2_0 : W.cell? ⟨w.heap.size + 1 + 1, 0, none⟩ = some (.bool false) := by rw [← hW]; simp [go_sem]
  have q2_1 : W.cell? ⟨w.heap.size + 1 + 1, 1, none⟩ = some (.int .i64 0) := by rw [← hW]; simp [go_sem]
  have q2_2 : W.cell? ⟨w.heap.size + 1 + 1, 2, none⟩ = some (.int .i64 0) := by rw [← hW]; simp [go_sem]
  have f0 : ∀ o, W.frozen? ⟨w.heap.size, o, none⟩ = false := by intro o; rw [← hW]; simp [go_sem]
  have f1 : ∀ o, W.frozen? ⟨w.heap.size + 1, o, none⟩ = false := by intro o; rw [← hW]; simp [go_sem]
  have f2 : ∀ o, W.frozen? ⟨w.heap.size + 1 + 1, o, none⟩ = false := by intro o; rw [← hW]; simp [go_sem]
  have z0 : w.heap.size < W.heap.size := by rw [← hW]; first | (simp; done) | (simp; omega)
  have z1 : w.heap.size + 1 < W.heap.size := by rw [← hW]; first | (simp; done) | (simp; omega)
  have z2 : w.heap.size + 1 + 1 < W.heap.size := by rw [← hW]; first | (simp; done) | (simp; omega)
  have HW : Below w.heap.size w W := by rw [← hW]; exact (by repeat (first | (with_reducible assumption) | (with_reducible exact Below.refl _ _) | (with_reducible refine Below.alloc ?_ (by first | omega | (simp; omega) | (simp; done) | (dsimp only; omega)) _) | (with_reducible refine Below.setCell ?_ (by first | omega | (simp; omega) | (simp; done) | (dsimp only; omega)) _) | (with_reducible refine Below.drew ?_) | (with_reducible refine Below.trans ?_ (Below.mono (by assumption) (by first | omega | (simp; omega) | (simp; done) | (dsimp only; omega))))))
  clear hW
  clear f0 f1
  go_wp2_with (first | (go_at_call 25; (with_reducible refine (HA.out _).mono ?_); rintro e w1 ⟨rfl, hb1⟩; obtain ⟨hc1, hf1⟩ := bcell hb1; have hz1 := hb1.size; (try simp at hz1); (try have hy1 := Nat.lt_of_succ_le hz1); (try have hv1 := Nat.lt_of_succ_lt hy1); (try have hw10 : w.heap.size < w1.heap.size := by omega); (try have hw11 : w.heap.size + 1 < w1.heap.size := by omega); (try have hw12 : w.heap.size + 1 + 1 < w1.heap.size := by omega); (try have hw13 : w.heap.size + 1 + 1 + 1 < w1.heap.size := by omega); (try have hx1_0 : w.heap.size < w1.heap.size := by omega); (try have hx1_1 : w.heap.size + 1 < w1.heap.size := by omega); (try have hx1_2 : w.heap.size + 1 + 1 < w1.heap.size := by omega)) | (go_at_call 25; (with_reducible refine (HB.out _).mono ?_); rintro e w2 ⟨rfl, hb2⟩; obtain ⟨hc2, hf2⟩ := bcell hb2; have hz2 := hb2.size; (try simp at hz2); (try have hy2 := Nat.lt_of_succ_le hz2); (try have hv2 := Nat.lt_of_succ_lt hy2); (try have hw20 : w.heap.size < w2.heap.size := by omega); (try have hw21 : w.heap.size + 1 < w2.heap.size := by omega); (try have hw22 : w.heap.size + 1 + 1 < w2.heap.size := by omega); (try have hw23 : w.heap.size + 1 + 1 + 1 < w2.heap.size := by omega); (try have hx2_0 : w.heap.size < w2.heap.size := by omega); (try have hx2_1 : w.heap.size + 1 < w2.heap.size := by omega); (try have hx2_2 : w.heap.size + 1 + 1 < w2.heap.size := by omega)) | (go_at_call 29; (with_reducible refine (HR.out _).mono ?_); rintro e w3 ⟨rfl, hb3⟩; obtain ⟨hc3, hf3⟩ := bcell hb3; have hz3 := hb3.size; (try simp at hz3); (try have hy3 := Nat.lt_of_succ_le hz3); (try have hv3 := Nat.lt_of_succ_lt hy3); (try have hw30 : w.heap.size < w3.heap.size := by omega); (try have hw31 : w.heap.size + 1 < w3.heap.size := by omega); (try have hw32 : w.heap.size + 1 + 1 < w3.heap.size := by omega); (try have hw33 : w.heap.size + 1 + 1 + 1 < w3.heap.size := by omega); (try have hx3_0 : w.heap.size + 1 + 1 < w3.heap.size := by omega)))
  refine bodyPost_ret (by simp [results, Try.results7, go_sem, *] <;> rfl) rfl ⟨rfl, (by repeat (first | (with_reducible assumption) | (with_reducible exact Below.refl _ _) | (with_reducible refine Below.alloc ?_ (by first | omega | (simp; omega) | (simp; done) | (dsimp only; omega)) _) | (with_reducible refine Below.setCell ?_ (by first | omega | (simp; omega) | (simp; done) | (dsimp only; omega)) _) | (with_reducible refine Below.drew ?_) | (with_reducible refine Below.trans ?_ (Below.mono (by assumption) (by first | omega | (simp; omega) | (simp; done) | (dsimp only; omega))))))⟩
set_option maxHeartbeats 2000000 in
theorem reckon_do_17 (a b : Sp) (h : (a.none || b.none) = false) (w : World) :
    Calls Try.prog 7 #[.int .i64 17, .agg #[.bool a.s, .int .i64 a.lo, .int .i64 a.hi], .agg #[.bool b.s, .int .i64 b.lo, .int .i64 b.hi]] w fun e w' => e = .returned (.agg #[.bool (trueS 17 a b).s, .int .i64 (trueS 17 a b).lo, .int .i64 (trueS 17 a b).hi]) ∧ Below w.heap.size w w' := by
  have HA := Lib.hid (span_none a)
  have HB := Lib.hid (span_none b)
  rw [Bool.or_eq_false_iff] at h
  rw [h.1] at HA
  rw [h.2] at HB
  clear h
  have HR := Lib.hid (reckon_truth 17 (by omega) a b)
  generalize trueS 17 a b = r at *
  go_enter Try.func7, Try.ntmps7
  go_upto_region 1 with fail
  generalize hW : (((w.alloc (.cells #[.bool a.s, .int .i64 a.lo, .int .i64 a.hi] 23)).alloc (.cells #[.bool b.s, .int .i64 b.lo, .int .i64 b.hi] 23)).alloc (.cells #[.bool false, .int .i64 0, .int .i64 0] 23)) = W
  have q0_0 : W.cell? ⟨w.heap.size, 0, none⟩ = some (.bool a.s) := by rw [← hW]; simp [go_sem]
  have q0_1 : W.cell? ⟨w.heap.size, 1, none⟩ = some (.int .i64 a.lo) := by rw [← hW]; simp [go_sem]
  have q0_2 : W.cell? ⟨w.heap.size, 2, none⟩ = some (.int .i64 a.hi) := by rw [← hW]; simp [go_sem]
  have q1_0 : W.cell? ⟨w.heap.size + 1, 0, none⟩ = some (.bool b.s) := by rw [← hW]; simp [go_sem]
  have q1_1 : W.cell? ⟨w.heap.size + 1, 1, none⟩ = some (.int .i64 b.lo) := by rw [← hW]; simp [go_sem]
  have q1_2 : W.cell? ⟨w.heap.size + 1, 2, none⟩ = some (.int .i64 b.hi) := by rw [← hW]; simp [go_sem]
  have q2_0 : W.cell? ⟨w.heap.size + 1 + 1, 0, none⟩ = some (.bool false) := by rw [← hW]; simp [go_sem]
  have q2_1 : W.cell? ⟨w.heap.size + 1 + 1, 1, none⟩ = some (.int .i64 0) := by rw [← hW]; simp [go_sem]
  have q2_2 : W.cell? ⟨w.heap.size + 1 + 1, 2, none⟩ = some (.int .i64 0) := by rw [← hW]; simp [go_sem]
  have f0 : ∀ o, W.frozen? ⟨w.heap.size, o, none⟩ = false := by intro o; rw [← hW]; simp [go_sem]
  have f1 : ∀ o, W.frozen? ⟨w.heap.size + 1, o, none⟩ = false := by intro o; rw [← hW]; simp [go_sem]
  have f2 : ∀ o, W.frozen? ⟨w.heap.size + 1 + 1, o, none⟩ = false := by intro o; rw [← hW]; simp [go_sem]
  have z0 : w.heap.size < W.heap.size := by rw [← hW]; first | (simp; done) | (simp; omega)
  have z1 : w.heap.size + 1 < W.heap.size := by rw [← hW]; first | (simp; done) | (simp; omega)
  have z2 : w.heap.size + 1 + 1 < W.heap.size := by rw [← hW]; first | (simp; done) | (simp; omega)
  have HW : Below w.heap.size w W := by rw [← hW]; exact (by repeat (first | (with_reducible assumption) | (with_reducible exact Below.refl _ _) | (with_reducible refine Below.alloc ?_ (by first | omega | (simp; omega) | (simp; done) | (dsimp only; omega)) _) | (with_reducible refine Below.setCell ?_ (by first | omega | (simp; omega) | (simp; done) | (dsimp only; omega)) _) | (with_reducible refine Below.drew ?_) | (with_reducible refine Below.trans ?_ (Below.mono (by assumption) (by first | omega | (simp; omega) | (simp; done) | (dsimp only; omega))))))
  clear hW
  clear f0 f1
  go_wp2_with (first | (go_at_call 25; (with_reducible refine (HA.out _).mono ?_); rintro e w1 ⟨rfl, hb1⟩; obtain ⟨hc1, hf1⟩ := bcell hb1; have hz1 := hb1.size; (try simp at hz1); (try have hy1 := Nat.lt_of_succ_le hz1); (try have hv1 := Nat.lt_of_succ_lt hy1); (try have hw10 : w.heap.size < w1.heap.size := by omega); (try have hw11 : w.heap.size + 1 < w1.heap.size := by omega); (try have hw12 : w.heap.size + 1 + 1 < w1.heap.size := by omega); (try have hw13 : w.heap.size + 1 + 1 + 1 < w1.heap.size := by omega); (try have hx1_0 : w.heap.size < w1.heap.size := by omega); (try have hx1_1 : w.heap.size + 1 < w1.heap.size := by omega); (try have hx1_2 : w.heap.size + 1 + 1 < w1.heap.size := by omega)) | (go_at_call 25; (with_reducible refine (HB.out _).mono ?_); rintro e w2 ⟨rfl, hb2⟩; obtain ⟨hc2, hf2⟩ := bcell hb2; have hz2 := hb2.size; (try simp at hz2); (try have hy2 := Nat.lt_of_succ_le hz2); (try have hv2 := Nat.lt_of_succ_lt hy2); (try have hw20 : w.heap.size < w2.heap.size := by omega); (try have hw21 : w.heap.size + 1 < w2.heap.size := by omega); (try have hw22 : w.heap.size + 1 + 1 < w2.heap.size := by omega); (try have hw23 : w.heap.size + 1 + 1 + 1 < w2.heap.size := by omega); (try have hx2_0 : w.heap.size < w2.heap.size := by omega); (try have hx2_1 : w.heap.size + 1 < w2.heap.size := by omega); (try have hx2_2 : w.heap.size + 1 + 1 < w2.heap.size := by omega)) | (go_at_call 29; (with_reducible refine (HR.out _).mono ?_); rintro e w3 ⟨rfl, hb3⟩; obtain ⟨hc3, hf3⟩ := bcell hb3; have hz3 := hb3.size; (try simp at hz3); (try have hy3 := Nat.lt_of_succ_le hz3); (try have hv3 := Nat.lt_of_succ_lt hy3); (try have hw30 : w.heap.size < w3.heap.size := by omega); (try have hw31 : w.heap.size + 1 < w3.heap.size := by omega); (try have hw32 : w.heap.size + 1 + 1 < w3.heap.size := by omega); (try have hw33 : w.heap.size + 1 + 1 + 1 < w3.heap.size := by omega); (try have hx3_0 : w.heap.size + 1 + 1 < w3.heap.size := by omega)))
  refine bodyPost_ret (by simp [results, Try.results7, go_sem, *] <;> rfl) rfl ⟨rfl, (by repeat (first | (with_reducible assumption) | (with_reducible exact Below.refl _ _) | (with_reducible refine Below.alloc ?_ (by first | omega | (simp; omega) | (simp; done) | (dsimp only; omega)) _) | (with_reducible refine Below.setCell ?_ (by first | omega | (simp; omega) | (simp; done) | (dsimp only; omega)) _) | (with_reducible refine Below.drew ?_) | (with_reducible refine Below.trans ?_ (Below.mono (by assumption) (by first | omega | (simp; omega) | (simp; done) | (dsimp only; omega))))))⟩
set_option maxHeartbeats 2000000 in
theorem reckon_do_other (op : Int) (ho : op < 7 ∨ 17 < op) (a b : Sp) (h : (a.none || b.none) = false) (w : World) :
    Calls Try.prog 7 #[.int .i64 op, .agg #[.bool a.s, .int .i64 a.lo, .int .i64 a.hi], .agg #[.bool b.s, .int .i64 b.lo, .int .i64 b.hi]] w fun e w' => e = .returned (.agg #[.bool false, .int .i64 0, .int .i64 0]) ∧ Below w.heap.size w w' := by
  have HA := Lib.hid (span_none a)
  have HB := Lib.hid (span_none b)
  rw [Bool.or_eq_false_iff] at h
  rw [h.1] at HA
  rw [h.2] at HB
  clear h
  have k7 : (op == 7) = false := by simp; omega
  have k8 : (op == 8) = false := by simp; omega
  have k9 : (op == 9) = false := by simp; omega
  have k10 : (op == 10) = false := by simp; omega
  have k11 : (op == 11) = false := by simp; omega
  have k12 : (op == 12) = false := by simp; omega
  have k13 : (op == 13) = false := by simp; omega
  have k14 : (op == 14) = false := by simp; omega
  have k15 : (op == 15) = false := by simp; omega
  have k16 : (op == 16) = false := by simp; omega
  have k17 : (op == 17) = false := by simp; omega
  clear ho
  go_enter Try.func7, Try.ntmps7
  go_upto_region 1 with fail
  generalize hW : (((w.alloc (.cells #[.bool a.s, .int .i64 a.lo, .int .i64 a.hi] 23)).alloc (.cells #[.bool b.s, .int .i64 b.lo, .int .i64 b.hi] 23)).alloc (.cells #[.bool false, .int .i64 0, .int .i64 0] 23)) = W
  have q0_0 : W.cell? ⟨w.heap.size, 0, none⟩ = some (.bool a.s) := by rw [← hW]; simp [go_sem]
  have q0_1 : W.cell? ⟨w.heap.size, 1, none⟩ = some (.int .i64 a.lo) := by rw [← hW]; simp [go_sem]
  have q0_2 : W.cell? ⟨w.heap.size, 2, none⟩ = some (.int .i64 a.hi) := by rw [← hW]; simp [go_sem]
  have q1_0 : W.cell? ⟨w.heap.size + 1, 0, none⟩ = some (.bool b.s) := by rw [← hW]; simp [go_sem]
  have q1_1 : W.cell? ⟨w.heap.size + 1, 1, none⟩ = some (.int .i64 b.lo) := by rw [← hW]; simp [go_sem]
  have q1_2 : W.cell? ⟨w.heap.size + 1, 2, none⟩ = some (.int .i64 b.hi) := by rw [← hW]; simp [go_sem]
  have q2_0 : W.cell? ⟨w.heap.size + 1 + 1, 0, none⟩ = some (.bool false) := by rw [← hW]; simp [go_sem]
  have q2_1 : W.cell? ⟨w.heap.size + 1 + 1, 1, none⟩ = some (.int .i64 0) := by rw [← hW]; simp [go_sem]
  have q2_2 : W.cell? ⟨w.heap.size + 1 + 1, 2, none⟩ = some (.int .i64 0) := by rw [← hW]; simp [go_sem]
  have f0 : ∀ o, W.frozen? ⟨w.heap.size, o, none⟩ = false := by intro o; rw [← hW]; simp [go_sem]
  have f1 : ∀ o, W.frozen? ⟨w.heap.size + 1, o, none⟩ = false := by intro o; rw [← hW]; simp [go_sem]
  have f2 : ∀ o, W.frozen? ⟨w.heap.size + 1 + 1, o, none⟩ = false := by intro o; rw [← hW]; simp [go_sem]
  have z0 : w.heap.size < W.heap.size := by rw [← hW]; first | (simp; done) | (simp; omega)
  have z1 : w.heap.size + 1 < W.heap.size := by rw [← hW]; first | (simp; done) | (simp; omega)
  have z2 : w.heap.size + 1 + 1 < W.heap.size := by rw [← hW]; first | (simp; done) | (simp; omega)
  have HW : Below w.heap.size w W := by rw [← hW]; exact (by repeat (first | (with_reducible assumption) | (with_reducible exact Below.refl _ _) | (with_reducible refine Below.alloc ?_ (by first | omega | (simp; omega) | (simp; done) | (dsimp only; omega)) _) | (with_reducible refine Below.setCell ?_ (by first | omega | (simp; omega) | (simp; done) | (dsimp only; omega)) _) | (with_reducible refine Below.drew ?_) | (with_reducible refine Below.trans ?_ (Below.mono (by assumption) (by first | omega | (simp; omega) | (simp; done) | (dsimp only; omega))))))
  clear hW
  clear f0 f1
  go_wp2_with (first | (go_at_call 25; (with_reducible refine (HA.out _).mono ?_); rintro e w1 ⟨rfl, hb1⟩; obtain ⟨hc1, hf1⟩ := bcell hb1; have hz1 := hb1.size; (try simp at hz1); (try have hy1 := Nat.lt_of_succ_le hz1); (try have hv1 := Nat.lt_of_succ_lt hy1); (try have hw10 : w.heap.size < w1.heap.size := by omega); (try have hw11 : w.heap.size + 1 < w1.heap.size := by omega); (try have hw12 : w.heap.size + 1 + 1 < w1.heap.size := by omega); (try have hw13 : w.heap.size + 1 + 1 + 1 < w1.heap.size := by omega); (try have hx1_0 : w.heap.size < w1.heap.size := by omega); (try have hx1_1 : w.heap.size + 1 < w1.heap.size := by omega); (try have hx1_2 : w.heap.size + 1 + 1 < w1.heap.size := by omega)) | (go_at_call 25; (with_reducible refine (HB.out _).mono ?_); rintro e w2 ⟨rfl, hb2⟩; obtain ⟨hc2, hf2⟩ := bcell hb2; have hz2 := hb2.size; (try simp at hz2); (try have hy2 := Nat.lt_of_succ_le hz2); (try have hv2 := Nat.lt_of_succ_lt hy2); (try have hw20 : w.heap.size < w2.heap.size := by omega); (try have hw21 : w.heap.size + 1 < w2.heap.size := by omega); (try have hw22 : w.heap.size + 1 + 1 < w2.heap.size := by omega); (try have hw23 : w.heap.size + 1 + 1 + 1 < w2.heap.size := by omega); (try have hx2_0 : w.heap.size < w2.heap.size := by omega); (try have hx2_1 : w.heap.size + 1 < w2.heap.size := by omega); (try have hx2_2 : w.heap.size + 1 + 1 < w2.heap.size := by omega)))
  refine bodyPost_ret (by simp [results, Try.results7, go_sem, *] <;> rfl) rfl ⟨rfl, (by repeat (first | (with_reducible assumption) | (with_reducible exact Below.refl _ _) | (with_reducible refine Below.alloc ?_ (by first | omega | (simp; omega) | (simp; done) | (dsimp only; omega)) _) | (with_reducible refine Below.setCell ?_ (by first | omega | (simp; omega) | (simp; done) | (dsimp only; omega)) _) | (with_reducible refine Below.drew ?_) | (with_reducible refine Below.trans ?_ (Below.mono (by assumption) (by first | omega | (simp; omega) | (simp; done) | (dsimp only; omega))))))⟩

theorem reckon_do (op : Int) (a b : Sp) (ha : I64 a.lo ∧ I64 a.hi) (hb : I64 b.lo ∧ I64 b.hi) (w : World) :
    Calls Try.prog 7 #[.int .i64 op, .agg #[.bool a.s, .int .i64 a.lo, .int .i64 a.hi], .agg #[.bool b.s, .int .i64 b.lo, .int .i64 b.hi]] w fun e w' => e = .returned (.agg #[.bool (doS op a b).s, .int .i64 (doS op a b).lo, .int .i64 (doS op a b).hi]) ∧ Below w.heap.size w w' := by
  cases h : (a.none || b.none)
  · by_cases ho : op < 7 ∨ 17 < op
    · rw [doS_other ho]; exact reckon_do_other op ho a b h w
    · rcases (show op = 7 ∨ op = 8 ∨ op = 9 ∨ op = 10 ∨ op = 11 ∨ op = 12 ∨ op = 13 ∨ op = 14 ∨ op = 15 ∨ op = 16 ∨ op = 17 by omega) with rfl | rfl | rfl | rfl | rfl | rfl | rfl | rfl | rfl | rfl | rfl
      · rw [doS_bet h (by omega)]; exact reckon_do_7 a b ha hb h w
      · rw [doS_8 h]; exact reckon_do_8 a b ha hb h w
      · rw [doS_9 h]; exact reckon_do_9 a b ha hb h w
      · rw [doS_bet h (by omega)]; exact reckon_do_10 a b ha hb h w
      · rw [doS_bet h (by omega)]; exact reckon_do_11 a b ha hb h w
      · rw [doS_t h (by omega)]; exact reckon_do_12 a b h w
      · rw [doS_t h (by omega)]; exact reckon_do_13 a b h w
      · rw [doS_t h (by omega)]; exact reckon_do_14 a b h w
      · rw [doS_t h (by omega)]; exact reckon_do_15 a b h w
      · rw [doS_t h (by omega)]; exact reckon_do_16 a b h w
      · rw [doS_t h (by omega)]; exact reckon_do_17 a b h w
  · rw [doS_none h]; exact reckon_do_none op a b h w
end Go.Proofs.Ytdphjfppfngcmaa
