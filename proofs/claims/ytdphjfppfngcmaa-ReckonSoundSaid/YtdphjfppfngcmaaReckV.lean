/- Do, One and Traps of layer 4: the program's and the document's are one. -/
import Derived.Test.YtdphjfppfngcmaaReckU
namespace Go.Proofs.Ytdphjfppfngcmaa
open Go.RowKit

theorem low_none {b : Sp} (hb : b.none = false) (h : I64 b.lo ∧ I64 b.hi) : (lowP b).none = decide (-1 < b.lo) := by
  have e : Sp.of (-9223372036854775808) (-1) = ⟨true, -9223372036854775808, -1⟩ := rfl
  have l := (none_parts hb).2
  unfold lowP
  rw [e, Sp.meet_00 hb rfl, of_none, decide_eq_decide]
  unfold I64 at h
  dsimp only
  omega
theorem high_none {b : Sp} (hb : b.none = false) (h : I64 b.lo ∧ I64 b.hi) : (highP b).none = decide (b.hi < 1) := by
  have e : Sp.of 1 9223372036854775807 = ⟨true, 1, 9223372036854775807⟩ := rfl
  have l := (none_parts hb).2
  unfold highP
  rw [e, Sp.meet_00 hb rfl, of_none, decide_eq_decide]
  unfold I64 at h
  dsimp only
  omega
theorem part_zero {b : Sp} (hb : b.none = false) (h : I64 b.lo ∧ I64 b.hi) : partB b = !(b.lo == 0 && b.hi == 0) := by
  unfold partB
  rw [low_none hb h, high_none hb h]
  congr 1
  have l := (none_parts hb).2
  rw [Bool.eq_iff_iff]
  simp only [Bool.and_eq_true, decide_eq_true_eq, beq_iff_eq]
  omega
theorem big_larg {b : Sp} (hb : b.none = false) (h : I64 b.lo ∧ I64 b.hi) (hz : (b.lo == 0 && b.hi == 0) = false) : bigA b - 1 = largS b := by
  have l := (none_parts hb).2
  have hz' : ¬ (b.lo = 0 ∧ b.hi = 0) := by
    intro hh
    rw [hh.1, hh.2] at hz
    exact absurd hz (by decide)
  unfold bigA absI largS negS wrap64 I64 at *
  split <;> split <;> split <;> omega
theorem rest_rem {a b : Sp} (hb : b.none = false) (h : I64 b.lo ∧ I64 b.hi) : restS a b = remS a b := by
  unfold restS remS
  rw [part_zero hb h]
  cases hz : (b.lo == 0 && b.hi == 0)
  · rw [if_neg (show ¬ (false = true) by decide), if_neg (show ¬ ((!false) = false) by decide), big_larg hb h hz]
  · rw [if_pos rfl, if_pos (show (!true) = false from rfl)]

theorem r4_do (op : Int) (a b : Sp) (ha : I64 a.lo ∧ I64 a.hi) (hb : I64 b.lo ∧ I64 b.hi) (w : World) :
    Calls Try.prog 8 #[.int .i64 op, .agg #[.bool a.s, .int .i64 a.lo, .int .i64 a.hi], .agg #[.bool b.s, .int .i64 b.lo, .int .i64 b.hi]] w fun e w' => e = .returned (.agg #[.bool (doS op a b).s, .int .i64 (doS op a b).lo, .int .i64 (doS op a b).hi]) ∧ Below w.heap.size w w' := by
  cases h : (a.none || b.none)
  · have h' := h
    rw [Bool.or_eq_false_iff] at h'
    by_cases ho : op < 7
    · rw [doS_other (Or.inl ho)]; exact r4_do_lt op ho a b h w
    · by_cases ho2 : 17 < op
      · rw [doS_other (Or.inr ho2)]; exact r4_do_gt op ho2 a b h w
      · rcases (show op = 7 ∨ op = 8 ∨ op = 9 ∨ op = 10 ∨ op = 11 ∨ op = 12 ∨ op = 13 ∨ op = 14 ∨ op = 15 ∨ op = 16 ∨ op = 17 by omega) with rfl | rfl | rfl | rfl | rfl | rfl | rfl | rfl | rfl | rfl | rfl
        · rw [doS_bet h (by omega)]; exact r4_do_7 a b ha hb h w
        · rw [doS_8 h]; exact r4_do_8 a b ha hb h w
        · rw [doS_9 h, ← rest_rem h'.2 hb]; exact r4_do_9 a b ha hb h w
        · rw [doS_bet h (by omega)]; exact r4_do_10 a b ha hb h w
        · rw [doS_bet h (by omega)]; exact r4_do_11 a b ha hb h w

        · rw [doS_t h (by omega), true_may (by omega) h'.1 h'.2]; exact r4_do_12 a b h w
        · rw [doS_t h (by omega), true_may (by omega) h'.1 h'.2]; exact r4_do_13 a b h w
        · rw [doS_t h (by omega), true_may (by omega) h'.1 h'.2]; exact r4_do_14 a b h w
        · rw [doS_t h (by omega), true_may (by omega) h'.1 h'.2]; exact r4_do_15 a b h w
        · rw [doS_t h (by omega), true_may (by omega) h'.1 h'.2]; exact r4_do_16 a b h w
        · rw [doS_t h (by omega), true_may (by omega) h'.1 h'.2]; exact r4_do_17 a b h w
  · rw [doS_none h]; exact r4_do_none op a b h w

/-- What an operator of one operand comes to. -/
def oneS (op : Int) (a : Sp) : Sp := if a.none = true then ⟨false, 0, 0⟩ else if op = 5 then doS 11 (Sp.of 0 0) a else if op = 6 then trueS 14 a (Sp.of 0 0) else ⟨false, 0, 0⟩
theorem oneS_none {op : Int} {a : Sp} (h : a.none = true) : oneS op a = ⟨false, 0, 0⟩ := if_pos h
theorem oneS_5 {a : Sp} (h : a.none = false) : oneS 5 a = doS 11 (Sp.of 0 0) a := by unfold oneS; rw [if_neg (by rw [h]; decide), if_pos rfl]
theorem oneS_6 {a : Sp} (h : a.none = false) : oneS 6 a = trueS 14 a (Sp.of 0 0) := by unfold oneS; rw [if_neg (by rw [h]; decide), if_neg (by decide), if_pos rfl]
theorem oneS_other {op : Int} {a : Sp} (h5 : op ≠ 5) (h6 : op ≠ 6) : oneS op a = ⟨false, 0, 0⟩ := by unfold oneS; rw [if_neg h5, if_neg h6]; split <;> rfl
theorem not_true {a : Sp} (h : a.none = false) : trueS 14 a (Sp.of 0 0) = truthS (a.has 0) (nzB a) := by
  rw [true_may (by omega) h rfl]
  have e1 : (mayS 14 a (Sp.of 0 0)).1 = a.has 0 := by
    show (!(a.meet (Sp.of 0 0)).none) = a.has 0
    have e : Sp.of 0 0 = ⟨true, 0, 0⟩ := rfl
    rw [e, Sp.meet_00 h rfl, of_none, hasz h, Bool.eq_iff_iff]
    simp only [Bool.not_eq_true', decide_eq_false_iff_not, Bool.and_eq_true, decide_eq_true_eq]
    omega
  have e2 : (mayS 14 a (Sp.of 0 0)).2 = nzB a := by
    show (!oneB a (Sp.of 0 0)) = nzB a
    have e : Sp.of 0 0 = ⟨true, 0, 0⟩ := rfl
    rw [e]
    unfold oneB nzB
    dsimp only
    by_cases q1 : a.lo = 0
    · by_cases q2 : a.hi = 0
      · rw [q1, q2]; rfl
      · have k1 : (a.lo == a.hi) = false := by rw [beq_eq_false_iff_ne]; omega
        have k2 : (a.hi != 0) = true := by simpa using q2
        rw [k1, k2]; simp
    · have k1 : (a.lo == 0) = false := by simpa using q1
      have k2 : (a.lo != 0) = true := by simpa using q1
      rw [k1, k2]; simp
  rw [e1, e2]

set_option maxHeartbeats 2000000 in
theorem reckon_one_none (op : Int) (a : Sp) (h : a.none = true) (w : World) :
    Calls Try.prog 12 #[.int .i64 op, .agg #[.bool a.s, .int .i64 a.lo, .int .i64 a.hi]] w fun e w' => e = .returned (.agg #[.bool false, .int .i64 0, .int .i64 0]) ∧ Below w.heap.size w w' := by
  have HA := Lib.hid (span_none a)
  rw [h] at HA
  clear h
  go_enter Try.func12, Try.ntmps12
  go_upto_region 1 with fail
  generalize hW : ((w.alloc (.cells #[.bool a.s, .int .i64 a.lo, .int .i64 a.hi] 23)).alloc (.cells #[.bool false, .int .i64 0, .int .i64 0] 23)) = W
  have q0_0 : W.cell? ⟨w.heap.size, 0, none⟩ = some (.bool a.s) := by rw [← hW]; simp [go_sem]
  have q0_1 : W.cell? ⟨w.heap.size, 1, none⟩ = some (.int .i64 a.lo) := by rw [← hW]; simp [go_sem]
  have q0_2 : W.cell? ⟨w.heap.size, 2, none⟩ = some (.int .i64 a.hi) := by rw [← hW]; simp [go_sem]
  have q1_0 : W.cell? ⟨w.heap.size + 1, 0, none⟩ = some (.bool false) := by rw [← hW]; simp [go_sem]
  have q1_1 : W.cell? ⟨w.heap.size + 1, 1, none⟩ = some (.int .i64 0) := by rw [← hW]; simp [go_sem]
  have q1_2 : W.cell? ⟨w.heap.size + 1, 2, none⟩ = some (.int .i64 0) := by rw [← hW]; simp [go_sem]
  have f0 : ∀ o, W.frozen? ⟨w.heap.size, o, none⟩ = false := by intro o; rw [← hW]; simp [go_sem]
  have f1 : ∀ o, W.frozen? ⟨w.heap.size + 1, o, none⟩ = false := by intro o; rw [← hW]; simp [go_sem]
  have z0 : w.heap.size < W.heap.size := by rw [← hW]; first | (simp; done) | (simp; omega)
  have z1 : w.heap.size + 1 < W.heap.size := by rw [← hW]; first | (simp; done) | (simp; omega)
  have HW : Below w.heap.size w W := by rw [← hW]; exact (by repeat (first | (with_reducible assumption) | (with_reducible exact Below.refl _ _) | (with_reducible refine Below.alloc ?_ (by first | omega | (simp; omega) | (simp; done) | (dsimp only; omega)) _) | (with_reducible refine Below.setCell ?_ (by first | omega | (simp; omega) | (simp; done) | (dsimp only; omega)) _) | (with_reducible refine Below.drew ?_) | (with_reducible refine Below.trans ?_ (Below.mono (by assumption) (by first | omega | (simp; omega) | (simp; done) | (dsimp only; omega))))))
  clear hW
  clear f0
  go_wp2_with (go_at_call 25; (with_reducible refine (HA.out _).mono ?_); rintro e w1 ⟨rfl, hb1⟩; obtain ⟨hc1, hf1⟩ := bcell hb1; have hz1 := hb1.size; (try simp at hz1); (try have hy1 := Nat.lt_of_succ_le hz1); (try have hv1 := Nat.lt_of_succ_lt hy1); (try have hw10 : w.heap.size < w1.heap.size := by omega); (try have hw11 : w.heap.size + 1 < w1.heap.size := by omega); (try have hw12 : w.heap.size + 1 + 1 < w1.heap.size := by omega); (try have hw13 : w.heap.size + 1 + 1 + 1 < w1.heap.size := by omega); (try have hx1_0 : w.heap.size < w1.heap.size := by omega); (try have hx1_1 : w.heap.size + 1 < w1.heap.size := by omega))
  refine bodyPost_ret (by simp [results, Try.results12, go_sem, *] <;> rfl) rfl ⟨rfl, (by repeat (first | (with_reducible assumption) | (with_reducible exact Below.refl _ _) | (with_reducible refine Below.alloc ?_ (by first | omega | (simp; omega) | (simp; done) | (dsimp only; omega)) _) | (with_reducible refine Below.setCell ?_ (by first | omega | (simp; omega) | (simp; done) | (dsimp only; omega)) _) | (with_reducible refine Below.drew ?_) | (with_reducible refine Below.trans ?_ (Below.mono (by assumption) (by first | omega | (simp; omega) | (simp; done) | (dsimp only; omega))))))⟩
set_option maxHeartbeats 2000000 in
theorem reckon_one_other (op : Int) (h5 : op ≠ 5) (h6 : op ≠ 6) (a : Sp) (h : a.none = false) (w : World) :
    Calls Try.prog 12 #[.int .i64 op, .agg #[.bool a.s, .int .i64 a.lo, .int .i64 a.hi]] w fun e w' => e = .returned (.agg #[.bool false, .int .i64 0, .int .i64 0]) ∧ Below w.heap.size w w' := by
  have HA := Lib.hid (span_none a)
  rw [h] at HA
  clear h
  have k5 : (op == 5) = false := by simpa using h5
  have k6 : (op == 6) = false := by simpa using h6
  clear h5 h6
  go_enter Try.func12, Try.ntmps12
  go_upto_region 1 with fail
  generalize hW : ((w.alloc (.cells #[.bool a.s, .int .i64 a.lo, .int .i64 a.hi] 23)).alloc (.cells #[.bool false, .int .i64 0, .int .i64 0] 23)) = W
  have q0_0 : W.cell? ⟨w.heap.size, 0, none⟩ = some (.bool a.s) := by rw [← hW]; simp [go_sem]
  have q0_1 : W.cell? ⟨w.heap.size, 1, none⟩ = some (.int .i64 a.lo) := by rw [← hW]; simp [go_sem]
  have q0_2 : W.cell? ⟨w.heap.size, 2, none⟩ = some (.int .i64 a.hi) := by rw [← hW]; simp [go_sem]
  have q1_0 : W.cell? ⟨w.heap.size + 1, 0, none⟩ = some (.bool false) := by rw [← hW]; simp [go_sem]
  have q1_1 : W.cell? ⟨w.heap.size + 1, 1, none⟩ = some (.int .i64 0) := by rw [← hW]; simp [go_sem]
  have q1_2 : W.cell? ⟨w.heap.size + 1, 2, none⟩ = some (.int .i64 0) := by rw [← hW]; simp [go_sem]
  have f0 : ∀ o, W.frozen? ⟨w.heap.size, o, none⟩ = false := by intro o; rw [← hW]; simp [go_sem]
  have f1 : ∀ o, W.frozen? ⟨w.heap.size + 1, o, none⟩ = false := by intro o; rw [← hW]; simp [go_sem]
  have z0 : w.heap.size < W.heap.size := by rw [← hW]; first | (simp; done) | (simp; omega)
  have z1 : w.heap.size + 1 < W.heap.size := by rw [← hW]; first | (simp; done) | (simp; omega)
  have HW : Below w.heap.size w W := by rw [← hW]; exact (by repeat (first | (with_reducible assumption) | (with_reducible exact Below.refl _ _) | (with_reducible refine Below.alloc ?_ (by first | omega | (simp; omega) | (simp; done) | (dsimp only; omega)) _) | (with_reducible refine Below.setCell ?_ (by first | omega | (simp; omega) | (simp; done) | (dsimp only; omega)) _) | (with_reducible refine Below.drew ?_) | (with_reducible refine Below.trans ?_ (Below.mono (by assumption) (by first | omega | (simp; omega) | (simp; done) | (dsimp only; omega))))))
  clear hW
  clear f0
  go_wp2_with (go_at_call 25; (with_reducible refine (HA.out _).mono ?_); rintro e w1 ⟨rfl, hb1⟩; obtain ⟨hc1, hf1⟩ := bcell hb1; have hz1 := hb1.size; (try simp at hz1); (try have hy1 := Nat.lt_of_succ_le hz1); (try have hv1 := Nat.lt_of_succ_lt hy1); (try have hw10 : w.heap.size < w1.heap.size := by omega); (try have hw11 : w.heap.size + 1 < w1.heap.size := by omega); (try have hw12 : w.heap.size + 1 + 1 < w1.heap.size := by omega); (try have hw13 : w.heap.size + 1 + 1 + 1 < w1.heap.size := by omega); (try have hx1_0 : w.heap.size < w1.heap.size := by omega); (try have hx1_1 : w.heap.size + 1 < w1.heap.size := by omega))
  refine bodyPost_ret (by simp [results, Try.results12, go_sem, *] <;> rfl) rfl ⟨rfl, (by repeat (first | (with_reducible assumption) | (with_reducible exact Below.refl _ _) | (with_reducible refine Below.alloc ?_ (by first | omega | (simp; omega) | (simp; done) | (dsimp only; omega)) _) | (with_reducible refine Below.setCell ?_ (by first | omega | (simp; omega) | (simp; done) | (dsimp only; omega)) _) | (with_reducible refine Below.drew ?_) | (with_reducible refine Below.trans ?_ (Below.mono (by assumption) (by first | omega | (simp; omega) | (simp; done) | (dsimp only; omega))))))⟩
set_option maxHeartbeats 2000000 in
theorem reckon_one_5 (a : Sp) (ha : I64 a.lo ∧ I64 a.hi) (h : a.none = false) (w : World) :
    Calls Try.prog 12 #[.int .i64 5, .agg #[.bool a.s, .int .i64 a.lo, .int .i64 a.hi]] w fun e w' => e = .returned (.agg #[.bool (doS 11 (Sp.of 0 0) a).s, .int .i64 (doS 11 (Sp.of 0 0) a).lo, .int .i64 (doS 11 (Sp.of 0 0) a).hi]) ∧ Below w.heap.size w w' := by
  have HA := Lib.hid (span_none a)
  rw [h] at HA
  clear h
  have HO := Lib.hid (span_one 0)
  have HD := Lib.hid (reckon_do 11 (Sp.of 0 0) a ⟨by unfold I64; exact ⟨by decide, by decide⟩, by unfold I64; exact ⟨by decide, by decide⟩⟩ ha)
  generalize doS 11 (Sp.of 0 0) a = r at *
  generalize Sp.of 0 0 = z at *
  clear ha
  go_enter Try.func12, Try.ntmps12
  go_upto_region 1 with fail
  generalize hW : ((w.alloc (.cells #[.bool a.s, .int .i64 a.lo, .int .i64 a.hi] 23)).alloc (.cells #[.bool false, .int .i64 0, .int .i64 0] 23)) = W
  have q0_0 : W.cell? ⟨w.heap.size, 0, none⟩ = some (.bool a.s) := by rw [← hW]; simp [go_sem]
  have q0_1 : W.cell? ⟨w.heap.size, 1, none⟩ = some (.int .i64 a.lo) := by rw [← hW]; simp [go_sem]
  have q0_2 : W.cell? ⟨w.heap.size, 2, none⟩ = some (.int .i64 a.hi) := by rw [← hW]; simp [go_sem]
  have q1_0 : W.cell? ⟨w.heap.size + 1, 0, none⟩ = some (.bool false) := by rw [← hW]; simp [go_sem]
  have q1_1 : W.cell? ⟨w.heap.size + 1, 1, none⟩ = some (.int .i64 0) := by rw [← hW]; simp [go_sem]
  have q1_2 : W.cell? ⟨w.heap.size + 1, 2, none⟩ = some (.int .i64 0) := by rw [← hW]; simp [go_sem]
  have f0 : ∀ o, W.frozen? ⟨w.heap.size, o, none⟩ = false := by intro o; rw [← hW]; simp [go_sem]
  have f1 : ∀ o, W.frozen? ⟨w.heap.size + 1, o, none⟩ = false := by intro o; rw [← hW]; simp [go_sem]
  have z0 : w.heap.size < W.heap.size := by rw [← hW]; first | (simp; done) | (simp; omega)
  have z1 : w.heap.size + 1 < W.heap.size := by rw [← hW]; first | (simp; done) | (simp; omega)
  have HW : Below w.heap.size w W := by rw [← hW]; exact (by repeat (first | (with_reducible assumption) | (with_reducible exact Below.refl _ _) | (with_reducible refine Below.alloc ?_ (by first | omega | (simp; omega) | (simp; done) | (dsimp only; omega)) _) | (with_reducible refine Below.setCell ?_ (by first | omega | (simp; omega) | (simp; done) | (dsimp only; omega)) _) | (with_reducible refine Below.drew ?_) | (with_reducible refine Below.trans ?_ (Below.mono (by assumption) (by first | omega | (simp; omega) | (simp; done) | (dsimp only; omega))))))
  clear hW
  clear f0
  go_upto_region 5 with (go_at_call 25; (with_reducible refine (HA.out _).mono ?_); rintro e w1 ⟨rfl, hb1⟩; obtain ⟨hc1, hf1⟩ := bcell hb1; have hz1 := hb1.size; (try simp at hz1); (try have hy1 := Nat.lt_of_succ_le hz1); (try have hv1 := Nat.lt_of_succ_lt hy1); (try have hw10 : w.heap.size < w1.heap.size := by omega); (try have hw11 : w.heap.size + 1 < w1.heap.size := by omega); (try have hw12 : w.heap.size + 1 + 1 < w1.heap.size := by omega); (try have hw13 : w.heap.size + 1 + 1 + 1 < w1.heap.size := by omega); (try have hx1_0 : w.heap.size < w1.heap.size := by omega); (try have hx1_1 : w.heap.size + 1 < w1.heap.size := by omega))
  have hY := hb1
  have HWY := HW.trans (hY.mono HW.size)
  replace f1 := fun o => (hY.frozen (p := ⟨w.heap.size + 1, o, none⟩) z1).trans (f1 o)
  replace q0_0 := (hY.cell (p := ⟨w.heap.size, 0, none⟩) z0).trans q0_0
  replace q0_1 := (hY.cell (p := ⟨w.heap.size, 1, none⟩) z0).trans q0_1
  replace q0_2 := (hY.cell (p := ⟨w.heap.size, 2, none⟩) z0).trans q0_2
  replace q1_0 := (hY.cell (p := ⟨w.heap.size + 1, 0, none⟩) z1).trans q1_0
  replace q1_1 := (hY.cell (p := ⟨w.heap.size + 1, 1, none⟩) z1).trans q1_1
  replace q1_2 := (hY.cell (p := ⟨w.heap.size + 1, 2, none⟩) z1).trans q1_2
  replace z0 := Nat.lt_of_lt_of_le z0 hY.size
  replace z1 := Nat.lt_of_lt_of_le z1 hY.size
  clear hc1 hf1 hb1 hz1 HW hY HA hw10 hw11
  generalize w1 = Y at *
  refine region_seqg (W := Y) [_, _, _] [_] rfl (by kernel_rfl) (by kernel_rfl) (by repeat (first | (with_reducible assumption) | (with_reducible exact Below.refl _ _) | (with_reducible refine Below.alloc ?_ (by first | omega | (simp; omega) | (simp; done) | (dsimp only; omega)) _) | (with_reducible refine Below.setCell ?_ (by first | omega | (simp; omega) | (simp; done) | (dsimp only; omega)) _) | (with_reducible refine Below.drew ?_) | (with_reducible refine Below.trans ?_ (Below.mono (by assumption) (by first | omega | (simp; omega) | (simp; done) | (dsimp only; omega)))))) (fun fin hfin => ?_)
  iterate 3
    first
      | (refine SeqG.yes (v := ?_) (A' := ?_) rfl (fun γ => by rfl) ?_ ?_ ?_
         rotate_left 2
         · intro γ w' K hS hK
           obtain ⟨hc, hf⟩ := bcell hS
           have hz := hS.size
           go_simp
           first
             | exact hK.out _ (Below.refl _ _)
             | (go_at_call 23; (with_reducible refine (HO.out _).mono ?_); rintro e w1 ⟨rfl, hb1⟩; exact hK.out _ hb1)
             | (go_at_call 7; (with_reducible refine (HD.out _).mono ?_); rintro e w1 ⟨rfl, hb1⟩; exact hK.out _ hb1)
             | trace_state
         · intro γ; simp only [Act.put, List.setIfInBounds_toArray, List.set_cons_zero, List.set_cons_succ]; exact rfl)
      | (refine SeqG.no (A' := ?_) rfl (fun γ => by rfl) ?_ ?_
         rotate_left
         · intro γ; simp only [Act.put, List.setIfInBounds_toArray, List.set_cons_zero, List.set_cons_succ]; exact rfl)
  refine SeqG.nil (hfin.out _ _ ?_)
  clear hfin fin
  intro γ lo hi w1 hB1 hF hD
  clear hD
  obtain ⟨hc, hf⟩ := bcell hB1
  have hz := hB1.size
  refine TailL.cons (fun K hK => ?_)
  go_simp
  refine hK.out _ _ ?_
  clear hK K
  refine TailL.nil ?_
  go_wp2
  refine bodyPost_ret (by simp [results, Try.results12, go_sem, *] <;> rfl) rfl ⟨rfl, (by repeat (first | (with_reducible assumption) | (with_reducible exact Below.refl _ _) | (with_reducible refine Below.alloc ?_ (by first | omega | (simp; omega) | (simp; done) | (dsimp only; omega)) _) | (with_reducible refine Below.setCell ?_ (by first | omega | (simp; omega) | (simp; done) | (dsimp only; omega)) _) | (with_reducible refine Below.drew ?_) | (with_reducible refine Below.trans ?_ (Below.mono (by assumption) (by first | omega | (simp; omega) | (simp; done) | (dsimp only; omega))))))⟩
set_option maxHeartbeats 2000000 in
theorem reckon_one_6 (a : Sp) (h : a.none = false) (w : World) :
    Calls Try.prog 12 #[.int .i64 6, .agg #[.bool a.s, .int .i64 a.lo, .int .i64 a.hi]] w fun e w' => e = .returned (.agg #[.bool (trueS 14 a (Sp.of 0 0)).s, .int .i64 (trueS 14 a (Sp.of 0 0)).lo, .int .i64 (trueS 14 a (Sp.of 0 0)).hi]) ∧ Below w.heap.size w w' := by
  have HA := Lib.hid (span_none a)
  rw [h] at HA
  clear h
  have HO := Lib.hid (span_one 0)
  have HD := Lib.hid (reckon_truth 14 (by omega) a (Sp.of 0 0))
  generalize trueS 14 a (Sp.of 0 0) = r at *
  generalize Sp.of 0 0 = z at *
  go_enter Try.func12, Try.ntmps12
  go_upto_region 1 with fail
  generalize hW : ((w.alloc (.cells #[.bool a.s, .int .i64 a.lo, .int .i64 a.hi] 23)).alloc (.cells #[.bool false, .int .i64 0, .int .i64 0] 23)) = W
  have q0_0 : W.cell? ⟨w.heap.size, 0, none⟩ = some (.bool a.s) := by rw [← hW]; simp [go_sem]
  have q0_1 : W.cell? ⟨w.heap.size, 1, none⟩ = some (.int .i64 a.lo) := by rw [← hW]; simp [go_sem]
  have q0_2 : W.cell? ⟨w.heap.size, 2, none⟩ = some (.int .i64 a.hi) := by rw [← hW]; simp [go_sem]
  have q1_0 : W.cell? ⟨w.heap.size + 1, 0, none⟩ = some (.bool false) := by rw [← hW]; simp [go_sem]
  have q1_1 : W.cell? ⟨w.heap.size + 1, 1, none⟩ = some (.int .i64 0) := by rw [← hW]; simp [go_sem]
  have q1_2 : W.cell? ⟨w.heap.size + 1, 2, none⟩ = some (.int .i64 0) := by rw [← hW]; simp [go_sem]
  have f0 : ∀ o, W.frozen? ⟨w.heap.size, o, none⟩ = false := by intro o; rw [← hW]; simp [go_sem]
  have f1 : ∀ o, W.frozen? ⟨w.heap.size + 1, o, none⟩ = false := by intro o; rw [← hW]; simp [go_sem]
  have z0 : w.heap.size < W.heap.size := by rw [← hW]; first | (simp; done) | (simp; omega)
  have z1 : w.heap.size + 1 < W.heap.size := by rw [← hW]; first | (simp; done) | (simp; omega)
  have HW : Below w.heap.size w W := by rw [← hW]; exact (by repeat (first | (with_reducible assumption) | (with_reducible exact Below.refl _ _) | (with_reducible refine Below.alloc ?_ (by first | omega | (simp; omega) | (simp; done) | (dsimp only; omega)) _) | (with_reducible refine Below.setCell ?_ (by first | omega | (simp; omega) | (simp; done) | (dsimp only; omega)) _) | (with_reducible refine Below.drew ?_) | (with_reducible refine Below.trans ?_ (Below.mono (by assumption) (by first | omega | (simp; omega) | (simp; done) | (dsimp only; omega))))))
  clear hW
  clear f0
  go_upto_region 7 with (go_at_call 25; (with_reducible refine (HA.out _).mono ?_); rintro e w1 ⟨rfl, hb1⟩; obtain ⟨hc1, hf1⟩ := bcell hb1; have hz1 := hb1.size; (try simp at hz1); (try have hy1 := Nat.lt_of_succ_le hz1); (try have hv1 := Nat.lt_of_succ_lt hy1); (try have hw10 : w.heap.size < w1.heap.size := by omega); (try have hw11 : w.heap.size + 1 < w1.heap.size := by omega); (try have hw12 : w.heap.size + 1 + 1 < w1.heap.size := by omega); (try have hw13 : w.heap.size + 1 + 1 + 1 < w1.heap.size := by omega); (try have hx1_0 : w.heap.size < w1.heap.size := by omega); (try have hx1_1 : w.heap.size + 1 < w1.heap.size := by omega))
  have hY := hb1
  have HWY := HW.trans (hY.mono HW.size)
  replace f1 := fun o => (hY.frozen (p := ⟨w.heap.size + 1, o, none⟩) z1).trans (f1 o)
  replace q0_0 := (hY.cell (p := ⟨w.heap.size, 0, none⟩) z0).trans q0_0
  replace q0_1 := (hY.cell (p := ⟨w.heap.size, 1, none⟩) z0).trans q0_1
  replace q0_2 := (hY.cell (p := ⟨w.heap.size, 2, none⟩) z0).trans q0_2
  replace q1_0 := (hY.cell (p := ⟨w.heap.size + 1, 0, none⟩) z1).trans q1_0
  replace q1_1 := (hY.cell (p := ⟨w.heap.size + 1, 1, none⟩) z1).trans q1_1
  replace q1_2 := (hY.cell (p := ⟨w.heap.size + 1, 2, none⟩) z1).trans q1_2
  replace z0 := Nat.lt_of_lt_of_le z0 hY.size
  replace z1 := Nat.lt_of_lt_of_le z1 hY.size
  clear hc1 hf1 hb1 hz1 HW hY HA hw10 hw11
  generalize w1 = Y at *
  refine region_seqg (W := Y) [_, _, _] [_] rfl (by kernel_rfl) (by kernel_rfl) (by repeat (first | (with_reducible assumption) | (with_reducible exact Below.refl _ _) | (with_reducible refine Below.alloc ?_ (by first | omega | (simp; omega) | (simp; done) | (dsimp only; omega)) _) | (with_reducible refine Below.setCell ?_ (by first | omega | (simp; omega) | (simp; done) | (dsimp only; omega)) _) | (with_reducible refine Below.drew ?_) | (with_reducible refine Below.trans ?_ (Below.mono (by assumption) (by first | omega | (simp; omega) | (simp; done) | (dsimp only; omega)))))) (fun fin hfin => ?_)
  iterate 3
    first
      | (refine SeqG.yes (v := ?_) (A' := ?_) rfl (fun γ => by rfl) ?_ ?_ ?_
         rotate_left 2
         · intro γ w' K hS hK
           obtain ⟨hc, hf⟩ := bcell hS
           have hz := hS.size
           go_simp
           first
             | exact hK.out _ (Below.refl _ _)
             | (go_at_call 23; (with_reducible refine (HO.out _).mono ?_); rintro e w1 ⟨rfl, hb1⟩; exact hK.out _ hb1)
             | (go_at_call 29; (with_reducible refine (HD.out _).mono ?_); rintro e w1 ⟨rfl, hb1⟩; exact hK.out _ hb1)
             | trace_state
         · intro γ; simp only [Act.put, List.setIfInBounds_toArray, List.set_cons_zero, List.set_cons_succ]; exact rfl)
      | (refine SeqG.no (A' := ?_) rfl (fun γ => by rfl) ?_ ?_
         rotate_left
         · intro γ; simp only [Act.put, List.setIfInBounds_toArray, List.set_cons_zero, List.set_cons_succ]; exact rfl)
  refine SeqG.nil (hfin.out _ _ ?_)
  clear hfin fin
  intro γ lo hi w1 hB1 hF hD
  clear hD
  obtain ⟨hc, hf⟩ := bcell hB1
  have hz := hB1.size
  refine TailL.cons (fun K hK => ?_)
  go_simp
  refine hK.out _ _ ?_
  clear hK K
  refine TailL.nil ?_
  go_wp2
  refine bodyPost_ret (by simp [results, Try.results12, go_sem, *] <;> rfl) rfl ⟨rfl, (by repeat (first | (with_reducible assumption) | (with_reducible exact Below.refl _ _) | (with_reducible refine Below.alloc ?_ (by first | omega | (simp; omega) | (simp; done) | (dsimp only; omega)) _) | (with_reducible refine Below.setCell ?_ (by first | omega | (simp; omega) | (simp; done) | (dsimp only; omega)) _) | (with_reducible refine Below.drew ?_) | (with_reducible refine Below.trans ?_ (Below.mono (by assumption) (by first | omega | (simp; omega) | (simp; done) | (dsimp only; omega))))))⟩

theorem reckon_one (op : Int) (a : Sp) (ha : I64 a.lo ∧ I64 a.hi) (w : World) :
    Calls Try.prog 12 #[.int .i64 op, .agg #[.bool a.s, .int .i64 a.lo, .int .i64 a.hi]] w fun e w' => e = .returned (.agg #[.bool (oneS op a).s, .int .i64 (oneS op a).lo, .int .i64 (oneS op a).hi]) ∧ Below w.heap.size w w' := by
  cases h : a.none
  · by_cases h5 : op = 5
    · subst h5; rw [oneS_5 h]; exact reckon_one_5 a ha h w
    · by_cases h6 : op = 6
      · subst h6; rw [oneS_6 h]; exact reckon_one_6 a h w
      · rw [oneS_other h5 h6]; exact reckon_one_other op h5 h6 a h w
  · rw [oneS_none h]; exact reckon_one_none op a h w

set_option maxHeartbeats 2000000 in
theorem r4_one_none (op : Int) (a : Sp) (h : a.none = true) (w : World) :
    Calls Try.prog 13 #[.int .i64 op, .agg #[.bool a.s, .int .i64 a.lo, .int .i64 a.hi]] w fun e w' => e = .returned (.agg #[.bool false, .int .i64 0, .int .i64 0]) ∧ Below w.heap.size w w' := by
  have HA := Lib.hid (r3_None a)
  rw [h] at HA
  clear h
  go_enter Try.func13, Try.ntmps13
  go_upto_region 1 with fail
  generalize hW : ((w.alloc (.cells #[.bool a.s, .int .i64 a.lo, .int .i64 a.hi] 23)).alloc (.cells #[.bool false, .int .i64 0, .int .i64 0] 23)) = W
  have q0_0 : W.cell? ⟨w.heap.size, 0, none⟩ = some (.bool a.s) := by rw [← hW]; simp [go_sem]
  have q0_1 : W.cell? ⟨w.heap.size, 1, none⟩ = some (.int .i64 a.lo) := by rw [← hW]; simp [go_sem]
  have q0_2 : W.cell? ⟨w.heap.size, 2, none⟩ = some (.int .i64 a.hi) := by rw [← hW]; simp [go_sem]
  have q1_0 : W.cell? ⟨w.heap.size + 1, 0, none⟩ = some (.bool false) := by rw [← hW]; simp [go_sem]
  have q1_1 : W.cell? ⟨w.heap.size + 1, 1, none⟩ = some (.int .i64 0) := by rw [← hW]; simp [go_sem]
  have q1_2 : W.cell? ⟨w.heap.size + 1, 2, none⟩ = some (.int .i64 0) := by rw [← hW]; simp [go_sem]
  have f0 : ∀ o, W.frozen? ⟨w.heap.size, o, none⟩ = false := by intro o; rw [← hW]; simp [go_sem]
  have f1 : ∀ o, W.frozen? ⟨w.heap.size + 1, o, none⟩ = false := by intro o; rw [← hW]; simp [go_sem]
  have z0 : w.heap.size < W.heap.size := by rw [← hW]; first | (simp; done) | (simp; omega)
  have z1 : w.heap.size + 1 < W.heap.size := by rw [← hW]; first | (simp; done) | (simp; omega)
  have HW : Below w.heap.size w W := by rw [← hW]; exact (by repeat (first | (with_reducible assumption) | (with_reducible exact Below.refl _ _) | (with_reducible refine Below.alloc ?_ (by first | omega | (simp; omega) | (simp; done) | (dsimp only; omega)) _) | (with_reducible refine Below.setCell ?_ (by first | omega | (simp; omega) | (simp; done) | (dsimp only; omega)) _) | (with_reducible refine Below.drew ?_) | (with_reducible refine Below.trans ?_ (Below.mono (by assumption) (by first | omega | (simp; omega) | (simp; done) | (dsimp only; omega))))))
  clear hW
  clear f0
  go_wp2_with (go_at_call 16; (with_reducible refine (HA.out _).mono ?_); rintro e w1 ⟨rfl, hb1⟩; obtain ⟨hc1, hf1⟩ := bcell hb1; have hz1 := hb1.size; (try simp at hz1); (try have hy1 := Nat.lt_of_succ_le hz1); (try have hv1 := Nat.lt_of_succ_lt hy1); (try have hw10 : w.heap.size < w1.heap.size := by omega); (try have hw11 : w.heap.size + 1 < w1.heap.size := by omega); (try have hw12 : w.heap.size + 1 + 1 < w1.heap.size := by omega); (try have hw13 : w.heap.size + 1 + 1 + 1 < w1.heap.size := by omega); (try have hx1_0 : w.heap.size < w1.heap.size := by omega); (try have hx1_1 : w.heap.size + 1 < w1.heap.size := by omega))
  refine bodyPost_ret (by simp [results, Try.results13, go_sem, *] <;> rfl) rfl ⟨rfl, (by repeat (first | (with_reducible assumption) | (with_reducible exact Below.refl _ _) | (with_reducible refine Below.alloc ?_ (by first | omega | (simp; omega) | (simp; done) | (dsimp only; omega)) _) | (with_reducible refine Below.setCell ?_ (by first | omega | (simp; omega) | (simp; done) | (dsimp only; omega)) _) | (with_reducible refine Below.drew ?_) | (with_reducible refine Below.trans ?_ (Below.mono (by assumption) (by first | omega | (simp; omega) | (simp; done) | (dsimp only; omega))))))⟩
set_option maxHeartbeats 2000000 in
theorem r4_one_other (op : Int) (h5 : op ≠ 5) (h6 : op ≠ 6) (a : Sp) (h : a.none = false) (w : World) :
    Calls Try.prog 13 #[.int .i64 op, .agg #[.bool a.s, .int .i64 a.lo, .int .i64 a.hi]] w fun e w' => e = .returned (.agg #[.bool false, .int .i64 0, .int .i64 0]) ∧ Below w.heap.size w w' := by
  have HA := Lib.hid (r3_None a)
  rw [h] at HA
  clear h
  have k5 : (op == 5) = false := by simpa using h5
  have k6 : (op == 6) = false := by simpa using h6
  clear h5 h6
  go_enter Try.func13, Try.ntmps13
  go_upto_region 1 with fail
  generalize hW : ((w.alloc (.cells #[.bool a.s, .int .i64 a.lo, .int .i64 a.hi] 23)).alloc (.cells #[.bool false, .int .i64 0, .int .i64 0] 23)) = W
  have q0_0 : W.cell? ⟨w.heap.size, 0, none⟩ = some (.bool a.s) := by rw [← hW]; simp [go_sem]
  have q0_1 : W.cell? ⟨w.heap.size, 1, none⟩ = some (.int .i64 a.lo) := by rw [← hW]; simp [go_sem]
  have q0_2 : W.cell? ⟨w.heap.size, 2, none⟩ = some (.int .i64 a.hi) := by rw [← hW]; simp [go_sem]
  have q1_0 : W.cell? ⟨w.heap.size + 1, 0, none⟩ = some (.bool false) := by rw [← hW]; simp [go_sem]
  have q1_1 : W.cell? ⟨w.heap.size + 1, 1, none⟩ = some (.int .i64 0) := by rw [← hW]; simp [go_sem]
  have q1_2 : W.cell? ⟨w.heap.size + 1, 2, none⟩ = some (.int .i64 0) := by rw [← hW]; simp [go_sem]
  have f0 : ∀ o, W.frozen? ⟨w.heap.size, o, none⟩ = false := by intro o; rw [← hW]; simp [go_sem]
  have f1 : ∀ o, W.frozen? ⟨w.heap.size + 1, o, none⟩ = false := by intro o; rw [← hW]; simp [go_sem]
  have z0 : w.heap.size < W.heap.size := by rw [← hW]; first | (simp; done) | (simp; omega)
  have z1 : w.heap.size + 1 < W.heap.size := by rw [← hW]; first | (simp; done) | (simp; omega)
  have HW : Below w.heap.size w W := by rw [← hW]; exact (by repeat (first | (with_reducible assumption) | (with_reducible exact Below.refl _ _) | (with_reducible refine Below.alloc ?_ (by first | omega | (simp; omega) | (simp; done) | (dsimp only; omega)) _) | (with_reducible refine Below.setCell ?_ (by first | omega | (simp; omega) | (simp; done) | (dsimp only; omega)) _) | (with_reducible refine Below.drew ?_) | (with_reducible refine Below.trans ?_ (Below.mono (by assumption) (by first | omega | (simp; omega) | (simp; done) | (dsimp only; omega))))))
  clear hW
  clear f0
  go_wp2_with (go_at_call 16; (with_reducible refine (HA.out _).mono ?_); rintro e w1 ⟨rfl, hb1⟩; obtain ⟨hc1, hf1⟩ := bcell hb1; have hz1 := hb1.size; (try simp at hz1); (try have hy1 := Nat.lt_of_succ_le hz1); (try have hv1 := Nat.lt_of_succ_lt hy1); (try have hw10 : w.heap.size < w1.heap.size := by omega); (try have hw11 : w.heap.size + 1 < w1.heap.size := by omega); (try have hw12 : w.heap.size + 1 + 1 < w1.heap.size := by omega); (try have hw13 : w.heap.size + 1 + 1 + 1 < w1.heap.size := by omega); (try have hx1_0 : w.heap.size < w1.heap.size := by omega); (try have hx1_1 : w.heap.size + 1 < w1.heap.size := by omega))
  refine bodyPost_ret (by simp [results, Try.results13, go_sem, *] <;> rfl) rfl ⟨rfl, (by repeat (first | (with_reducible assumption) | (with_reducible exact Below.refl _ _) | (with_reducible refine Below.alloc ?_ (by first | omega | (simp; omega) | (simp; done) | (dsimp only; omega)) _) | (with_reducible refine Below.setCell ?_ (by first | omega | (simp; omega) | (simp; done) | (dsimp only; omega)) _) | (with_reducible refine Below.drew ?_) | (with_reducible refine Below.trans ?_ (Below.mono (by assumption) (by first | omega | (simp; omega) | (simp; done) | (dsimp only; omega))))))⟩
set_option maxHeartbeats 2000000 in
theorem r4_one_5 (a : Sp) (ha : I64 a.lo ∧ I64 a.hi) (h : a.none = false) (w : World) :
    Calls Try.prog 13 #[.int .i64 5, .agg #[.bool a.s, .int .i64 a.lo, .int .i64 a.hi]] w fun e w' => e = .returned (.agg #[.bool (doS 11 (Sp.of 0 0) a).s, .int .i64 (doS 11 (Sp.of 0 0) a).lo, .int .i64 (doS 11 (Sp.of 0 0) a).hi]) ∧ Below w.heap.size w w' := by
  have HA := Lib.hid (r3_None a)
  rw [h] at HA
  clear h
  have HO := Lib.hid (r3_make 0 0)
  have HD := Lib.hid (r4_do 11 (Sp.of 0 0) a ⟨by unfold I64; exact ⟨by decide, by decide⟩, by unfold I64; exact ⟨by decide, by decide⟩⟩ ha)
  generalize doS 11 (Sp.of 0 0) a = r at *
  generalize Sp.of 0 0 = z at *
  clear ha
  go_enter Try.func13, Try.ntmps13
  go_upto_region 1 with fail
  generalize hW : ((w.alloc (.cells #[.bool a.s, .int .i64 a.lo, .int .i64 a.hi] 23)).alloc (.cells #[.bool false, .int .i64 0, .int .i64 0] 23)) = W
  have q0_0 : W.cell? ⟨w.heap.size, 0, none⟩ = some (.bool a.s) := by rw [← hW]; simp [go_sem]
  have q0_1 : W.cell? ⟨w.heap.size, 1, none⟩ = some (.int .i64 a.lo) := by rw [← hW]; simp [go_sem]
  have q0_2 : W.cell? ⟨w.heap.size, 2, none⟩ = some (.int .i64 a.hi) := by rw [← hW]; simp [go_sem]
  have q1_0 : W.cell? ⟨w.heap.size + 1, 0, none⟩ = some (.bool false) := by rw [← hW]; simp [go_sem]
  have q1_1 : W.cell? ⟨w.heap.size + 1, 1, none⟩ = some (.int .i64 0) := by rw [← hW]; simp [go_sem]
  have q1_2 : W.cell? ⟨w.heap.size + 1, 2, none⟩ = some (.int .i64 0) := by rw [← hW]; simp [go_sem]
  have f0 : ∀ o, W.frozen? ⟨w.heap.size, o, none⟩ = false := by intro o; rw [← hW]; simp [go_sem]
  have f1 : ∀ o, W.frozen? ⟨w.heap.size + 1, o, none⟩ = false := by intro o; rw [← hW]; simp [go_sem]
  have z0 : w.heap.size < W.heap.size := by rw [← hW]; first | (simp; done) | (simp; omega)
  have z1 : w.heap.size + 1 < W.heap.size := by rw [← hW]; first | (simp; done) | (simp; omega)
  have HW : Below w.heap.size w W := by rw [← hW]; exact (by repeat (first | (with_reducible assumption) | (with_reducible exact Below.refl _ _) | (with_reducible refine Below.alloc ?_ (by first | omega | (simp; omega) | (simp; done) | (dsimp only; omega)) _) | (with_reducible refine Below.setCell ?_ (by first | omega | (simp; omega) | (simp; done) | (dsimp only; omega)) _) | (with_reducible refine Below.drew ?_) | (with_reducible refine Below.trans ?_ (Below.mono (by assumption) (by first | omega | (simp; omega) | (simp; done) | (dsimp only; omega))))))
  clear hW
  clear f0
  go_upto_region 4 with (go_at_call 16; (with_reducible refine (HA.out _).mono ?_); rintro e w1 ⟨rfl, hb1⟩; obtain ⟨hc1, hf1⟩ := bcell hb1; have hz1 := hb1.size; (try simp at hz1); (try have hy1 := Nat.lt_of_succ_le hz1); (try have hv1 := Nat.lt_of_succ_lt hy1); (try have hw10 : w.heap.size < w1.heap.size := by omega); (try have hw11 : w.heap.size + 1 < w1.heap.size := by omega); (try have hw12 : w.heap.size + 1 + 1 < w1.heap.size := by omega); (try have hw13 : w.heap.size + 1 + 1 + 1 < w1.heap.size := by omega); (try have hx1_0 : w.heap.size < w1.heap.size := by omega); (try have hx1_1 : w.heap.size + 1 < w1.heap.size := by omega))
  have hY := hb1
  have HWY := HW.trans (hY.mono HW.size)
  replace f1 := fun o => (hY.frozen (p := ⟨w.heap.size + 1, o, none⟩) z1).trans (f1 o)
  replace q0_0 := (hY.cell (p := ⟨w.heap.size, 0, none⟩) z0).trans q0_0
  replace q0_1 := (hY.cell (p := ⟨w.heap.size, 1, none⟩) z0).trans q0_1
  replace q0_2 := (hY.cell (p := ⟨w.heap.size, 2, none⟩) z0).trans q0_2
  replace q1_0 := (hY.cell (p := ⟨w.heap.size + 1, 0, none⟩) z1).trans q1_0
  replace q1_1 := (hY.cell (p := ⟨w.heap.size + 1, 1, none⟩) z1).trans q1_1
  replace q1_2 := (hY.cell (p := ⟨w.heap.size + 1, 2, none⟩) z1).trans q1_2
  replace z0 := Nat.lt_of_lt_of_le z0 hY.size
  replace z1 := Nat.lt_of_lt_of_le z1 hY.size
  clear hc1 hf1 hb1 hz1 HW hY HA hw10 hw11
  generalize w1 = Y at *
  refine region_seqg (W := Y) [_, _, _] [_] rfl (by kernel_rfl) (by kernel_rfl) (by repeat (first | (with_reducible assumption) | (with_reducible exact Below.refl _ _) | (with_reducible refine Below.alloc ?_ (by first | omega | (simp; omega) | (simp; done) | (dsimp only; omega)) _) | (with_reducible refine Below.setCell ?_ (by first | omega | (simp; omega) | (simp; done) | (dsimp only; omega)) _) | (with_reducible refine Below.drew ?_) | (with_reducible refine Below.trans ?_ (Below.mono (by assumption) (by first | omega | (simp; omega) | (simp; done) | (dsimp only; omega)))))) (fun fin hfin => ?_)
  iterate 3
    first
      | (refine SeqG.yes (v := ?_) (A' := ?_) rfl (fun γ => by rfl) ?_ ?_ ?_
         rotate_left 2
         · intro γ w' K hS hK
           obtain ⟨hc, hf⟩ := bcell hS
           have hz := hS.size
           go_simp
           first
             | exact hK.out _ (Below.refl _ _)
             | (go_at_call 24; (with_reducible refine (HO.out _).mono ?_); rintro e w1 ⟨rfl, hb1⟩; exact hK.out _ hb1)
             | (go_at_call 8; (with_reducible refine (HD.out _).mono ?_); rintro e w1 ⟨rfl, hb1⟩; exact hK.out _ hb1)
             | trace_state
         · intro γ; simp only [Act.put, List.setIfInBounds_toArray, List.set_cons_zero, List.set_cons_succ]; exact rfl)
      | (refine SeqG.no (A' := ?_) rfl (fun γ => by rfl) ?_ ?_
         rotate_left
         · intro γ; simp only [Act.put, List.setIfInBounds_toArray, List.set_cons_zero, List.set_cons_succ]; exact rfl)
  refine SeqG.nil (hfin.out _ _ ?_)
  clear hfin fin
  intro γ lo hi w1 hB1 hF hD
  clear hD
  obtain ⟨hc, hf⟩ := bcell hB1
  have hz := hB1.size
  refine TailL.cons (fun K hK => ?_)
  go_simp
  refine hK.out _ _ ?_
  clear hK K
  refine TailL.nil ?_
  go_wp2
  refine bodyPost_ret (by simp [results, Try.results13, go_sem, *] <;> rfl) rfl ⟨rfl, (by repeat (first | (with_reducible assumption) | (with_reducible exact Below.refl _ _) | (with_reducible refine Below.alloc ?_ (by first | omega | (simp; omega) | (simp; done) | (dsimp only; omega)) _) | (with_reducible refine Below.setCell ?_ (by first | omega | (simp; omega) | (simp; done) | (dsimp only; omega)) _) | (with_reducible refine Below.drew ?_) | (with_reducible refine Below.trans ?_ (Below.mono (by assumption) (by first | omega | (simp; omega) | (simp; done) | (dsimp only; omega))))))⟩
set_option maxHeartbeats 2000000 in
theorem r4_one_6 (a : Sp) (h : a.none = false) (w : World) :
    Calls Try.prog 13 #[.int .i64 6, .agg #[.bool a.s, .int .i64 a.lo, .int .i64 a.hi]] w fun e w' => e = .returned (.agg #[.bool (truthS (a.has 0) (nzB a)).s, .int .i64 (truthS (a.has 0) (nzB a)).lo, .int .i64 (truthS (a.has 0) (nzB a)).hi]) ∧ Below w.heap.size w w' := by
  have HA := Lib.hid (r3_None a)
  rw [h] at HA
  clear h
  have HH := Lib.hid (r3_has a 0)
  have HT := Lib.hid (r4_truth (a.has 0) (nzB a))
  generalize truthS (a.has 0) (nzB a) = r at *
  have en : nzB a = (a.lo != 0 || a.hi != 0) := rfl
  generalize nzB a = nz at *
  generalize a.has 0 = x at *
  cases h1 : a.lo != 0
  all_goals
    rw [h1] at en
    simp only [Bool.true_or, Bool.false_or] at en
    subst en
    go_enter Try.func13, Try.ntmps13
    go_upto_region 1 with fail
    generalize hW : ((w.alloc (.cells #[.bool a.s, .int .i64 a.lo, .int .i64 a.hi] 23)).alloc (.cells #[.bool false, .int .i64 0, .int .i64 0] 23)) = W
    have q0_0 : W.cell? ⟨w.heap.size, 0, none⟩ = some (.bool a.s) := by rw [← hW]; simp [go_sem]
    have q0_1 : W.cell? ⟨w.heap.size, 1, none⟩ = some (.int .i64 a.lo) := by rw [← hW]; simp [go_sem]
    have q0_2 : W.cell? ⟨w.heap.size, 2, none⟩ = some (.int .i64 a.hi) := by rw [← hW]; simp [go_sem]
    have q1_0 : W.cell? ⟨w.heap.size + 1, 0, none⟩ = some (.bool false) := by rw [← hW]; simp [go_sem]
    have q1_1 : W.cell? ⟨w.heap.size + 1, 1, none⟩ = some (.int .i64 0) := by rw [← hW]; simp [go_sem]
    have q1_2 : W.cell? ⟨w.heap.size + 1, 2, none⟩ = some (.int .i64 0) := by rw [← hW]; simp [go_sem]
    have f0 : ∀ o, W.frozen? ⟨w.heap.size, o, none⟩ = false := by intro o; rw [← hW]; simp [go_sem]
    have f1 : ∀ o, W.frozen? ⟨w.heap.size + 1, o, none⟩ = false := by intro o; rw [← hW]; simp [go_sem]
    have z0 : w.heap.size < W.heap.size := by rw [← hW]; first | (simp; done) | (simp; omega)
    have z1 : w.heap.size + 1 < W.heap.size := by rw [← hW]; first | (simp; done) | (simp; omega)
    have HW : Below w.heap.size w W := by rw [← hW]; exact (by repeat (first | (with_reducible assumption) | (with_reducible exact Below.refl _ _) | (with_reducible refine Below.alloc ?_ (by first | omega | (simp; omega) | (simp; done) | (dsimp only; omega)) _) | (with_reducible refine Below.setCell ?_ (by first | omega | (simp; omega) | (simp; done) | (dsimp only; omega)) _) | (with_reducible refine Below.drew ?_) | (with_reducible refine Below.trans ?_ (Below.mono (by assumption) (by first | omega | (simp; omega) | (simp; done) | (dsimp only; omega))))))
    clear hW
    clear f0
    go_upto_region 6 with (go_at_call 16; (with_reducible refine (HA.out _).mono ?_); rintro e w1 ⟨rfl, hb1⟩; obtain ⟨hc1, hf1⟩ := bcell hb1; have hz1 := hb1.size; (try simp at hz1); (try have hy1 := Nat.lt_of_succ_le hz1); (try have hv1 := Nat.lt_of_succ_lt hy1); (try have hw10 : w.heap.size < w1.heap.size := by omega); (try have hw11 : w.heap.size + 1 < w1.heap.size := by omega); (try have hw12 : w.heap.size + 1 + 1 < w1.heap.size := by omega); (try have hw13 : w.heap.size + 1 + 1 + 1 < w1.heap.size := by omega); (try have hx1_0 : w.heap.size < w1.heap.size := by omega); (try have hx1_1 : w.heap.size + 1 < w1.heap.size := by omega))
    have hY := hb1
    have HWY := HW.trans (hY.mono HW.size)
    replace f1 := fun o => (hY.frozen (p := ⟨w.heap.size + 1, o, none⟩) z1).trans (f1 o)
    replace q0_0 := (hY.cell (p := ⟨w.heap.size, 0, none⟩) z0).trans q0_0
    replace q0_1 := (hY.cell (p := ⟨w.heap.size, 1, none⟩) z0).trans q0_1
    replace q0_2 := (hY.cell (p := ⟨w.heap.size, 2, none⟩) z0).trans q0_2
    replace q1_0 := (hY.cell (p := ⟨w.heap.size + 1, 0, none⟩) z1).trans q1_0
    replace q1_1 := (hY.cell (p := ⟨w.heap.size + 1, 1, none⟩) z1).trans q1_1
    replace q1_2 := (hY.cell (p := ⟨w.heap.size + 1, 2, none⟩) z1).trans q1_2
    replace z0 := Nat.lt_of_lt_of_le z0 hY.size
    replace z1 := Nat.lt_of_lt_of_le z1 hY.size
    clear hc1 hf1 hb1 hz1 HW hY HA hw10 hw11
    generalize w1 = Y at *
    refine region_seqg (W := Y) [_, _, _, _, _, _, _, _, _, _, _] [_] rfl (by kernel_rfl) (by kernel_rfl) (by repeat (first | (with_reducible assumption) | (with_reducible exact Below.refl _ _) | (with_reducible refine Below.alloc ?_ (by first | omega | (simp; omega) | (simp; done) | (dsimp only; omega)) _) | (with_reducible refine Below.setCell ?_ (by first | omega | (simp; omega) | (simp; done) | (dsimp only; omega)) _) | (with_reducible refine Below.drew ?_) | (with_reducible refine Below.trans ?_ (Below.mono (by assumption) (by first | omega | (simp; omega) | (simp; done) | (dsimp only; omega)))))) (fun fin hfin => ?_)
    iterate 11
      first
        | (refine SeqG.yes (v := ?_) (A' := ?_) rfl (fun γ => by rfl) ?_ ?_ ?_
           rotate_left 2
           · intro γ w' K hS hK
             obtain ⟨hc, hf⟩ := bcell hS
             have hz := hS.size
             go_simp
             first
               | exact hK.out _ (Below.refl _ _)
               | (go_at_call 10; (with_reducible refine (HH.out _).mono ?_); rintro e w1 ⟨rfl, hb1⟩; exact hK.out _ hb1)
               | (go_at_call 35; (with_reducible refine (HT.out _).mono ?_); rintro e w1 ⟨rfl, hb1⟩; exact hK.out _ hb1)
               | trace_state
           · intro γ; simp only [Act.put, List.setIfInBounds_toArray, List.set_cons_zero, List.set_cons_succ]; exact rfl)
        | (refine SeqG.no (A' := ?_) rfl (fun γ => by rfl) ?_ ?_
           rotate_left
           · intro γ; simp only [Act.put, List.setIfInBounds_toArray, List.set_cons_zero, List.set_cons_succ]; exact rfl)
    refine SeqG.nil (hfin.out _ _ ?_)
    clear hfin fin
    intro γ lo hi w1 hB1 hF hD
    clear hD
    obtain ⟨hc, hf⟩ := bcell hB1
    have hz := hB1.size
    refine TailL.cons (fun K hK => ?_)
    go_simp
    refine hK.out _ _ ?_
    clear hK K
    refine TailL.nil ?_
    go_wp2
    refine bodyPost_ret (by simp [results, Try.results13, go_sem, *] <;> rfl) rfl ⟨rfl, (by repeat (first | (with_reducible assumption) | (with_reducible exact Below.refl _ _) | (with_reducible refine Below.alloc ?_ (by first | omega | (simp; omega) | (simp; done) | (dsimp only; omega)) _) | (with_reducible refine Below.setCell ?_ (by first | omega | (simp; omega) | (simp; done) | (dsimp only; omega)) _) | (with_reducible refine Below.drew ?_) | (with_reducible refine Below.trans ?_ (Below.mono (by assumption) (by first | omega | (simp; omega) | (simp; done) | (dsimp only; omega))))))⟩

theorem r4_one (op : Int) (a : Sp) (ha : I64 a.lo ∧ I64 a.hi) (w : World) :
    Calls Try.prog 13 #[.int .i64 op, .agg #[.bool a.s, .int .i64 a.lo, .int .i64 a.hi]] w fun e w' => e = .returned (.agg #[.bool (oneS op a).s, .int .i64 (oneS op a).lo, .int .i64 (oneS op a).hi]) ∧ Below w.heap.size w w' := by
  cases h : a.none
  · by_cases h5 : op = 5
    · subst h5; rw [oneS_5 h]; exact r4_one_5 a ha h w
    · by_cases h6 : op = 6
      · subst h6; rw [oneS_6 h, not_true h]; exact r4_one_6 a h w
      · rw [oneS_other h5 h6]; exact r4_one_other op h5 h6 a h w
  · rw [oneS_none h]; exact r4_one_none op a h w


def trapS (op : Int) (b : Sp) : Bool := (op == 8 || op == 9) && b.has 0
set_option maxHeartbeats 2000000 in
theorem reckon_traps (op : Int) (b : Sp) (w : World) :
    Calls Try.prog 9 #[.int .i64 op, .agg #[.bool b.s, .int .i64 b.lo, .int .i64 b.hi]] w fun e w' => e = .returned (.bool (trapS op b)) ∧ Below w.heap.size w w' := by
  have HH := Lib.hid (span_has b 0)
  have e : trapS op b = ((op == 8 || op == 9) && b.has 0) := rfl
  generalize trapS op b = r at *
  generalize b.has 0 = x at *
  have he := Lib.hid e
  clear e
  cases h8 : op == 8 <;> cases h9 : op == 9
  all_goals
    go_enter Try.func9, Try.ntmps9
    go_wp2_with (go_at_call 20; (with_reducible refine (HH.out _).mono ?_); rintro e w1 ⟨rfl, hb1⟩; obtain ⟨hc1, hf1⟩ := bcell hb1; have hz1 := hb1.size; (try simp at hz1); (try have hy1 := Nat.lt_of_succ_le hz1); (try have hv1 := Nat.lt_of_succ_lt hy1); (try have hw10 : w.heap.size < w1.heap.size := by omega); (try have hw11 : w.heap.size + 1 < w1.heap.size := by omega); (try have hw12 : w.heap.size + 1 + 1 < w1.heap.size := by omega); (try have hw13 : w.heap.size + 1 + 1 + 1 < w1.heap.size := by omega))
    go_ret
    exact ⟨ret_bool (by rw [he.out, h8, h9]; rfl), (by repeat (first | (with_reducible assumption) | (with_reducible exact Below.refl _ _) | (with_reducible refine Below.alloc ?_ (by first | omega | (simp; omega) | (simp; done) | (dsimp only; omega)) _) | (with_reducible refine Below.setCell ?_ (by first | omega | (simp; omega) | (simp; done) | (dsimp only; omega)) _) | (with_reducible refine Below.drew ?_) | (with_reducible refine Below.trans ?_ (Below.mono (by assumption) (by first | omega | (simp; omega) | (simp; done) | (dsimp only; omega))))))⟩
end Go.Proofs.Ytdphjfppfngcmaa
