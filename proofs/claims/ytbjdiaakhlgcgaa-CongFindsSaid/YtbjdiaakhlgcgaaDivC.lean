/- The rest of two words by one. -/
import Derived.Test.YtbjdiaakhlgcgaaDivB
namespace Go.Proofs.Ytbjdiaakhlgcgaa
open Go.RowKit

set_option maxHeartbeats 1000000 in
theorem bits_div64_0 (lo y : Int) (hlo : U64 lo) (hy : U64 y) (hy0 : 0 < y) (w : World) :
    Calls Try.prog 77 #[.int .u64 0, .int .u64 lo, .int .u64 y] w fun e w' => e = .returned (.tuple #[.int .u64 (lo / y), .int .u64 (lo % y)]) ∧ Below w.heap.size w w' := by
  unfold U64 M64 at hlo hy
  have c1 : (y == 0) = false := by simp; omega
  have c0 : ¬ y = 0 := by omega
  have c2 : decide (y ≤ 0) = false := by simp; omega
  have q0 : 0 ≤ lo / y := Int.ediv_nonneg hlo.1 hy.1
  have q1 : lo / y ≤ lo := Int.ediv_le_self _ hlo.1
  have m0 := Int.emod_nonneg lo c0
  have m1 := Int.emod_lt_of_pos lo hy0
  have e1 : lo.tdiv y = lo / y := Int.tdiv_eq_ediv_of_nonneg hlo.1
  have e2 : lo.tmod y = lo % y := Int.tmod_eq_emod_of_nonneg hlo.1
  generalize lo / y = q at *
  generalize lo % y = r at *
  have w1 : IntKind.u64.wrap q = q := by rw [wrapu]; omega
  have w2 : IntKind.u64.wrap r = r := by rw [wrapu]; omega
  go_enter Try.func77, Try.ntmps77
  go_wp2
  go_region
  go_wp2
  go_ret2
  exact ⟨rfl, (by repeat (first | (with_reducible assumption) | (with_reducible exact Below.refl _ _) | (with_reducible refine Below.alloc ?_ (by first | omega | (simp; omega) | (simp; done) | (dsimp only; omega)) _) | (with_reducible refine Below.setCell ?_ (by first | omega | (simp; omega) | (simp; done) | (dsimp only; omega)) _) | (with_reducible refine Below.drew ?_) | (with_reducible refine Below.trans ?_ (Below.mono (by assumption) (by first | omega | (simp; omega) | (simp; done) | (dsimp only; omega))))))⟩

set_option maxHeartbeats 1000000 in
theorem bits_rem64 (hi lo y : Int) (hhi : U64 hi) (hlo : U64 lo) (hy : U64 y) (hy0 : 0 < y) (w : World) :
    Calls Try.prog 75 #[.int .u64 hi, .int .u64 lo, .int .u64 y] w fun e w' => e = .returned (.int .u64 ((hi * 18446744073709551616 + lo) % y)) ∧ Below w.heap.size w w' := by
  have m0 := Int.emod_nonneg hi (show y ≠ 0 by omega)
  have m1 := Int.emod_lt_of_pos hi hy0
  have e2 : hi.tmod y = hi % y := Int.tmod_eq_emod_of_nonneg hhi.1
  have hd : ∃ q, ∀ w, Calls Try.prog 77 #[.int .u64 (hi % y), .int .u64 lo, .int .u64 y] w fun e w' => e = .returned (.tuple #[.int .u64 q, .int .u64 ((hi * 18446744073709551616 + lo) % y)]) ∧ Below w.heap.size w w' := by
    have e : (hi % y * 18446744073709551616 + lo) % y = (hi * 18446744073709551616 + lo) % y := by
      have h := Int.mul_ediv_add_emod hi y
      refine Int.emod_eq_emod_iff_emod_sub_eq_zero.2 (Int.emod_eq_zero_of_dvd ?_)
      have : hi % y * 18446744073709551616 + lo - (hi * 18446744073709551616 + lo) = y * (-(hi / y) * 18446744073709551616) := by
        rw [Int.neg_mul, Int.mul_neg, ← Int.mul_assoc]; omega
      rw [this]; exact Int.dvd_mul_right _ _
    by_cases h0 : hi % y = 0
    · refine ⟨lo / y, fun w => ?_⟩
      rw [← e, h0, Int.zero_mul, Int.zero_add]
      exact bits_div64_0 lo y hlo hy hy0 w
    · refine ⟨(hi % y * 18446744073709551616 + lo) / y, fun w => ?_⟩
      rw [← e]
      exact bits_div64 (hi % y) lo y (by omega) m1 hlo hy w
  obtain ⟨q, hd⟩ := hd
  have HD := Lib.hid hd
  clear hd
  unfold U64 M64 at hhi hlo hy
  generalize (hi * 18446744073709551616 + lo) % y = r at *
  have c1 : (y == 0) = false := by simp; omega
  have c0 : ¬ y = 0 := by omega
  generalize hi % y = h at *
  have w1 : IntKind.u64.wrap h = h := by rw [wrapu]; omega
  go_enter Try.func75, Try.ntmps75
  go_wp2_with (go_at_call 77; (with_reducible refine (HD.out _).mono ?_); rintro e w1 ⟨rfl, hb1⟩; obtain ⟨hc1, hf1⟩ := bcell hb1; have hz1 := hb1.size; (try simp at hz1); (try have hy1 := Nat.lt_of_succ_le hz1); (try have hv1 := Nat.lt_of_succ_lt hy1); (try have hw10 : w.heap.size < w1.heap.size := by omega); (try have hw11 : w.heap.size + 1 < w1.heap.size := by omega); (try have hw12 : w.heap.size + 1 + 1 < w1.heap.size := by omega); (try have hw13 : w.heap.size + 1 + 1 + 1 < w1.heap.size := by omega))
  go_ret
  exact ⟨rfl, (by repeat (first | (with_reducible assumption) | (with_reducible exact Below.refl _ _) | (with_reducible refine Below.alloc ?_ (by first | omega | (simp; omega) | (simp; done) | (dsimp only; omega)) _) | (with_reducible refine Below.setCell ?_ (by first | omega | (simp; omega) | (simp; done) | (dsimp only; omega)) _) | (with_reducible refine Below.drew ?_) | (with_reducible refine Below.trans ?_ (Below.mono (by assumption) (by first | omega | (simp; omega) | (simp; done) | (dsimp only; omega))))))⟩
end Go.Proofs.Ytbjdiaakhlgcgaa
