/- Plain arithmetic: quotient times divisor, and the rest. -/
import Derived.Test.YtphicgdllhmgdaaMathF
namespace Go.Proofs.Ytphicgdllhmgdaa
open Go.RowKit
theorem tmod_I64 {a : Int} (ha : I64 a) (b : Int) : I64 (a.tmod b) := by
  have h1 : (a.tmod b).natAbs ≤ a.natAbs := by rw [Int.natAbs_tmod]; exact Nat.mod_le _ _
  unfold I64 at ha ⊢
  by_cases h0 : 0 ≤ a
  · have := Int.tmod_nonneg b h0; omega
  · have h2 := Int.tmod_nonneg b (show 0 ≤ -a by omega)
    rw [Int.neg_tmod] at h2; omega
theorem tmod_sign (a b : Int) : (a.tmod b < 0 → a < 0) ∧ (0 < a.tmod b → ¬ a < 0) := by
  constructor
  · intro h
    apply Classical.byContradiction; intro h0
    have := Int.tmod_nonneg b (show 0 ≤ a by omega); omega
  · intro h h0
    have h2 := Int.tmod_nonneg b (show 0 ≤ -a by omega)
    rw [Int.neg_tmod] at h2; omega
theorem tmod_lt (a : Int) {b : Int} (hb : ¬ b = 0) : absI (a.tmod b) < absI b := by
  have h : (a.tmod b).natAbs < b.natAbs := by rw [Int.natAbs_tmod]; exact Nat.mod_lt _ (by omega)
  unfold absI; split <;> split <;> omega
theorem parts_back {a b : Int} (ha : I64 a) : lowI (lowI (wrap64 (a.tdiv b) * b) + a.tmod b) = a := by
  have e : a.tmod b = a - b * a.tdiv b := by have := Int.mul_tdiv_add_tmod a b; omega
  have hk : ∃ k : Int, wrap64 (a.tdiv b) = a.tdiv b + k * 18446744073709551616 :=
    ⟨-((a.tdiv b + 9223372036854775808) / 18446744073709551616), by unfold wrap64; omega⟩
  obtain ⟨k, hk⟩ := hk
  rw [hk, e, Int.add_mul, Int.mul_right_comm k, Int.mul_comm b]
  generalize a.tdiv b * b = x
  generalize k * b = y
  unfold I64 at ha
  unfold lowI wrap64; omega
end Go.Proofs.Ytphicgdllhmgdaa
