/- Plain arithmetic: quotients and rests. -/
import Derived.Test.YtphicgdllhmgdaaMathE
namespace Go.Proofs.Ytphicgdllhmgdaa
open Go.RowKit
theorem low_lo2 (v : Int) : lowI (loW v) = lowI v := low_lo v
def absI (n : Int) : Int := if n < 0 then -n else n
theorem abs_neg {n : Int} (h : n < 0) : absI n = -n := if_pos h
theorem abs_pos {n : Int} (h : ¬ n < 0) : absI n = n := if_neg h
theorem abs_U64 {n : Int} (h : I64 n) : U64 (absI n) := by unfold I64 at h; unfold absI U64 M64; split <;> omega
theorem abs_le {n : Int} (h : I64 n) : absI n ≤ 9223372036854775808 := by unfold I64 at h; unfold absI; split <;> omega
theorem abs_ge (n : Int) : 0 ≤ absI n := by unfold absI; split <;> omega
theorem quo_U64 {a b : Int} (ha : I64 a) (hb : ¬ b = 0) : U64 (absI a / absI b) := by
  have h1 := abs_ge a
  have h2 := abs_le ha
  have h3 : 1 ≤ absI b := by unfold absI; split <;> omega
  have h4 : 0 ≤ absI a / absI b := Int.ediv_nonneg h1 (by omega)
  have h5 : absI a / absI b ≤ absI a := Int.ediv_le_self _ h1
  unfold U64 M64; omega
theorem tdiv_abs (a b : Int) : a.tdiv b = if (a < 0) = (b < 0) then absI a / absI b else -(absI a / absI b) := by
  by_cases h1 : a < 0 <;> by_cases h2 : b < 0
  · simp only [h1, h2, if_true]
    rw [abs_neg h1, abs_neg h2, ← Int.tdiv_eq_ediv_of_nonneg (by omega), Int.neg_tdiv, Int.tdiv_neg, Int.neg_neg]
  · simp only [h1, h2]
    rw [if_neg (by simp), abs_neg h1, abs_pos h2, ← Int.tdiv_eq_ediv_of_nonneg (by omega), Int.neg_tdiv, Int.neg_neg]
  · simp only [h1, h2]
    rw [if_neg (by simp), abs_pos h1, abs_neg h2, ← Int.tdiv_eq_ediv_of_nonneg (by omega), Int.tdiv_neg, Int.neg_neg]
  · simp only [h1, h2, if_true]
    rw [abs_pos h1, abs_pos h2, ← Int.tdiv_eq_ediv_of_nonneg (by omega)]
theorem quo_same {a b : Int} (h : (a < 0) = (b < 0)) : lowI (absI a / absI b) = wrap64 (a.tdiv b) := by
  rw [tdiv_abs, if_pos h]; rfl
theorem quo_diff {a b : Int} (h : ¬ (a < 0) = (b < 0)) : lowI (loW (wrap128 (-(absI a / absI b)))) = wrap64 (a.tdiv b) := by
  rw [tdiv_abs, if_neg h, low_lo2]; unfold lowI wrap128 wrap64; omega
theorem rem_low {a b : Int} (ha : I64 a) : lowI (loW (wrap128 (a - wrap64 (a.tdiv b) * b))) = a.tmod b := by
  have e : a.tmod b = a - b * a.tdiv b := by have := Int.mul_tdiv_add_tmod a b; omega
  have hk : ∃ k : Int, wrap64 (a.tdiv b) = a.tdiv b + k * 18446744073709551616 :=
    ⟨-((a.tdiv b + 9223372036854775808) / 18446744073709551616), by unfold wrap64; omega⟩
  obtain ⟨k, hk⟩ := hk
  have hr : I64 (a.tmod b) := by
    have h1 : (a.tmod b).natAbs ≤ a.natAbs := by rw [Int.natAbs_tmod]; exact Nat.mod_le _ _
    have ha' := ha
    unfold I64 at ha' ⊢
    by_cases h0 : 0 ≤ a
    · have := Int.tmod_nonneg b h0; omega
    · have : a.tmod b ≤ 0 := by
        have h2 := Int.tmod_nonneg b (show 0 ≤ -a by omega)
        rw [Int.neg_tmod] at h2; omega
      omega
  rw [low_lo2]
  rw [hk, Int.add_mul, Int.mul_right_comm k]
  have : lowI (wrap128 (a - (a.tdiv b * b + k * b * 18446744073709551616))) = lowI (a.tmod b) := by
    rw [e, Int.mul_comm b]; generalize a.tdiv b * b = x; generalize k * b = y
    unfold lowI wrap128 wrap64; omega
  rw [this, low_in hr]
end Go.Proofs.Ytphicgdllhmgdaa
