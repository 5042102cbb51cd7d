/- Plain arithmetic: a product by doubling. -/
import Derived.Test.YtbjdiaakhlgcgaaMathC
namespace Go.Proofs.Ytbjdiaakhlgcgaa
open Go.RowKit
/-- They differ by a number of times 2^128. -/
def Mg (x y : Int) : Prop := ∃ k : Int, x = y + k * 340282366920938463463374607431768211456
theorem Mg.refl (x : Int) : Mg x x := ⟨0, by simp⟩
theorem Mg.wrap (x : Int) : Mg (wrap128 x) x := by
  refine ⟨-((x + 170141183460469231731687303715884105728) / 340282366920938463463374607431768211456), ?_⟩
  unfold wrap128; omega
theorem Mg.wrap_eq {x y : Int} (h : Mg x y) : wrap128 x = wrap128 y := by
  obtain ⟨k, rfl⟩ := h; unfold wrap128; omega
theorem Mg.symm {x y : Int} (h : Mg x y) : Mg y x := by
  obtain ⟨k, rfl⟩ := h; exact ⟨-k, by omega⟩
theorem Mg.trans {x y z : Int} (h : Mg x y) (h' : Mg y z) : Mg x z := by
  obtain ⟨k, rfl⟩ := h; obtain ⟨l, rfl⟩ := h'; exact ⟨l + k, by omega⟩
theorem Mg.add {a b c d : Int} (h : Mg a b) (h' : Mg c d) : Mg (a + c) (b + d) := by
  obtain ⟨k, rfl⟩ := h; obtain ⟨l, rfl⟩ := h'; exact ⟨k + l, by omega⟩
theorem Mg.mul {a b : Int} (h : Mg a b) (n : Int) : Mg (a * n) (b * n) := by
  obtain ⟨k, rfl⟩ := h; exact ⟨k * n, by rw [Int.add_mul, Int.mul_right_comm]⟩
theorem mul_even {p x n t : Int} (h : Mg (p + x * n) t) (hn : n % 2 = 0) : Mg (p + wrap128 (x + x) * (n / 2)) t := by
  refine Mg.trans (Mg.add (Mg.refl p) ((Mg.wrap (x + x)).mul (n / 2))) ?_
  have e : (x + x) * (n / 2) = x * n := by
    obtain ⟨m, rfl⟩ : ∃ m, n = 2 * m := ⟨n / 2, by omega⟩
    rw [show 2 * m / 2 = m by omega, Int.add_mul, show x * (2 * m) = x * m + x * m by rw [← Int.mul_add]; congr 1; omega]
  rw [e]; exact h
theorem mul_odd {p x n t : Int} (h : Mg (p + x * n) t) (hn : n % 2 = 1) : Mg (wrap128 (p + x) + wrap128 (x + x) * (n / 2)) t := by
  refine Mg.trans (Mg.add (Mg.wrap (p + x)) ((Mg.wrap (x + x)).mul (n / 2))) ?_
  have e : p + x + (x + x) * (n / 2) = p + x * n := by
    obtain ⟨m, rfl⟩ : ∃ m, n = 2 * m + 1 := ⟨n / 2, by omega⟩
    rw [show (2 * m + 1) / 2 = m by omega, Int.add_mul, show x * (2 * m + 1) = x * m + x * m + x by rw [Int.mul_add, Int.mul_one, show x * (2 * m) = x * m + x * m by rw [← Int.mul_add]; congr 1; omega]]; omega
  rw [e]; exact h
theorem mul_end {p x t : Int} (h : Mg (p + x * 0) t) (hp : I128 p) (ht : I128 t) : p = t := by
  rw [Int.mul_zero, Int.add_zero] at h
  have := h.wrap_eq; rw [wrap128_id hp, wrap128_id ht] at this; exact this
theorem mul_size {b : Int} (hb : I64 b) (h : b < 0) : loW (wrap128 (-b)) = -b := by
  unfold I64 at hb; unfold loW wrap128 M64; omega
theorem mul_size' {b : Int} (hb : I64 b) (h : ¬ b < 0) : loW b = b := by
  unfold I64 at hb; unfold loW M64; omega
theorem prod_neg {a b : Int} (ha : I64 a) (hb : I64 b) : I128 (a * -b) := by
  have := prod_bd ha hb; rw [Int.mul_neg]; unfold I128; omega
theorem mul_back {a b : Int} (ha : I64 a) (hb : I64 b) : wrap128 (-(a * -b)) = a * b := by
  rw [Int.mul_neg, Int.neg_neg]; exact wrap128_id (prod_I128 ha hb)
end Go.Proofs.Ytbjdiaakhlgcgaa
