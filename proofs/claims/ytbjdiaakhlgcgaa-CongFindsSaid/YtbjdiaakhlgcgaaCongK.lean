/- Inverses, and the first int of two congruences. Layer 5. -/
import Derived.Test.YtbjdiaakhlgcgaaCongI
namespace Go.Proofs.Ytbjdiaakhlgcgaa
open Go.RowKit

/-- The number between 0 and m whose product with a is 1 modulo m. -/
def invI (a m : Int) : Int := (((List.range m.toNat).find? (fun i : Nat => ((i : Int) * a - 1) % m == 0)).getD 0 : Nat)
theorem invI_of {a m i : Int} (h0 : 0 ≤ i) (h1 : i < m) (h2 : m ∣ i * a - 1) : invI a m = i := by
  unfold invI
  cases hf : (List.range m.toNat).find? (fun i : Nat => ((i : Int) * a - 1) % m == 0) with
  | none =>
    have := List.find?_eq_none.1 hf i.toNat (List.mem_range.2 (by omega))
    rw [Int.toNat_of_nonneg h0, Int.emod_eq_zero_of_dvd h2] at this
    exact absurd rfl this
  | some k =>
  have c1 := List.mem_range.1 (List.mem_of_find?_eq_some hf)
  have c2 : m ∣ ((k : Int)) * a - 1 := Int.dvd_of_emod_eq_zero (by simpa using List.find?_some hf)
  rw [Option.getD_some]
  have c0 : (0 : Int) ≤ (k : Int) := by omega
  have c3 : (k : Int) < m := by omega
  clear hf c1
  generalize (k : Int) = j at *
  have e1 : m ∣ i * (j * a - 1) := Int.dvd_mul_of_dvd_right c2
  have e2 : m ∣ j * (i * a - 1) := Int.dvd_mul_of_dvd_right h2
  have e3 : i * (j * a - 1) - j * (i * a - 1) = j - i := by
    rw [Int.mul_sub, Int.mul_sub, ← Int.mul_assoc, ← Int.mul_assoc, Int.mul_comm i j]; omega
  have e4 : m ∣ j - i := by rw [← e3]; exact Int.dvd_sub e1 e2
  obtain ⟨k, hk⟩ := e4
  rcases Int.lt_trichotomy k 0 with h | h | h
  · have : m * k ≤ m * (-1) := Int.mul_le_mul_of_nonneg_left (by omega) (by omega)
    omega
  · subst h; omega
  · have : m * 1 ≤ m * k := Int.mul_le_mul_of_nonneg_left (by omega) (by omega)
    omega

/-- What holds at each round of the search for an inverse. -/
def InvI (a m r s x y : Int) : Prop := 0 ≤ r ∧ 0 ≤ s ∧ r ≤ m ∧ s ≤ m ∧ Int.gcd r s = 1 ∧ m ∣ r - x * a ∧ m ∣ s - y * a ∧
  ((0 ≤ x ∧ y ≤ 0 ∧ x * s - y * r = m) ∨ (x ≤ 0 ∧ 0 ≤ y ∧ y * r - x * s = m))
theorem InvI.start {a m : Int} (h0 : 0 ≤ a) (h1 : a < m) (hg : Int.gcd a m = 1) : InvI a m a m 1 0 := by
  refine ⟨h0, by omega, by omega, by omega, hg, ?_, ?_, Or.inl ⟨by omega, by omega, by rw [Int.one_mul, Int.zero_mul]; omega⟩⟩
  · rw [Int.one_mul, Int.sub_self]; exact Int.dvd_zero m
  · rw [Int.zero_mul, Int.sub_zero]; exact Int.dvd_refl m
theorem InvI.next {a m r s x y : Int} (h : InvI a m r s x y) (hs : 0 < s) :
    InvI a m s (r - r / s * s) y (x - r / s * y) ∧ r - r / s * s < s ∧ -m ≤ r / s * y ∧ r / s * y ≤ m ∧ -m ≤ x - r / s * y ∧ x - r / s * y ≤ m ∧ 0 ≤ r / s ∧ r / s ≤ m ∧ 0 ≤ r / s * s ∧ r / s * s ≤ m := by
  obtain ⟨h1, h2, h3, h4, h5, h6, h7, h8⟩ := h
  have q0 : 0 ≤ r / s := Int.ediv_nonneg h1 h2
  have e := Int.mul_ediv_add_emod r s
  have e1 := Int.emod_nonneg r (show s ≠ 0 by omega)
  have e2 := Int.emod_lt_of_pos r hs
  have e3 : r / s * s = s * (r / s) := Int.mul_comm _ _
  have er : r - r / s * s = r % s := by rw [e3]; omega
  have hq : r / s ≤ r := Int.ediv_le_self _ h1
  have f0 : 0 ≤ r / s * s := Int.mul_nonneg q0 h2
  have hgcd : Int.gcd s (r - r / s * s) = 1 := by
    rw [Int.gcd_sub_mul_right_right, Int.gcd_comm]; exact h5
  have hd : m ∣ (r - r / s * s) - (x - r / s * y) * a := by
    have : (r - r / s * s) - (x - r / s * y) * a = (r - x * a) - r / s * (s - y * a) := by
      rw [Int.sub_mul, Int.mul_sub, Int.mul_assoc]; omega
    rw [this]
    exact Int.dvd_sub h6 (Int.dvd_mul_of_dvd_right h7)
  have k1 : (x - r / s * y) * s = x * s - y * (r / s * s) := by
    rw [Int.sub_mul, Int.mul_comm (r / s) y, Int.mul_assoc]
  have k2 : y * (r - r / s * s) = y * r - y * (r / s * s) := Int.mul_sub _ _ _
  rcases h8 with ⟨g1, g2, g3⟩ | ⟨g1, g2, g3⟩
  · have p1 : r / s * y ≤ 0 := Int.mul_nonpos_of_nonneg_of_nonpos q0 g2
    have p2 : 0 ≤ -y * (r - r / s * s) := Int.mul_nonneg (by omega) (by omega)
    rw [Int.neg_mul, k2] at p2
    have p3 : (x - r / s * y) * 1 ≤ (x - r / s * y) * s := Int.mul_le_mul_of_nonneg_left (by omega) (by omega)
    rw [k1, Int.mul_one] at p3
    refine ⟨⟨h2, by omega, h4, by omega, hgcd, h7, hd, Or.inr ⟨g2, by omega, by rw [k1, k2]; omega⟩⟩, by omega, by omega, by omega, by omega, by omega, q0, by omega, by omega, by omega⟩
  · have p1 : 0 ≤ r / s * y := Int.mul_nonneg q0 g2
    have p2 : 0 ≤ y * (r - r / s * s) := Int.mul_nonneg g2 (by omega)
    rw [k2] at p2
    have p3 : -(x - r / s * y) * 1 ≤ -(x - r / s * y) * s := Int.mul_le_mul_of_nonneg_left (by omega) (by omega)
    rw [Int.neg_mul, Int.neg_mul, k1, Int.mul_one] at p3
    refine ⟨⟨h2, by omega, h4, by omega, hgcd, h7, hd, Or.inl ⟨g2, by omega, by rw [k1, k2]; omega⟩⟩, by omega, by omega, by omega, by omega, by omega, q0, by omega, by omega, by omega⟩
theorem InvI.done {a m r x y : Int} (h : InvI a m r 0 x y) (hm : 0 < m) : x % m = invI a m := by
  obtain ⟨h1, _, _, _, h5, h6, _, _⟩ := h
  have hr : r = 1 := by
    rw [Int.gcd_zero_right] at h5; omega
  subst hr
  refine (invI_of (Int.emod_nonneg _ (by omega)) (Int.emod_lt_of_pos _ hm) ?_).symm
  have e := Int.mul_ediv_add_emod x m
  have e1 : x % m * a - 1 = -(1 - x * a) - m * (x / m * a) := by
    have : x % m = x - m * (x / m) := by omega
    rw [this, Int.sub_mul, Int.mul_assoc]; omega
  rw [e1]
  exact Int.dvd_sub (Int.dvd_neg.2 h6) (Int.dvd_mul_right _ _)
theorem invI_spec {a m : Int} (h : ∃ i : Int, 0 ≤ i ∧ i < m ∧ m ∣ i * a - 1) : 0 ≤ invI a m ∧ invI a m < m ∧ m ∣ invI a m * a - 1 := by
  obtain ⟨i, h0, h1, h2⟩ := h
  rw [invI_of h0 h1 h2]; exact ⟨h0, h1, h2⟩
end Go.Proofs.Ytbjdiaakhlgcgaa
