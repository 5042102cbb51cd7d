/- Texts CongK, CongL. -/
import Derived.Test.YtdpnphnafidpiaaGreatCongI
/- Inverses, and the first int of two congruences. Layer 5. -/
namespace Go.Proofs.YtdpnphnafidpiaaGreat
open Go.RowKit

/-- The number between 0 and m whose product with a is 1 modulo m. -/
def invI (a m : Int) : Int := (((List.range m.toNat).find? (fun i : Nat => ((i : Int) * a - 1) % m == 0)).getD 0 : Nat)
theorem invI_of {a m i : Int} (h0 : 0 ≤ i) (h1 : i < m) (h2 : m ∣ i * a - 1) : invI a m = i := by
  unfold invI
  cases hf : (List.range m.toNat).find? (fun i : Nat => ((i : Int) * a - 1) % m == 0) with
  | none =>
    have := List.find?_eq_none.1 hf i.toNat (List.mem_range.2 (by omega))
    rw [Int.toNat_of_nonneg h0, Int.emod_eq_zero_of_dvd h2] at this
    exact absurd rfl this
  | some k =>
  have c1 := List.mem_range.1 (List.mem_of_find?_eq_some hf)
  have c2 : m ∣ ((k : Int)) * a - 1 := Int.dvd_of_emod_eq_zero (by simpa using List.find?_some hf)
  rw [Option.getD_some]
  have c0 : (0 : Int) ≤ (k : Int) := by omega
  have c3 : (k : Int) < m := by omega
  clear hf c1
  generalize (k : Int) = j at *
  have e1 : m ∣ i * (j * a - 1) := Int.dvd_mul_of_dvd_right c2
  have e2 : m ∣ j * (i * a - 1) := Int.dvd_mul_of_dvd_right h2
  have e3 : i * (j * a - 1) - j * (i * a - 1) = j - i := by
    rw [Int.mul_sub, Int.mul_sub, ← Int.mul_assoc, ← Int.mul_assoc, Int.mul_comm i j]; omega
  have e4 : m ∣ j - i := by rw [← e3]; exact Int.dvd_sub e1 e2
  obtain ⟨k, hk⟩ := e4
  rcases Int.lt_trichotomy k 0 with h | h | h
  · have : m * k ≤ m * (-1) := Int.mul_le_mul_of_nonneg_left (by omega) (by omega)
    omega
  · subst h; omega
  · have : m * 1 ≤ m * k := Int.mul_le_mul_of_nonneg_left (by omega) (by omega)
    omega

/-- What holds at each round of the search for an inverse. -/
def InvI (a m r s x y : Int) : Prop := 0 ≤ r ∧ 0 ≤ s ∧ r ≤ m ∧ s ≤ m ∧ Int.gcd r s = 1 ∧ m ∣ r - x * a ∧ m ∣ s - y * a ∧
  ((0 ≤ x ∧ y ≤ 0 ∧ x * s - y * r = m) ∨ (x ≤ 0 ∧ 0 ≤ y ∧ y * r - x * s = m))
theorem InvI.start {a m : Int} (h0 : 0 ≤ a) (h1 : a < m) (hg : Int.gcd a m = 1) : InvI a m a m 1 0 := by
  refine ⟨h0, by omega, by omega, by omega, hg, ?_, ?_, Or.inl ⟨by omega, by omega, by rw [Int.one_mul, Int.zero_mul]; omega⟩⟩
  · rw [Int.one_mul, Int.sub_self]; exact Int.dvd_zero m
  · rw [Int.zero_mul, Int.sub_zero]; exact Int.dvd_refl m
theorem InvI.next {a m r s x y : Int} (h : InvI a m r s x y) (hs : 0 < s) :
    InvI a m s (r - r / s * s) y (x - r / s * y) ∧ r - r / s * s < s ∧ -m ≤ r / s * y ∧ r / s * y ≤ m ∧ -m ≤ x - r / s * y ∧ x - r / s * y ≤ m ∧ 0 ≤ r / s ∧ r / s ≤ m ∧ 0 ≤ r / s * s ∧ r / s * s ≤ m := by
  obtain ⟨h1, h2, h3, h4, h5, h6, h7, h8⟩ := h
  have q0 : 0 ≤ r / s := Int.ediv_nonneg h1 h2
  have e := Int.mul_ediv_add_emod r s
  have e1 := Int.emod_nonneg r (show s ≠ 0 by omega)
  have e2 := Int.emod_lt_of_pos r hs
  have e3 : r / s * s = s * (r / s) := Int.mul_comm _ _
  have er : r - r / s * s = r % s := by rw [e3]; omega
  have hq : r / s ≤ r := Int.ediv_le_self _ h1
  have f0 : 0 ≤ r / s * s := Int.mul_nonneg q0 h2
  have hgcd : Int.gcd s (r - r / s * s) = 1 := by
    rw [Int.gcd_sub_mul_right_right, Int.gcd_comm]; exact h5
  have hd : m ∣ (r - r / s * s) - (x - r / s * y) * a := by
    have : (r - r / s * s) - (x - r / s * y) * a = (r - x * a) - r / s * (s - y * a) := by
      rw [Int.sub_mul, Int.mul_sub, Int.mul_assoc]; omega
    rw [this]
    exact Int.dvd_sub h6 (Int.dvd_mul_of_dvd_right h7)
  have k1 : (x - r / s * y) * s = x * s - y * (r / s * s) := by
    rw [Int.sub_mul, Int.mul_comm (r / s) y, Int.mul_assoc]
  have k2 : y * (r - r / s * s) = y * r - y * (r / s * s) := Int.mul_sub _ _ _
  rcases h8 with ⟨g1, g2, g3⟩ | ⟨g1, g2, g3⟩
  · have p1 : r / s * y ≤ 0 := Int.mul_nonpos_of_nonneg_of_nonpos q0 g2
    have p2 : 0 ≤ -y * (r - r / s * s) := Int.mul_nonneg (by omega) (by omega)
    rw [Int.neg_mul, k2] at p2
    have p3 : (x - r / s * y) * 1 ≤ (x - r / s * y) * s := Int.mul_le_mul_of_nonneg_left (by omega) (by omega)
    rw [k1, Int.mul_one] at p3
    refine ⟨⟨h2, by omega, h4, by omega, hgcd, h7, hd, Or.inr ⟨g2, by omega, by rw [k1, k2]; omega⟩⟩, by omega, by omega, by omega, by omega, by omega, q0, by omega, by omega, by omega⟩
  · have p1 : 0 ≤ r / s * y := Int.mul_nonneg q0 g2
    have p2 : 0 ≤ y * (r - r / s * s) := Int.mul_nonneg g2 (by omega)
    rw [k2] at p2
    have p3 : -(x - r / s * y) * 1 ≤ -(x - r / s * y) * s := Int.mul_le_mul_of_nonneg_left (by omega) (by omega)
    rw [Int.neg_mul, Int.neg_mul, k1, Int.mul_one] at p3
    refine ⟨⟨h2, by omega, h4, by omega, hgcd, h7, hd, Or.inl ⟨g2, by omega, by rw [k1, k2]; omega⟩⟩, by omega, by omega, by omega, by omega, by omega, q0, by omega, by omega, by omega⟩
theorem InvI.done {a m r x y : Int} (h : InvI a m r 0 x y) (hm : 0 < m) : x % m = invI a m := by
  obtain ⟨h1, _, _, _, h5, h6, _, _⟩ := h
  have hr : r = 1 := by
    rw [Int.gcd_zero_right] at h5; omega
  subst hr
  refine (invI_of (Int.emod_nonneg _ (by omega)) (Int.emod_lt_of_pos _ hm) ?_).symm
  have e := Int.mul_ediv_add_emod x m
  have e1 : x % m * a - 1 = -(1 - x * a) - m * (x / m * a) := by
    have : x % m = x - m * (x / m) := by omega
    rw [this, Int.sub_mul, Int.mul_assoc]; omega
  rw [e1]
  exact Int.dvd_sub (Int.dvd_neg.2 h6) (Int.dvd_mul_right _ _)
theorem invI_spec {a m : Int} (h : ∃ i : Int, 0 ≤ i ∧ i < m ∧ m ∣ i * a - 1) : 0 ≤ invI a m ∧ invI a m < m ∧ m ∣ invI a m * a - 1 := by
  obtain ⟨i, h0, h1, h2⟩ := h
  rw [invI_of h0 h1 h2]; exact ⟨h0, h1, h2⟩
end Go.Proofs.YtdpnphnafidpiaaGreat

/- What two congruences have in common. Layer 5. -/
namespace Go.Proofs.YtdpnphnafidpiaaGreat
open Go.RowKit

theorem InvI.ends {a m : Int} (hm : 0 < m) : ∀ (n : Nat) (r s x y : Int), s.toNat ≤ n → InvI a m r s x y → ∃ i : Int, 0 ≤ i ∧ i < m ∧ m ∣ i * a - 1 := by
  intro n
  induction n with
  | zero =>
    intro r s x y hn h
    obtain rfl : s = 0 := by have := h.2.1; omega
    obtain ⟨h1, _, _, _, h5, h6, _, _⟩ := h
    have hr : r = 1 := by rw [Int.gcd_zero_right] at h5; omega
    subst hr
    refine ⟨x % m, Int.emod_nonneg _ (by omega), Int.emod_lt_of_pos _ hm, ?_⟩
    have e := Int.mul_ediv_add_emod x m
    have e1 : x % m * a - 1 = -(1 - x * a) - m * (x / m * a) := by
      have : x % m = x - m * (x / m) := by omega
      rw [this, Int.sub_mul, Int.mul_assoc]; omega
    rw [e1]
    exact Int.dvd_sub (Int.dvd_neg.2 h6) (Int.dvd_mul_right _ _)
  | succ n ih =>
    intro r s x y hn h
    by_cases h0 : 0 < s
    · obtain ⟨g1, g2, _⟩ := h.next h0
      exact ih _ _ _ _ (by have := g1.2.1; omega) g1
    · exact ih r s x y (by omega) h

/-- The first int of both, behind the first one's R, in steps of its M. -/
def Cg.stepsI (x y : Cg) : Int :=
  modI ((y.r - x.r) / gcdI x.m y.m) (y.m / gcdI x.m y.m) * invI (modI (x.m / gcdI x.m y.m) (y.m / gcdI x.m y.m)) (y.m / gcdI x.m y.m) % (y.m / gcdI x.m y.m)
def lcmI (x y : Int) : Int := x / gcdI x y * y
def Cg.agrees (x y : Cg) : Bool := modI x.r (gcdI x.m y.m) == modI y.r (gcdI x.m y.m)

theorem gcdI_gcd (x y : Int) (hx : 0 ≤ x) (hy : 0 ≤ y) : gcdI x y = (Int.gcd x y : Nat) := by
  unfold gcdI Int.gcd
  rw [show x.natAbs = x.toNat by omega, show y.natAbs = y.toNat by omega]

/-- All about the two Ms. -/
theorem gcd_parts {x y : Int} (hx : 0 < x) (hy : 0 < y) :
    ∃ g a b i : Int, gcdI x y = g ∧ 0 < g ∧ x = g * a ∧ y = g * b ∧ x / g = a ∧ y / g = b ∧ 0 < a ∧ 0 < b ∧ Int.gcd (a % b) b = 1 ∧ invI (a % b) b = i ∧ 0 ≤ i ∧ i < b ∧ b ∣ i * a - 1 ∧ lcmI x y = x * b := by
  have d1 := gcdI_dvd_l y (show 0 ≤ x by omega)
  have d2 := gcdI_dvd_r x (show 0 ≤ y by omega)
  have hg : 0 < gcdI x y := by
    have h1 := gcdI_nonneg x y
    have h2 : gcdI x y ≠ 0 := fun h => by have := (gcdI_zero (by omega) (by omega) h).1; omega
    omega
  have hgg := gcdI_gcd x y (by omega) (by omega)
  have hco : Int.gcd (x / gcdI x y) (y / gcdI x y) = 1 := by
    rw [hgg]
    exact Int.gcd_ediv_gcd_ediv_gcd (by rw [hgg] at hg; omega)
  obtain ⟨a, ha⟩ := d1
  obtain ⟨b, hb⟩ := d2
  have e1 : x / gcdI x y = a := by
    have := Int.mul_ediv_cancel_left a (show gcdI x y ≠ 0 by omega)
    rwa [← ha] at this
  have e2 : y / gcdI x y = b := by
    have := Int.mul_ediv_cancel_left b (show gcdI x y ≠ 0 by omega)
    rwa [← hb] at this
  have pa : 0 < a := by
    apply Classical.byContradiction; intro h
    have := Int.mul_le_mul_of_nonneg_left (show a ≤ 0 by omega) (show 0 ≤ gcdI x y by omega)
    omega
  have pb : 0 < b := by
    apply Classical.byContradiction; intro h
    have := Int.mul_le_mul_of_nonneg_left (show b ≤ 0 by omega) (show 0 ≤ gcdI x y by omega)
    omega
  have hl : lcmI x y = x * b := by
    unfold lcmI
    rw [e1]
    generalize gcdI x y = g at *
    subst ha hb
    rw [Int.mul_comm g a, Int.mul_assoc]
  rw [e1, e2] at hco
  generalize gcdI x y = g at *
  have hc2 : Int.gcd (a % b) b = 1 := by
    have e := Int.mul_ediv_add_emod a b
    rw [show a % b = a - b * (a / b) by omega, Int.gcd_sub_mul_left_left]; exact hco
  have hi := invI_spec (InvI.ends pb _ _ _ _ _ (Nat.le_refl _) (InvI.start (Int.emod_nonneg a (by omega)) (Int.emod_lt_of_pos a pb) hc2))
  obtain ⟨i0, i1, i2⟩ := hi
  generalize hii : invI (a % b) b = i at *
  refine ⟨g, a, b, i, rfl, hg, ha, hb, e1, e2, pa, pb, hc2, hii, i0, i1, ?_, hl⟩
  have e := Int.mul_ediv_add_emod a b
  have e3 : i * a - 1 = (i * (a % b) - 1) + b * (i * (a / b)) := by
    have : i * a = i * (a % b) + i * (b * (a / b)) := by rw [← Int.mul_add]; congr 1; omega
    rw [this, Int.mul_left_comm]; omega
  rw [e3]
  exact Int.dvd_add i2 (Int.dvd_mul_right _ _)

/-- What both have is in both, and no more. -/
theorem crt {x y : Cg} (hx : x.std) (hy : y.std) (h1 : 0 < x.m) (h2 : 0 < y.m) (ha : x.agrees y = true) :
    ∃ c : Int, c = x.r + x.m * x.stepsI y ∧ 0 ≤ x.stepsI y ∧ 0 ≤ x.m * x.stepsI y ∧ 0 ≤ c ∧ c < lcmI x.m y.m ∧ 0 < lcmI x.m y.m ∧ x.m ∣ lcmI x.m y.m ∧ y.m ∣ lcmI x.m y.m ∧ c % x.m = x.r ∧ c % y.m = y.r ∧
      ∀ n : Int, n % lcmI x.m y.m = c ↔ n % x.m = x.r ∧ n % y.m = y.r := by
  obtain ⟨g, a, b, i, e1, hg, e2, e3, e4, e5, pa, pb, hc, e6, i0, i1, i2, e7⟩ := gcd_parts h1 h2
  have hxr := hx.2.2.2 h1
  have hyr := hy.2.2.2 h2
  unfold Cg.agrees at ha
  rw [e1, modI_pos hg, modI_pos hg, beq_iff_eq] at ha
  have hd : g ∣ y.r - x.r := Int.dvd_of_emod_eq_zero (Int.emod_eq_emod_iff_emod_sub_eq_zero.1 ha.symm)
  obtain ⟨δ, hδ⟩ := hd
  have hq : (y.r - x.r) / g = δ := by rw [hδ]; exact Int.mul_ediv_cancel_left δ (by omega)
  have hs : x.stepsI y = δ % b * i % b := by
    unfold Cg.stepsI
    rw [e1, hq, e5, e4, modI_pos pb, modI_pos pb, e6]
  rw [hs, e7]
  have k0 := Int.emod_nonneg (δ % b * i) (show b ≠ 0 by omega)
  have k1 := Int.emod_lt_of_pos (δ % b * i) pb
  have k2 : b ∣ a * (δ % b * i % b) - δ := by
    have f1 := Int.mul_ediv_add_emod (δ % b * i) b
    have f2 := Int.mul_ediv_add_emod δ b
    generalize δ % b * i / b = u at *
    generalize δ % b * i % b = k at *
    generalize δ / b = v at *
    generalize δ % b = t at *
    have f3 : a * k - δ = t * (i * a - 1) - b * (a * u) - b * v := by
      have : a * k = a * (t * i) - a * (b * u) := by rw [← Int.mul_sub]; congr 1; omega
      rw [this, Int.mul_sub, Int.mul_one, Int.mul_left_comm a b u, Int.mul_left_comm a t i, Int.mul_comm a i]; omega
    rw [f3]
    exact Int.dvd_sub (Int.dvd_sub (Int.dvd_mul_of_dvd_right i2) (Int.dvd_mul_right _ _)) (Int.dvd_mul_right _ _)
  generalize δ % b * i % b = k at *
  have b0 : 0 ≤ x.m * k := Int.mul_nonneg (by omega) k0
  have b1 : x.m * k ≤ x.m * (b - 1) := Int.mul_le_mul_of_nonneg_left (by omega) (by omega)
  rw [Int.mul_sub, Int.mul_one] at b1
  have b2 : 0 < x.m * b := Int.mul_pos h1 pb
  have hyd : y.m ∣ (x.r + x.m * k) - y.r := by
    have : (x.r + x.m * k) - y.r = g * (a * k - δ) := by
      rw [Int.mul_sub, ← hδ, ← Int.mul_assoc, ← e2]; omega
    rw [this]
    obtain ⟨z, hz⟩ := k2
    rw [hz, ← Int.mul_assoc, ← e3]
    exact Int.dvd_mul_right _ _
  have hcx : (x.r + x.m * k) % x.m = x.r := by rw [Int.add_mul_emod_self_left]; exact Int.emod_eq_of_lt hxr.1 hxr.2
  have hcy : (x.r + x.m * k) % y.m = y.r := by
    have := Int.emod_eq_emod_iff_emod_sub_eq_zero.2 (Int.emod_eq_zero_of_dvd hyd)
    rw [this]; exact Int.emod_eq_of_lt hyr.1 hyr.2
  have dx : x.m ∣ x.m * b := Int.dvd_mul_right _ _
  have dy : y.m ∣ x.m * b := ⟨a, by rw [e2, e3, Int.mul_assoc, Int.mul_assoc, Int.mul_comm a b]⟩
  refine ⟨x.r + x.m * k, rfl, k0, b0, by omega, by omega, b2, dx, dy, hcx, hcy, fun n => ⟨fun h => ?_, fun ⟨g1, g2⟩ => ?_⟩⟩
  · have hn : x.m * b ∣ n - (x.r + x.m * k) := by
      have := Int.emod_eq_emod_iff_emod_sub_eq_zero.1 (h.trans (Int.emod_eq_of_lt (show 0 ≤ x.r + x.m * k by omega) (show x.r + x.m * k < x.m * b by omega)).symm)
      exact Int.dvd_of_emod_eq_zero this
    constructor
    · rw [← hcx]; exact Int.emod_eq_emod_iff_emod_sub_eq_zero.2 (Int.emod_eq_zero_of_dvd (Int.dvd_trans dx hn))
    · rw [← hcy]; exact Int.emod_eq_emod_iff_emod_sub_eq_zero.2 (Int.emod_eq_zero_of_dvd (Int.dvd_trans dy hn))
  · have t1 : x.m ∣ n - (x.r + x.m * k) := Int.dvd_of_emod_eq_zero (Int.emod_eq_emod_iff_emod_sub_eq_zero.1 (g1.trans hcx.symm))
    have t2 : y.m ∣ n - (x.r + x.m * k) := Int.dvd_of_emod_eq_zero (Int.emod_eq_emod_iff_emod_sub_eq_zero.1 (g2.trans hcy.symm))
    have u0 : 0 ≤ x.r + x.m * k := by omega
    have u1 : x.r + x.m * k < x.m * b := by omega
    generalize x.r + x.m * k = c at *
    have hb : x.m * b ∣ n - c := by
      obtain ⟨u, hu⟩ := t1
      obtain ⟨v, hv⟩ := t2
      have w1 : a * u = b * v := by
        have : g * (a * u) = g * (b * v) := by rw [← Int.mul_assoc, ← Int.mul_assoc, ← e2, ← e3, ← hu, hv]
        exact Int.eq_of_mul_eq_mul_left (by omega) this
      have w2 : b ∣ u := by
        have : u = b * (v * i) - u * (i * a - 1) := by
          rw [Int.mul_sub, Int.mul_one, ← Int.mul_assoc, ← w1, Int.mul_comm i a, ← Int.mul_assoc, Int.mul_comm u a]; omega
        rw [this]
        exact Int.dvd_sub (Int.dvd_mul_right _ _) (Int.dvd_mul_of_dvd_right i2)
      obtain ⟨z, hz⟩ := w2
      exact ⟨z, by rw [hu, hz, Int.mul_assoc]⟩
    have := Int.emod_eq_emod_iff_emod_sub_eq_zero.2 (Int.emod_eq_zero_of_dvd hb)
    rw [this]; exact Int.emod_eq_of_lt (by omega) (by omega)
end Go.Proofs.YtdpnphnafidpiaaGreat
