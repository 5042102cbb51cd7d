/- Floats that hold whole numbers up to 2^53: exact sums, order, conversion. -/
import Derived.Test.YtphicgdllhmgdaaRows
import Derived.Laws.ComplexArith
namespace Go.Proofs.Ytphicgdllhmgdaa

theorem log2_shift {N : Nat} (h : N ≠ 0) (p : Nat) : (N * 2 ^ p).log2 = N.log2 + p := by
  have hp := Nat.two_pow_pos p
  have h1 := (Nat.log2_eq_iff h).1 rfl
  refine (Nat.log2_eq_iff (Nat.mul_ne_zero h (by omega))).2 ⟨?_, ?_⟩
  · rw [Nat.pow_add]; exact Nat.mul_le_mul_right _ h1.1
  · rw [show N.log2 + p + 1 = N.log2 + 1 + p by omega, Nat.pow_add]
    exact Nat.mul_lt_mul_of_pos_right h1.2 hp

theorem cut_exact (way : Ieee.Toward) (neg : Bool) (k d : Nat) : way.cut neg (k * 2 ^ d) d = k := by
  by_cases hk : k = 0
  · subst hk
    unfold Ieee.Toward.cut
    rw [Nat.zero_mul]
    dsimp only
    have hg : 0 < 1 <<< min d (Nat.log2 0 + 2) := by rw [Nat.one_shiftLeft]; exact Nat.two_pow_pos _
    generalize 1 <<< min d (Nat.log2 0 + 2) = g at *
    rw [Nat.zero_div, Nat.zero_mod]
    have e : (g == 2 * 0) = false := by simp; omega
    cases way <;> simp
  · unfold Ieee.Toward.cut
    have hl := log2_shift hk d
    rw [hl, Nat.min_eq_left (by omega), Nat.one_shiftLeft]
    have hp := Nat.two_pow_pos d
    dsimp only
    rw [Nat.mul_div_cancel _ hp, Nat.mul_mod_left]
    have e : (2 ^ d == 2 * 0) = false := by simp
    cases way <;> simp

/-- How far the last digit of the word of 'N' stands below the unit. -/
def FP (N : Nat) : Nat := if N = 0 then 1074 else 52 - N.log2
/-- The word of 'N'. -/
def FL (N : Nat) : Nat := if N = 0 then 0 else (N.log2 + 1022) * 2 ^ 52 + N * 2 ^ (52 - N.log2)

theorem fl_bd {N : Nat} (h0 : N ≠ 0) (h : N < 2 ^ 53) : N.log2 ≤ 52 ∧ 2 ^ 52 ≤ N * 2 ^ (52 - N.log2) ∧ N * 2 ^ (52 - N.log2) < 2 ^ 53 := by
  have h1 := (Nat.log2_eq_iff h0).1 rfl
  have h2 : N.log2 < 53 := (Nat.log2_lt h0).2 h
  have hp := Nat.two_pow_pos (52 - N.log2)
  refine ⟨by omega, ?_, ?_⟩
  · calc 2 ^ 52 = 2 ^ N.log2 * 2 ^ (52 - N.log2) := by rw [← Nat.pow_add]; congr 1; omega
      _ ≤ _ := Nat.mul_le_mul_right _ h1.1
  · calc N * 2 ^ (52 - N.log2) < 2 ^ (N.log2 + 1) * 2 ^ (52 - N.log2) := Nat.mul_lt_mul_of_pos_right h1.2 hp
      _ = 2 ^ 53 := by rw [← Nat.pow_add]; congr 1; omega

theorem d_least : Ieee.double.leastPlace = -1074 := rfl
theorem d_binade : Ieee.double.binade = 4503599627370496 := rfl
theorem d_inf : Ieee.double.infRung = 9218868437227405312 := rfl
theorem d_sign : Ieee.double.signWeight = 9223372036854775808 := rfl

theorem nearest_fl {N : Nat} (h : N < 2 ^ 53) (p : Nat) (_hp : p ≤ 1074) : Ieee.double.nearest false (N * 2 ^ p) (-(p : Int)) = FL N := by
  unfold FL
  by_cases h0 : N = 0
  · subst h0
    rw [Nat.zero_mul, if_pos rfl]; rfl
  · rw [if_neg h0]
    have hpp := Nat.two_pow_pos p
    obtain ⟨b1, b2, b3⟩ := fl_bd h0 h
    unfold Ieee.Format.nearest
    rw [if_neg (Nat.mul_ne_zero h0 (by omega)), log2_shift h0, d_least, d_binade, d_inf]
    have hl : max (-(p : Int) + ((N.log2 + p : Nat) : Int) - ((Ieee.double.fractionBits : Nat) : Int)) (-1074) = -((52 - N.log2 : Nat) : Int) := by
      have : Ieee.double.fractionBits = 52 := rfl
      rw [this]; omega
    dsimp only
    rw [hl]
    have hk : Ieee.Toward.even.cut false ((N * 2 ^ p) <<< (-(p : Int) - -((52 - N.log2 : Nat) : Int)).toNat) (-((52 - N.log2 : Nat) : Int) - -(p : Int)).toNat = N * 2 ^ (52 - N.log2) := by
      by_cases hc : p ≤ 52 - N.log2
      · rw [show (-((52 - N.log2 : Nat) : Int) - -(p : Int)).toNat = 0 by omega, show (-(p : Int) - -((52 - N.log2 : Nat) : Int)).toNat = 52 - N.log2 - p by omega, Nat.shiftLeft_eq]
        have := cut_exact .even false (N * 2 ^ p * 2 ^ (52 - N.log2 - p)) 0
        rw [Nat.pow_zero, Nat.mul_one] at this
        rw [this, Nat.mul_assoc, ← Nat.pow_add]
        congr 2; omega
      · rw [show (-((52 - N.log2 : Nat) : Int) - -(p : Int)).toNat = p - (52 - N.log2) by omega, show (-(p : Int) - -((52 - N.log2 : Nat) : Int)).toNat = 0 by omega, Nat.shiftLeft_zero]
        have := cut_exact .even false (N * 2 ^ (52 - N.log2)) (p - (52 - N.log2))
        rw [Nat.mul_assoc, ← Nat.pow_add, show 52 - N.log2 + (p - (52 - N.log2)) = p by omega] at this
        exact this
    rw [hk]
    have hl2 : (-((52 - N.log2 : Nat) : Int) - -1074).toNat = N.log2 + 1022 := by omega
    rw [hl2]
    generalize N * 2 ^ (52 - N.log2) = K at *
    unfold Ieee.Format.word
    rw [if_neg (by decide), Nat.min_eq_left]
    omega

theorem read_fl {N : Nat} (h : N < 2 ^ 53) : Ieee.double.read (FL N) = .number false (N * 2 ^ FP N) (-(FP N : Int)) := by
  by_cases h0 : N = 0
  · subst h0
    have e1 : FL 0 = 0 := if_pos rfl
    have e2 : FP 0 = 1074 := if_pos rfl
    rw [Nat.zero_mul, e1, e2]
    rfl
  · unfold FL FP
    rw [if_neg h0, if_neg h0]
    obtain ⟨b1, b2, b3⟩ := fl_bd h0 h
    generalize N * 2 ^ (52 - N.log2) = K at *
    generalize N.log2 = l at *
    unfold Ieee.Format.read
    rw [d_least, d_binade, d_inf, d_sign]
    have e0 : ((l + 1022) * 2 ^ 52 + K) % 9223372036854775808 = (l + 1022) * 2 ^ 52 + K := Nat.mod_eq_of_lt (by omega)
    have e1 : ((l + 1022) * 2 ^ 52 + K) / 9223372036854775808 = 0 := by omega
    have e2 : ((l + 1022) * 2 ^ 52 + K) % 4503599627370496 = K - 4503599627370496 := by omega
    have e3 : ((l + 1022) * 2 ^ 52 + K) / 4503599627370496 = l + 1023 := by omega
    dsimp only
    rw [e0, e1, e2, e3, if_neg (by omega), if_pos (by omega)]
    have e4 : 4503599627370496 + (K - 4503599627370496) = K := by omega
    have e5 : (-1074 + ((l + 1023 - 1 : Nat) : Int)) = -((52 - l : Nat) : Int) := by omega
    rw [e4, e5]
    rfl

theorem signed_false (m u : Nat) : Ieee.signed false m u = ((m * 2 ^ u : Nat) : Int) := by
  unfold Ieee.signed; rw [if_neg (by decide), Nat.shiftLeft_eq]

theorem FP_le (N : Nat) : FP N ≤ 1074 := by unfold FP; split <;> omega

/-- Both brought to one last place. -/
theorem fl_common (a b : Nat) : (-(max (FP a) (FP b) : Nat) : Int) = min (-(FP a : Int)) (-(FP b : Int)) ∧
    (a * 2 ^ FP a) * 2 ^ (-(FP a : Int) - -(max (FP a) (FP b) : Nat)).toNat = a * 2 ^ max (FP a) (FP b) ∧
    (b * 2 ^ FP b) * 2 ^ (-(FP b : Int) - -(max (FP a) (FP b) : Nat)).toNat = b * 2 ^ max (FP a) (FP b) := by
  refine ⟨by omega, ?_, ?_⟩
  · rw [Nat.mul_assoc, ← Nat.pow_add]; congr 2; omega
  · rw [Nat.mul_assoc, ← Nat.pow_add]; congr 2; omega

theorem add_fl {a b : Nat} (h : a + b < 2 ^ 53) : Ieee.double.add (FL a) (FL b) = some (FL (a + b)) := by
  unfold Ieee.Format.add
  rw [read_fl (by omega), read_fl (by omega)]
  obtain ⟨h1, h2, h3⟩ := fl_common a b
  unfold Ieee.Datum.sum
  dsimp only
  rw [← h1, signed_false, signed_false, h2, h3]
  have hle : max (FP a) (FP b) ≤ 1074 := by have := FP_le a; have := FP_le b; omega
  generalize max (FP a) (FP b) = p at *
  have e : ((a * 2 ^ p : Nat) : Int) + ((b * 2 ^ p : Nat) : Int) = (((a + b) * 2 ^ p : Nat) : Int) := by rw [Nat.add_mul]; omega
  rw [e]
  have hn : (if (((a + b) * 2 ^ p : Nat) : Int) = 0 then false && false else decide ((((a + b) * 2 ^ p : Nat) : Int) < 0)) = false := by
    split
    · rfl
    · exact decide_eq_false (Int.not_lt.2 (Int.natCast_nonneg _))
  rw [hn, Int.natAbs_natCast, Option.map_some]
  unfold Ieee.Format.write
  dsimp only
  rw [nearest_fl h p hle]

theorem order_fl {a b : Nat} (ha : a < 2 ^ 53) (hb : b < 2 ^ 53) : Ieee.double.order (FL a) (FL b) = some (compare a b) := by
  unfold Ieee.Format.order
  rw [read_fl ha, read_fl hb]
  obtain ⟨h1, h2, h3⟩ := fl_common a b
  unfold Ieee.Datum.order
  dsimp only
  rw [← h1, signed_false, signed_false, h2, h3]
  generalize max (FP a) (FP b) = p at *
  have hp := Nat.two_pow_pos p
  congr 1
  show compareOfLessAndEq _ _ = compareOfLessAndEq _ _
  unfold compareOfLessAndEq
  have e1 : ((a * 2 ^ p : Nat) : Int) < ((b * 2 ^ p : Nat) : Int) ↔ a < b := by
    rw [Int.ofNat_lt]; exact Nat.mul_lt_mul_right hp
  have e2 : ((a * 2 ^ p : Nat) : Int) = ((b * 2 ^ p : Nat) : Int) ↔ a = b := by
    rw [Int.ofNat_inj]; exact ⟨fun h => Nat.eq_of_mul_eq_mul_right hp h, fun h => by rw [h]⟩
  simp only [e1, e2]

theorem toInt_fl {a : Nat} (ha : a < 2 ^ 53) : (FloatKind.f64.decode (FL a)).toInt .zero = some (a : Int) := by
  show (Ieee.double.read (FL a)).toInt .zero = _
  rw [read_fl ha]
  unfold Ieee.Datum.toInt Ieee.Datum.integral
  dsimp only
  rw [show (-(FP a : Int)).toNat = 0 by omega, Nat.shiftLeft_zero, show (- -(FP a : Int)).toNat = FP a by omega, cut_exact, signed_false, Nat.pow_zero, Nat.mul_one]

theorem ofInt_fl {a : Nat} (ha : a < 2 ^ 53) : FloatKind.f64.nearest (a : Int) = FL a := by
  have h := nearest_fl ha 0 (by omega)
  rw [Nat.pow_zero, Nat.mul_one] at h
  unfold FloatKind.nearest FloatKind.encode
  rw [show decide ((a : Int) < 0) = false by simp, Int.natAbs_natCast]
  exact h
end Go.Proofs.Ytphicgdllhmgdaa
