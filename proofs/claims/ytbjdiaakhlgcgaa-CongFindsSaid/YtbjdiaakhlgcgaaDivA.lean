/- Leading zeros, and the digits of a quotient. -/
import Derived.Test.YtbjdiaakhlgcgaaCongD
import Derived.Lib.Strings
import Derived.Lib.Slices
import Derived.Lib.Small
import Derived.Lib.Walk
import Derived.Lib.BitFns
import Derived.Lib.ItoaNum
namespace Go.Proofs.Ytbjdiaakhlgcgaa
open Go.RowKit

theorem len8_get (y : Int) (h : y.toNat < Lib.len8tab.size) : ((Lib.len8tab[y.toNat]'h).toNat : Int) = Lib.len8 y := by
  unfold Lib.len8
  rw [getElem?_pos Lib.len8tab y.toNat h]
  rfl
theorem wrap_add8 (k a b : Nat) (hk : k ≤ 56) (ha : a ≤ 8) (hb : b = k + a) : wrap64 ((k : Int) + wrap64 (a : Int)) = (b : Int) := by
  unfold wrap64
  omega
theorem wrap_wrap8 (a : Nat) (ha : a ≤ 8) : wrap64 (wrap64 (a : Int)) = (a : Int) := by
  unfold wrap64
  omega

set_option maxHeartbeats 4000000 in
set_option maxRecDepth 100000 in
theorem bits_len64 (x : Int) (w : World) (h0 : 0 ≤ x) (h1 : x ≤ 18446744073709551615) :
    Calls Try.prog 79 #[.int .u64 x] w fun e w' => e = .returned (.int .i64 (Lib.bitLen x.toNat)) ∧ w = w' := by
  go_enter Try.func79, Try.ntmps79
  go_wp2
  all_goals first
    | (go_ret; refine ⟨congrArg Ending.returned (congrArg (Value.int IntKind.i64) ?_), rfl⟩)
    | (exfalso
       have hs := Lib.len8tab_size
       omega)
  all_goals first
    | (rw [len8_get (x / 4294967296 / 65536 / 256) _, Lib.len8_of (x / 4294967296 / 65536 / 256) (by omega) (by omega)]
       have e : (x / 4294967296 / 65536 / 256).toNat = x.toNat / 72057594037927936 := by omega
       have l := Lib.bitLen_le8' (x / 4294967296 / 65536 / 256) (by omega) (by omega)
       have s := Lib.bitLen_shift56 x.toNat (by omega) (by omega)
       rw [e] at l ⊢
       exact wrap_add8 56 _ _ (by decide) l s)
    | (rw [len8_get (x / 4294967296 / 65536) _, Lib.len8_of (x / 4294967296 / 65536) (by omega) (by omega)]
       have e : (x / 4294967296 / 65536).toNat = x.toNat / 281474976710656 := by omega
       have l := Lib.bitLen_le8' (x / 4294967296 / 65536) (by omega) (by omega)
       have s := Lib.bitLen_shift48 x.toNat (by omega) (by omega)
       rw [e] at l ⊢
       exact wrap_add8 48 _ _ (by decide) l s)
    | (rw [len8_get (x / 4294967296 / 256) _, Lib.len8_of (x / 4294967296 / 256) (by omega) (by omega)]
       have e : (x / 4294967296 / 256).toNat = x.toNat / 1099511627776 := by omega
       have l := Lib.bitLen_le8' (x / 4294967296 / 256) (by omega) (by omega)
       have s := Lib.bitLen_shift40 x.toNat (by omega) (by omega)
       rw [e] at l ⊢
       exact wrap_add8 40 _ _ (by decide) l s)
    | (rw [len8_get (x / 4294967296) _, Lib.len8_of (x / 4294967296) (by omega) (by omega)]
       have e : (x / 4294967296).toNat = x.toNat / 4294967296 := by omega
       have l := Lib.bitLen_le8' (x / 4294967296) (by omega) (by omega)
       have s := Lib.bitLen_shift32 x.toNat (by omega) (by omega)
       rw [e] at l ⊢
       exact wrap_add8 32 _ _ (by decide) l s)
    | (rw [len8_get (x / 65536 / 256) _, Lib.len8_of (x / 65536 / 256) (by omega) (by omega)]
       have e : (x / 65536 / 256).toNat = x.toNat / 16777216 := by omega
       have l := Lib.bitLen_le8' (x / 65536 / 256) (by omega) (by omega)
       have s := Lib.bitLen_shift24 x.toNat (by omega) (by omega)
       rw [e] at l ⊢
       exact wrap_add8 24 _ _ (by decide) l s)
    | (rw [len8_get (x / 65536) _, Lib.len8_of (x / 65536) (by omega) (by omega)]
       have e : (x / 65536).toNat = x.toNat / 65536 := by omega
       have l := Lib.bitLen_le8' (x / 65536) (by omega) (by omega)
       have s := Lib.bitLen_shift16 x.toNat (by omega) (by omega)
       rw [e] at l ⊢
       exact wrap_add8 16 _ _ (by decide) l s)
    | (rw [len8_get (x / 256) _, Lib.len8_of (x / 256) (by omega) (by omega)]
       have e : (x / 256).toNat = x.toNat / 256 := by omega
       have l := Lib.bitLen_le8' (x / 256) (by omega) (by omega)
       have s := Lib.bitLen_shift8 x.toNat (by omega) (by omega)
       rw [e] at l ⊢
       exact wrap_add8 8 _ _ (by decide) l s)
    | (rw [len8_get x _, Lib.len8_of x (by omega) (by omega)]
       exact wrap_wrap8 _ (Lib.bitLen_le8' x (by omega) (by omega)))

theorem bitLen_pos {n : Nat} (h : n ≠ 0) (h' : n < 18446744073709551616) : 1 ≤ Lib.bitLen n ∧ Lib.bitLen n ≤ 64 :=
  ⟨(Lib.bitLenAux_bounds 64 n h' h).1, Lib.bitLen_le n 64 (Nat.le_refl _) h'⟩
set_option maxHeartbeats 400000 in
theorem bits_lz64 (x : Int) (w : World) (h0 : 0 < x) (h1 : x ≤ 18446744073709551615) :
    Calls Try.prog 78 #[.int .u64 x] w fun e w' => e = .returned (.int .i64 (64 - Lib.bitLen x.toNat : Nat)) ∧ w = w' := by
  have HL := Lib.hid (fun w => bits_len64 x w (by omega) h1)
  have hb := bitLen_pos (n := x.toNat) (by omega) (by omega)
  generalize Lib.bitLen x.toNat = b at *
  go_enter Try.func78, Try.ntmps78
  go_wp2_with (go_at_call 79; (with_reducible refine (HL.out _).mono ?_); rintro e w1 ⟨rfl, rfl⟩)
  go_ret
  exact ⟨ret_int (by omega), rfl⟩

/-- What so many leading zeros say: moved up by them, a word has its highest bit. -/
theorem lz_spec {x : Int} (h0 : 0 < x) (h1 : x ≤ 18446744073709551615) : 9223372036854775808 ≤ x * 2 ^ (64 - Lib.bitLen x.toNat) ∧ x * 2 ^ (64 - Lib.bitLen x.toNat) < 18446744073709551616 := by
  have h2 := bitLen_pos (n := x.toNat) (by omega) (by omega)
  obtain ⟨_, h4, h3⟩ : 1 ≤ Lib.bitLen x.toNat ∧ 2 ^ (Lib.bitLen x.toNat - 1) ≤ x.toNat ∧ x.toNat < 2 ^ Lib.bitLen x.toNat := Lib.bitLenAux_bounds 64 x.toNat (by omega) (by omega)
  generalize Lib.bitLen x.toNat = b at *
  have e : (x : Int) = ((x.toNat : Nat) : Int) := by omega
  rw [e]
  generalize x.toNat = n at *
  have p := Nat.two_pow_pos (64 - b)
  have e1 : 2 ^ (b - 1) * 2 ^ (64 - b) = 9223372036854775808 := by rw [← Nat.pow_add, show b - 1 + (64 - b) = 63 by omega]
  have e2 : 2 ^ b * 2 ^ (64 - b) = 18446744073709551616 := by rw [← Nat.pow_add, show b + (64 - b) = 64 by omega]
  have g1 := Nat.mul_le_mul_right (2 ^ (64 - b)) h4
  have g2 := Nat.mul_lt_mul_of_pos_right h3 p
  have e3 : (n : Int) * 2 ^ (64 - b) = ((n * 2 ^ (64 - b) : Nat) : Int) := by rw [Int.natCast_mul, Int.natCast_pow]; rfl
  rw [e3]
  omega

/-- A digit of a quotient by y, behind the digits u, with the next digit d. -/
def qdg (u d y : Int) : Int := (u * 4294967296 + d) / y
theorem qdg_lt {u d y : Int} (hy : 0 < y) (hu : u < y) (hd : d < 4294967296) : qdg u d y < 4294967296 := by
  unfold qdg
  refine Int.ediv_lt_of_lt_mul hy ?_
  omega
theorem qdg_le {u d y q : Int} (hy : 0 < y) : q ≤ qdg u d y ↔ q * y ≤ u * 4294967296 + d := Int.le_ediv_iff_mul_le hy
/-- Where the test strikes, the digit is too great. -/
theorem qdg_test {u d y y1 y0 q r : Int} (hy : 0 < y) (hyy : y = y1 * 4294967296 + y0) (hr : r = u - q * y1) (h : 4294967296 * r + d < q * y0) : qdg u d y ≤ q - 1 := by
  have h1 : ¬ q ≤ qdg u d y := by
    rw [qdg_le hy, hyy, Int.mul_add]
    have : q * (y1 * 4294967296) = q * y1 * 4294967296 := (Int.mul_assoc _ _ _).symm
    rw [this]
    omega
  omega
theorem qdg_stop {u d y y1 y0 q r : Int} (hy : 0 < y) (hyy : y = y1 * 4294967296 + y0) (hr : r = u - q * y1) (h : q * y0 ≤ 4294967296 * r + d) : q ≤ qdg u d y := by
  rw [qdg_le hy, hyy, Int.mul_add]
  have : q * (y1 * 4294967296) = q * y1 * 4294967296 := (Int.mul_assoc _ _ _).symm
  rw [this]
  omega
theorem qdg_break {u d y y1 y0 q r : Int} (hy : 0 < y) (hyy : y = y1 * 4294967296 + y0) (hr : r = u - q * y1) (hd : 0 ≤ d) (h0 : 0 ≤ y0) (h1 : y0 < 4294967296) (hq : q ≤ 4294967296) (_hq0 : 0 ≤ q) (h : 4294967296 ≤ r) : q ≤ qdg u d y := by
  refine qdg_stop hy hyy hr ?_
  have : q * y0 ≤ 4294967296 * y0 := Int.mul_le_mul_of_nonneg_right hq h0
  omega
/-- The first guess: no less than the digit, and by little more. -/
theorem qdg_first {u d y y1 y0 : Int} (hu : 0 ≤ u) (huy : u < y) (hyy : y = y1 * 4294967296 + y0) (h0 : 0 ≤ y0) (h1 : y0 < 4294967296) (hd : d < 4294967296) (h2 : 2147483648 ≤ y1) :
    qdg u d y ≤ u / y1 ∧ u / y1 ≤ 4294967297 ∧ 0 ≤ u / y1 ∧ u - u / y1 * y1 = u % y1 := by
  have e := Int.mul_ediv_add_emod u y1
  have e1 := Int.emod_nonneg u (show y1 ≠ 0 by omega)
  have e2 := Int.emod_lt_of_pos u (show 0 < y1 by omega)
  have q0 : 0 ≤ u / y1 := Int.ediv_nonneg hu (by omega)
  refine ⟨?_, ?_, q0, by rw [Int.mul_comm]; omega⟩
  · have h3 : ¬ u / y1 + 1 ≤ qdg u d y := by
      rw [qdg_le (by omega), hyy, Int.mul_add]
      have h4 : (u / y1 + 1) * (y1 * 4294967296) = (u / y1 + 1) * y1 * 4294967296 := (Int.mul_assoc _ _ _).symm
      have h5 : 0 ≤ (u / y1 + 1) * y0 := Int.mul_nonneg (by omega) h0
      have h6 : (u / y1 + 1) * y1 = y1 * (u / y1) + y1 := by rw [Int.add_mul, Int.one_mul, Int.mul_comm]
      rw [h4, h6]
      omega
    omega
  · have h3 : ¬ 4294967298 ≤ u / y1 := fun h => by
      have := Int.mul_le_mul_of_nonneg_left h (show 0 ≤ y1 by omega)
      omega
    omega
end Go.Proofs.Ytbjdiaakhlgcgaa
