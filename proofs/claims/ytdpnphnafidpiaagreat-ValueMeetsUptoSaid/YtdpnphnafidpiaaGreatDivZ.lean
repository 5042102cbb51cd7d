/- Texts DivA, DivB, DivC. -/
import Derived.Test.YtdpnphnafidpiaaGreatCongD
import Derived.Lib.Strings
import Derived.Lib.Slices
import Derived.Lib.Small
import Derived.Lib.Walk
import Derived.Lib.BitFns
import Derived.Lib.ItoaNum
import Derived.Laws.BitsAll
import Derived.Laws.BitsAllLaws
/- Leading zeros, and the digits of a quotient. -/
namespace Go.Proofs.YtdpnphnafidpiaaGreat
open Go.RowKit

theorem len8_get (y : Int) (h : y.toNat < Lib.len8tab.size) : ((Lib.len8tab[y.toNat]'h).toNat : Int) = Lib.len8 y := by
  unfold Lib.len8
  rw [getElem?_pos Lib.len8tab y.toNat h]
  rfl
theorem wrap_add8 (k a b : Nat) (hk : k ≤ 56) (ha : a ≤ 8) (hb : b = k + a) : wrap64 ((k : Int) + wrap64 (a : Int)) = (b : Int) := by
  unfold wrap64
  omega
theorem wrap_wrap8 (a : Nat) (ha : a ≤ 8) : wrap64 (wrap64 (a : Int)) = (a : Int) := by
  unfold wrap64
  omega

set_option maxHeartbeats 4000000 in
set_option maxRecDepth 100000 in
theorem bits_len64 (x : Int) (w : World) (h0 : 0 ≤ x) (h1 : x ≤ 18446744073709551615) :
    Calls Tryz.prog 128 #[.int .u64 x] w fun e w' => e = .returned (.int .i64 (Lib.bitLen x.toNat)) ∧ w = w' := by
  go_enter Tryz.func128, Tryz.ntmps128
  go_wp2
  all_goals first
    | (go_ret; refine ⟨congrArg Ending.returned (congrArg (Value.int IntKind.i64) ?_), rfl⟩)
    | (exfalso
       have hs := Lib.len8tab_size
       omega)
  all_goals first
    | (rw [len8_get (x / 4294967296 / 65536 / 256) _, Lib.len8_of (x / 4294967296 / 65536 / 256) (by omega) (by omega)]
       have e : (x / 4294967296 / 65536 / 256).toNat = x.toNat / 72057594037927936 := by omega
       have l := Lib.bitLen_le8' (x / 4294967296 / 65536 / 256) (by omega) (by omega)
       have s := Lib.bitLen_shift56 x.toNat (by omega) (by omega)
       rw [e] at l ⊢
       exact wrap_add8 56 _ _ (by decide) l s)
    | (rw [len8_get (x / 4294967296 / 65536) _, Lib.len8_of (x / 4294967296 / 65536) (by omega) (by omega)]
       have e : (x / 4294967296 / 65536).toNat = x.toNat / 281474976710656 := by omega
       have l := Lib.bitLen_le8' (x / 4294967296 / 65536) (by omega) (by omega)
       have s := Lib.bitLen_shift48 x.toNat (by omega) (by omega)
       rw [e] at l ⊢
       exact wrap_add8 48 _ _ (by decide) l s)
    | (rw [len8_get (x / 4294967296 / 256) _, Lib.len8_of (x / 4294967296 / 256) (by omega) (by omega)]
       have e : (x / 4294967296 / 256).toNat = x.toNat / 1099511627776 := by omega
       have l := Lib.bitLen_le8' (x / 4294967296 / 256) (by omega) (by omega)
       have s := Lib.bitLen_shift40 x.toNat (by omega) (by omega)
       rw [e] at l ⊢
       exact wrap_add8 40 _ _ (by decide) l s)
    | (rw [len8_get (x / 4294967296) _, Lib.len8_of (x / 4294967296) (by omega) (by omega)]
       have e : (x / 4294967296).toNat = x.toNat / 4294967296 := by omega
       have l := Lib.bitLen_le8' (x / 4294967296) (by omega) (by omega)
       have s := Lib.bitLen_shift32 x.toNat (by omega) (by omega)
       rw [e] at l ⊢
       exact wrap_add8 32 _ _ (by decide) l s)
    | (rw [len8_get (x / 65536 / 256) _, Lib.len8_of (x / 65536 / 256) (by omega) (by omega)]
       have e : (x / 65536 / 256).toNat = x.toNat / 16777216 := by omega
       have l := Lib.bitLen_le8' (x / 65536 / 256) (by omega) (by omega)
       have s := Lib.bitLen_shift24 x.toNat (by omega) (by omega)
       rw [e] at l ⊢
       exact wrap_add8 24 _ _ (by decide) l s)
    | (rw [len8_get (x / 65536) _, Lib.len8_of (x / 65536) (by omega) (by omega)]
       have e : (x / 65536).toNat = x.toNat / 65536 := by omega
       have l := Lib.bitLen_le8' (x / 65536) (by omega) (by omega)
       have s := Lib.bitLen_shift16 x.toNat (by omega) (by omega)
       rw [e] at l ⊢
       exact wrap_add8 16 _ _ (by decide) l s)
    | (rw [len8_get (x / 256) _, Lib.len8_of (x / 256) (by omega) (by omega)]
       have e : (x / 256).toNat = x.toNat / 256 := by omega
       have l := Lib.bitLen_le8' (x / 256) (by omega) (by omega)
       have s := Lib.bitLen_shift8 x.toNat (by omega) (by omega)
       rw [e] at l ⊢
       exact wrap_add8 8 _ _ (by decide) l s)
    | (rw [len8_get x _, Lib.len8_of x (by omega) (by omega)]
       exact wrap_wrap8 _ (Lib.bitLen_le8' x (by omega) (by omega)))

theorem bitLen_pos {n : Nat} (h : n ≠ 0) (h' : n < 18446744073709551616) : 1 ≤ Lib.bitLen n ∧ Lib.bitLen n ≤ 64 :=
  ⟨(Lib.bitLenAux_bounds 64 n h' h).1, Lib.bitLen_le n 64 (Nat.le_refl _) h'⟩
set_option maxHeartbeats 400000 in
theorem bits_lz64 (x : Int) (w : World) (h0 : 0 < x) (h1 : x ≤ 18446744073709551615) :
    Calls Tryz.prog 137 #[.int .u64 x] w fun e w' => e = .returned (.int .i64 (64 - Lib.bitLen x.toNat : Nat)) ∧ w = w' := by
  have HL := Lib.hid (fun w => bits_len64 x w (by omega) h1)
  have hb := bitLen_pos (n := x.toNat) (by omega) (by omega)
  generalize Lib.bitLen x.toNat = b at *
  go_enter Tryz.func137, Tryz.ntmps137
  go_wp2_with (go_at_call 128; (with_reducible refine (HL.out _).mono ?_); rintro e w1 ⟨rfl, rfl⟩)
  go_ret
  exact ⟨ret_int (by omega), rfl⟩

/-- What so many leading zeros say: moved up by them, a word has its highest bit. -/
theorem lz_spec {x : Int} (h0 : 0 < x) (h1 : x ≤ 18446744073709551615) : 9223372036854775808 ≤ x * 2 ^ (64 - Lib.bitLen x.toNat) ∧ x * 2 ^ (64 - Lib.bitLen x.toNat) < 18446744073709551616 := by
  have h2 := bitLen_pos (n := x.toNat) (by omega) (by omega)
  obtain ⟨_, h4, h3⟩ : 1 ≤ Lib.bitLen x.toNat ∧ 2 ^ (Lib.bitLen x.toNat - 1) ≤ x.toNat ∧ x.toNat < 2 ^ Lib.bitLen x.toNat := Lib.bitLenAux_bounds 64 x.toNat (by omega) (by omega)
  generalize Lib.bitLen x.toNat = b at *
  have e : (x : Int) = ((x.toNat : Nat) : Int) := by omega
  rw [e]
  generalize x.toNat = n at *
  have p := Nat.two_pow_pos (64 - b)
  have e1 : 2 ^ (b - 1) * 2 ^ (64 - b) = 9223372036854775808 := by rw [← Nat.pow_add, show b - 1 + (64 - b) = 63 by omega]
  have e2 : 2 ^ b * 2 ^ (64 - b) = 18446744073709551616 := by rw [← Nat.pow_add, show b + (64 - b) = 64 by omega]
  have g1 := Nat.mul_le_mul_right (2 ^ (64 - b)) h4
  have g2 := Nat.mul_lt_mul_of_pos_right h3 p
  have e3 : (n : Int) * 2 ^ (64 - b) = ((n * 2 ^ (64 - b) : Nat) : Int) := by rw [Int.natCast_mul, Int.natCast_pow]; rfl
  rw [e3]
  omega

/-- A digit of a quotient by y, behind the digits u, with the next digit d. -/
def qdg (u d y : Int) : Int := (u * 4294967296 + d) / y
theorem qdg_lt {u d y : Int} (hy : 0 < y) (hu : u < y) (hd : d < 4294967296) : qdg u d y < 4294967296 := by
  unfold qdg
  refine Int.ediv_lt_of_lt_mul hy ?_
  omega
theorem qdg_le {u d y q : Int} (hy : 0 < y) : q ≤ qdg u d y ↔ q * y ≤ u * 4294967296 + d := Int.le_ediv_iff_mul_le hy
/-- Where the test strikes, the digit is too great. -/
theorem qdg_test {u d y y1 y0 q r : Int} (hy : 0 < y) (hyy : y = y1 * 4294967296 + y0) (hr : r = u - q * y1) (h : 4294967296 * r + d < q * y0) : qdg u d y ≤ q - 1 := by
  have h1 : ¬ q ≤ qdg u d y := by
    rw [qdg_le hy, hyy, Int.mul_add]
    have : q * (y1 * 4294967296) = q * y1 * 4294967296 := (Int.mul_assoc _ _ _).symm
    rw [this]
    omega
  omega
theorem qdg_stop {u d y y1 y0 q r : Int} (hy : 0 < y) (hyy : y = y1 * 4294967296 + y0) (hr : r = u - q * y1) (h : q * y0 ≤ 4294967296 * r + d) : q ≤ qdg u d y := by
  rw [qdg_le hy, hyy, Int.mul_add]
  have : q * (y1 * 4294967296) = q * y1 * 4294967296 := (Int.mul_assoc _ _ _).symm
  rw [this]
  omega
theorem qdg_break {u d y y1 y0 q r : Int} (hy : 0 < y) (hyy : y = y1 * 4294967296 + y0) (hr : r = u - q * y1) (hd : 0 ≤ d) (h0 : 0 ≤ y0) (h1 : y0 < 4294967296) (hq : q ≤ 4294967296) (_hq0 : 0 ≤ q) (h : 4294967296 ≤ r) : q ≤ qdg u d y := by
  refine qdg_stop hy hyy hr ?_
  have : q * y0 ≤ 4294967296 * y0 := Int.mul_le_mul_of_nonneg_right hq h0
  omega
/-- The first guess: no less than the digit, and by little more. -/
theorem qdg_first {u d y y1 y0 : Int} (hu : 0 ≤ u) (huy : u < y) (hyy : y = y1 * 4294967296 + y0) (h0 : 0 ≤ y0) (h1 : y0 < 4294967296) (hd : d < 4294967296) (h2 : 2147483648 ≤ y1) :
    qdg u d y ≤ u / y1 ∧ u / y1 ≤ 4294967297 ∧ 0 ≤ u / y1 ∧ u - u / y1 * y1 = u % y1 := by
  have e := Int.mul_ediv_add_emod u y1
  have e1 := Int.emod_nonneg u (show y1 ≠ 0 by omega)
  have e2 := Int.emod_lt_of_pos u (show 0 < y1 by omega)
  have q0 : 0 ≤ u / y1 := Int.ediv_nonneg hu (by omega)
  refine ⟨?_, ?_, q0, by rw [Int.mul_comm]; omega⟩
  · have h3 : ¬ u / y1 + 1 ≤ qdg u d y := by
      rw [qdg_le (by omega), hyy, Int.mul_add]
      have h4 : (u / y1 + 1) * (y1 * 4294967296) = (u / y1 + 1) * y1 * 4294967296 := (Int.mul_assoc _ _ _).symm
      have h5 : 0 ≤ (u / y1 + 1) * y0 := Int.mul_nonneg (by omega) h0
      have h6 : (u / y1 + 1) * y1 = y1 * (u / y1) + y1 := by rw [Int.add_mul, Int.one_mul, Int.mul_comm]
      rw [h4, h6]
      omega
    omega
  · have h3 : ¬ 4294967298 ≤ u / y1 := fun h => by
      have := Int.mul_le_mul_of_nonneg_left h (show 0 ≤ y1 by omega)
      omega
    omega
end Go.Proofs.YtdpnphnafidpiaaGreat

/- A quotient of two words by one. -/
namespace Go.Proofs.YtdpnphnafidpiaaGreat
open Go.RowKit

theorem qdg_rest {u d y : Int} (hy : 0 < y) : 0 ≤ u * 4294967296 + d - qdg u d y * y ∧ u * 4294967296 + d - qdg u d y * y < y := by
  have e := Int.mul_ediv_add_emod (u * 4294967296 + d) y
  have e1 := Int.emod_nonneg (u * 4294967296 + d) (show y ≠ 0 by omega)
  have e2 := Int.emod_lt_of_pos (u * 4294967296 + d) hy
  unfold qdg
  rw [Int.mul_comm ((u * 4294967296 + d) / y)]
  omega
theorem qdg_nonneg {u d y : Int} (hy : 0 < y) (hu : 0 ≤ u) (hd : 0 ≤ d) : 0 ≤ qdg u d y := Int.ediv_nonneg (by omega) (by omega)

/-- Two digits make the quotient. -/
theorem div_final {hi lo y p : Int} {s : Nat} (hs : s ≤ 64) (hp : (2 : Int) ^ s = p) (hhi : 0 ≤ hi) (hlo : 0 ≤ lo) (hlo2 : lo < 18446744073709551616) (hlt : hi < y) (_hy2 : y * p < 18446744073709551616) :
    0 < p ∧ 0 < y * p ∧ 0 ≤ hi * p ∧ hi * p + lo / 2 ^ (64 - s) < y * p ∧ 0 ≤ lo / 2 ^ (64 - s) ∧ lo / 2 ^ (64 - s) < p ∧ hi * p + p ≤ y * p ∧
    ∀ (un10 q1 r1 q0 r0 : Int), un10 = lo * p % 18446744073709551616 → q1 = qdg (hi * p + lo / 2 ^ (64 - s)) (un10 / 4294967296) (y * p) → r1 = (hi * p + lo / 2 ^ (64 - s)) * 4294967296 + un10 / 4294967296 - q1 * (y * p) →
      q0 = qdg r1 (un10 % 4294967296) (y * p) → r0 = r1 * 4294967296 + un10 % 4294967296 - q0 * (y * p) →
      (hi * 18446744073709551616 + lo) / y = q1 * 4294967296 + q0 ∧ (hi * 18446744073709551616 + lo) % y = r0 / p := by
  have hp0 : 0 < p := by rw [← hp]; exact Int.pow_pos (by omega)
  have hyp : 0 < y * p := Int.mul_pos (by omega) hp0
  have hh : 0 ≤ hi * p := Int.mul_nonneg hhi (by omega)
  have hk : (2 : Int) ^ (64 - s) * p = 18446744073709551616 := by
    rw [← hp, ← Int.pow_add, show 64 - s + s = 64 by omega]; rfl
  have hk0 : (0 : Int) < 2 ^ (64 - s) := Int.pow_pos (by omega)
  generalize (2 : Int) ^ (64 - s) = k at *
  have hl0 : 0 ≤ lo / k := Int.ediv_nonneg hlo (by omega)
  have hl1 : lo / k < p := Int.ediv_lt_of_lt_mul hk0 (by rw [Int.mul_comm]; omega)
  have hstep : hi * p + p ≤ y * p := by
    have := Int.mul_le_mul_of_nonneg_right (show hi + 1 ≤ y by omega) (show 0 ≤ p by omega)
    rw [Int.add_mul, Int.one_mul] at this; exact this
  refine ⟨hp0, hyp, hh, by omega, hl0, hl1, hstep, fun un10 q1 r1 q0 r0 e1 e2 e3 e4 e5 => ?_⟩
  have hy : 0 < y := by omega
  have hdiv : lo * p / 18446744073709551616 = lo / k := by
    rw [← hk]; exact Int.mul_ediv_mul_of_pos_left lo k hp0
  have hun : lo / k * 18446744073709551616 + un10 = lo * p := by
    rw [e1, ← hdiv]; omega
  have h0 := qdg_rest (u := r1) (d := un10 % 4294967296) hyp
  rw [← e4, ← e5] at h0
  have hN : (hi * 18446744073709551616 + lo) * p = (q1 * 4294967296 + q0) * (y * p) + r0 := by
    rw [Int.add_mul, Int.add_mul, Int.mul_right_comm q1 4294967296 (y * p), Int.mul_right_comm hi 18446744073709551616 p]
    generalize q1 * (y * p) = a at *
    generalize q0 * (y * p) = b at *
    omega
  have hr : r0 = (hi * 18446744073709551616 + lo - (q1 * 4294967296 + q0) * y) * p := by
    rw [Int.sub_mul, hN, Int.mul_assoc]; omega
  generalize hi * 18446744073709551616 + lo = n at *
  generalize q1 * 4294967296 + q0 = q at *
  have e6 : r0 / p = n - q * y := by rw [hr]; exact Int.mul_ediv_cancel _ (by omega)
  have g0 : 0 ≤ n - q * y := by
    rw [← e6]; exact Int.ediv_nonneg h0.1 (by omega)
  have g1 : n - q * y < y := by
    rw [← e6]; exact Int.ediv_lt_of_lt_mul hp0 h0.2
  have hc : y * q = q * y := Int.mul_comm _ _
  rw [e6]
  have u := Int.ediv_emod_unique hy (a := n) (r := n - q * y) (q := q)
  exact u.2 ⟨by rw [hc]; omega, g0, g1⟩

theorem or_add {a b : Int} {s : Nat} {p : Int} (hp : (2 : Int) ^ s = p) (ha : 0 ≤ a) (hb : 0 ≤ b) (hbp : b < p) (hs : a * p + b < 18446744073709551616) : bits .or .u64 (a * p) b = a * p + b := by
  have hp0 : 0 < p := by rw [← hp]; exact Int.pow_pos (by omega)
  have h0 : 0 ≤ a * p := Int.mul_nonneg ha (by omega)
  rw [u64_or (a * p) b h0 (by omega) hb (by omega)]
  have e : (a * p).toNat = 2 ^ s * a.toNat := by
    have : a * p = ((2 ^ s * a.toNat : Nat) : Int) := by
      rw [Int.natCast_mul, Int.natCast_pow, Int.toNat_of_nonneg ha, Int.mul_comm, ← hp]; rfl
    omega
  have hb2 : b.toNat < 2 ^ s := by
    have : ((2 ^ s : Nat) : Int) = p := by rw [Int.natCast_pow]; exact hp
    omega
  rw [e, ← Nat.two_pow_add_eq_or_of_lt hb2, ← e]
  omega

theorem and_mask {x : Int} (h0 : 0 ≤ x) (h1 : x < 18446744073709551616) : bits .and .u64 x 4294967295 = x % 4294967296 := by
  rw [u64_and x 4294967295 h0 h1 (by omega) (by omega)]
  have e : (4294967295 : Int).toNat = 2 ^ 32 - 1 := rfl
  rw [e, Nat.and_two_pow_sub_one_eq_mod]
  omega

def DivRel (u d y y1 : Int) (w : World) (vq vr : Value) (wx : World) : Prop :=
  ∃ q r : Int, vq = .int .u64 q ∧ vr = .int .u64 r ∧ r = u - q * y1 ∧ 0 ≤ r ∧ r < 4294967296 ∧ qdg u d y ≤ q ∧ 0 ≤ q ∧ q ≤ 4294967297 ∧ Below w.heap.size w wx

set_option maxRecDepth 100000 in
set_option maxHeartbeats 4000000 in
theorem bits_div64 (hi lo y : Int) (h0 : 0 < hi) (hlt : hi < y) (hlo : U64 lo) (hy : U64 y) (w : World) :
    Calls Tryz.prog 117 #[.int .u64 hi, .int .u64 lo, .int .u64 y] w fun e w' => e = .returned (.tuple #[.int .u64 ((hi * 18446744073709551616 + lo) / y), .int .u64 ((hi * 18446744073709551616 + lo) % y)]) ∧ Below w.heap.size w w' := by
  unfold U64 M64 at hlo hy
  have HZ := Lib.hid (fun w => bits_lz64 y w (by omega) (by omega))
  have hz := lz_spec (x := y) (by omega) (by omega)
  have hb := bitLen_pos (n := y.toNat) (by omega) (by omega)
  have hs : 64 - Lib.bitLen y.toNat ≤ 64 := by omega
  have hs2 : 64 - Lib.bitLen y.toNat < 64 := by omega
  generalize 64 - Lib.bitLen y.toNat = s at *
  clear hb
  generalize hpp : (2 : Int) ^ s = p at hz
  obtain ⟨p0, yp, hip, hun, l0, l1, hst, hfin⟩ := div_final (hi := hi) (lo := lo) (y := y) hs hpp (by omega) hlo.1 hlo.2 hlt hz.2
  have hor := or_add (a := hi) (b := lo / 2 ^ (64 - s)) hpp (by omega) l0 l1 (by omega)
  have c1 : (y == 0) = false := by simp; omega
  have c2 : decide (y ≤ hi) = false := by simp; omega
  have c3 : (hi == 0) = false := by simp; omega
  have hu0 : 0 ≤ hi * p + lo / 2 ^ (64 - s) := by omega
  have hwhi : IntKind.u64.wrap (hi * p) = hi * p := by rw [wrapu]; omega
  generalize hY : y * p = Y at *
  generalize hU : hi * p + lo / 2 ^ (64 - s) = U at hor hfin hun hu0
  have hand1 := and_mask (x := Y) (by omega) (by omega)
  have hw10 : IntKind.u64.wrap (lo * p) = lo * p % 18446744073709551616 := wrapu _
  generalize hu10 : lo * p % 18446744073709551616 = un10 at *
  have u10 : 0 ≤ un10 ∧ un10 < 18446744073709551616 := by omega
  have hand2 := and_mask (x := un10) u10.1 u10.2
  have HU10 := Lib.hid hu10.symm
  have HUU := Lib.hid hU
  clear hu10 hst l0 l1 hip hs hU
  generalize hy1 : Y / 4294967296 = y1 at *
  generalize hy0 : Y % 4294967296 = y0 at *
  generalize hn1 : un10 / 4294967296 = un1 at *
  generalize hn0 : un10 % 4294967296 = un0 at *
  obtain ⟨k1, k2, k3, k4⟩ := qdg_first (u := U) (d := un1) (y := Y) (y1 := y1) (y0 := y0) hu0 hun (by omega) (by omega) (by omega) (by omega) (by omega)
  have k5 := Int.emod_nonneg U (show y1 ≠ 0 by omega)
  have k6 := Int.emod_lt_of_pos U (show 0 < y1 by omega)
  have HFI := Lib.hid hfin
  clear hfin
  have hqt : U.tdiv y1 = U / y1 := Int.tdiv_eq_ediv_of_nonneg hu0
  have hqn : 0 ≤ U / y1 * y1 := Int.mul_nonneg k3 (by omega)
  generalize hqa : U / y1 = qa at *
  generalize hra : U % y1 = ra at *
  have hwq : IntKind.u64.wrap qa = qa := by rw [wrapu]; omega
  have hm1 : IntKind.u64.wrap (qa * y1) = qa * y1 := by rw [wrapu]; omega
  have hm2 : IntKind.u64.wrap (U - qa * y1) = ra := by rw [wrapu]; omega
  generalize hqy : qa * y1 = qy at *
  go_enter Tryz.func117, Tryz.ntmps117
  go_wp2_with (go_at_call 137; (with_reducible refine (HZ.out _).mono ?_); rintro e w1 ⟨rfl, rfl⟩)
  go_loopw [15, 16] (fun vq vr wx => DivRel U un1 Y y1 w vq vr wx) (fun vq _ _ => (intOf vq).toNat)
  case atStart => exact ⟨qa, ra, rfl, rfl, by rw [hqy]; omega, k5, by omega, k1, k3, k2, (by repeat (first | (with_reducible assumption) | (with_reducible exact Below.refl _ _) | (with_reducible refine Below.alloc ?_ (by first | omega | (simp; omega) | (simp; done) | (dsimp only; omega)) _) | (with_reducible refine Below.setCell ?_ (by first | omega | (simp; omega) | (simp; done) | (dsimp only; omega)) _) | (with_reducible refine Below.drew ?_) | (with_reducible refine Below.trans ?_ (Below.mono (by assumption) (by first | omega | (simp; omega) | (simp; done) | (dsimp only; omega))))))⟩
  case round =>
    obtain ⟨q, r, rfl, rfl, er, er0, erB, eq0, eq1, eq2, hB⟩ := hrel
    clear hm1 hm2 hqa hra hqy k1 k2 k3 k4 k5 k6 hqt hwq hqn hand1 hand2 hw10 hwhi hor c1 c2 c3
    have HYY := Lib.hid (show Y = y1 * 4294967296 + y0 by omega)
    have HER := Lib.hid er
    clear er
    by_cases t1 : 4294967296 ≤ q
    · have hlo' : qdg U un1 Y ≤ q - 1 := by
        have := qdg_lt (u := U) (d := un1) yp (by omega) (by omega)
        omega
      obtain ⟨q1, hq1⟩ : ∃ q1, q1 = q - 1 := ⟨_, rfl⟩
      have s1 : IntKind.u64.wrap (q - 1) = q1 := by rw [wrapu]; omega
      have s2 : IntKind.u64.wrap (r + y1) = r + y1 := by rw [wrapu]; omega
      have ER := Lib.hid (show r + y1 = U - q1 * y1 by have := HER.out; rw [hq1, Int.sub_mul, Int.one_mul]; omega)
      have HQ1 := Lib.hid hq1
      have l1 : qdg U un1 Y ≤ q1 ∧ 0 ≤ q1 ∧ q1 ≤ 4294967296 ∧ q1 < q := by omega
      clear hq1
      by_cases t3 : 4294967296 ≤ r + y1
      · have heq : q1 = qdg U un1 Y := by
          have := qdg_break (d := un1) yp HYY.out ER.out (by omega) (by omega) (by omega) (by omega) (by omega) t3
          omega
        clear HQ1 hlo'
        clear er0 erB eq0 eq1 eq2
        have d1 := qdg_rest (u := U) (d := un1) (y := Y) yp
        have b1 := qdg_lt (u := U) (d := un1) yp hun (by omega)
        have b2 := qdg_nonneg (u := U) (d := un1) yp hu0 (by omega)
        rw [← heq] at d1 b1 b2
        have HFIN : Hid (∀ q0 r0 : Int, q0 = qdg (U * 4294967296 + un1 - q1 * Y) un0 Y → r0 = (U * 4294967296 + un1 - q1 * Y) * 4294967296 + un0 - q0 * Y → (hi * 18446744073709551616 + lo) / y = q1 * 4294967296 + q0 ∧ (hi * 18446744073709551616 + lo) % y = r0 / p) :=
          Lib.hid (fun q0 r0 e e' => HFI.out un10 q1 _ q0 r0 rfl (by rw [hn1]; exact heq) (by rw [hn1]) (by rw [hn0]; exact e) (by rw [hn0]; exact e'))
        generalize q1 = Q1 at *
        generalize hr1 : U * 4294967296 + un1 - Q1 * Y = r1 at *
        generalize hg1 : IntKind.u64.wrap (U * 4294967296) = g1
        generalize hg2 : IntKind.u64.wrap (g1 + un1) = g2
        generalize hg3 : IntKind.u64.wrap (Q1 * Y) = g3
        have hg4 : IntKind.u64.wrap (g2 - g3) = r1 := by
          rw [wrapu] at hg1 hg2 hg3 ⊢
          generalize Q1 * Y = z at *
          omega
        clear hr1 heq
        obtain ⟨k1, k2, k3, k4⟩ := qdg_first (u := r1) (d := un0) (y := Y) (y1 := y1) (y0 := y0) d1.1 d1.2 HYY.out (by omega) (by omega) (by omega) (by omega)
        have k5 := Int.emod_nonneg r1 (show y1 ≠ 0 by omega)
        have k6 := Int.emod_lt_of_pos r1 (show 0 < y1 by omega)
        have hqt : r1.tdiv y1 = r1 / y1 := Int.tdiv_eq_ediv_of_nonneg d1.1
        have hqn : 0 ≤ r1 / y1 * y1 := Int.mul_nonneg k3 (by omega)
        generalize hqa : r1 / y1 = qa at *
        generalize hra : r1 % y1 = ra at *
        have hwq : IntKind.u64.wrap qa = qa := by rw [wrapu]; omega
        have hm1 : IntKind.u64.wrap (qa * y1) = qa * y1 := by rw [wrapu]; omega
        have hm2 : IntKind.u64.wrap (r1 - qa * y1) = ra := by rw [wrapu]; omega
        generalize hqy : qa * y1 = qy at *
        go_wp2
        go_loopw [18, 16] (fun vq vr wx => DivRel r1 un0 Y y1 w vq vr wx) (fun vq _ _ => (intOf vq).toNat)
        case atStart => exact ⟨qa, ra, rfl, rfl, by rw [hqy]; omega, k5, by omega, k1, k3, k2, hB⟩
        case round =>
          obtain ⟨q, r, rfl, rfl, er, er0, erB, eq0, eq1, eq2, hB2⟩ := hrel
          have HER := Lib.hid er
          clear er hm1 hm2 hqa hra hqy k1 k2 k3 k4 k5 k6 hqt hwq hqn hg1 hg2 hg3 hg4 hB
          by_cases t1 : 4294967296 ≤ q
          · have hlo' : qdg r1 un0 Y ≤ q - 1 := by
              have := qdg_lt (u := r1) (d := un0) yp (by omega) (by omega)
              omega
            obtain ⟨q1, hq1⟩ : ∃ q1, q1 = q - 1 := ⟨_, rfl⟩
            have s1 : IntKind.u64.wrap (q - 1) = q1 := by rw [wrapu]; omega
            have s2 : IntKind.u64.wrap (r + y1) = r + y1 := by rw [wrapu]; omega
            have ER := Lib.hid (show r + y1 = r1 - q1 * y1 by have := HER.out; rw [hq1, Int.sub_mul, Int.one_mul]; omega)
            have HQ1 := Lib.hid hq1
            have l1 : qdg r1 un0 Y ≤ q1 ∧ 0 ≤ q1 ∧ q1 ≤ 4294967296 ∧ q1 < q := by omega
            clear hq1
            by_cases t3 : 4294967296 ≤ r + y1
            · have heq : q1 = qdg r1 un0 Y := by
                have := qdg_break (d := un0) yp HYY.out ER.out (by omega) (by omega) (by omega) (by omega) (by omega) t3
                omega
              clear HQ1 hlo'
              clear er0 erB eq0 eq1 eq2
              have b0 := qdg_lt (u := r1) (d := un0) yp (by omega) (by omega)
              have b00 := qdg_nonneg (u := r1) (d := un0) yp (by omega) (by omega)
              rw [← heq] at b0 b00
              generalize q1 = q0 at *
              have d0 := qdg_rest (u := r1) (d := un0) (y := Y) yp
              rw [← heq] at d0
              have w0 : IntKind.u64.wrap (Q1 * 4294967296) = Q1 * 4294967296 := by rw [wrapu]; omega
              have w1 : IntKind.u64.wrap (Q1 * 4294967296 + q0) = Q1 * 4294967296 + q0 := by rw [wrapu]; omega
              obtain ⟨F1, F2⟩ := HFIN.out q0 _ heq rfl
              generalize hr0 : r1 * 4294967296 + un0 - q0 * Y = r0 at *
              generalize hg5 : IntKind.u64.wrap (r1 * 4294967296) = g5
              generalize hg6 : IntKind.u64.wrap (g5 + un0) = g6
              generalize hg7 : IntKind.u64.wrap (q0 * Y) = g7
              have hg8 : IntKind.u64.wrap (g6 - g7) = r0 := by
                rw [wrapu] at hg5 hg6 hg7 ⊢
                generalize q0 * Y = z at *
                omega
              have HF1 := Lib.hid F1; have HF2 := Lib.hid F2
              clear F1 F2 HFIN heq hr0 d0
              go_wp2
              go_ret2
              exact ⟨by rw [HF1.out, HF2.out]; rfl, (by repeat (first | (with_reducible assumption) | (with_reducible exact Below.refl _ _) | (with_reducible refine Below.alloc ?_ (by first | omega | (simp; omega) | (simp; done) | (dsimp only; omega)) _) | (with_reducible refine Below.setCell ?_ (by first | omega | (simp; omega) | (simp; done) | (dsimp only; omega)) _) | (with_reducible refine Below.drew ?_) | (with_reducible refine Below.trans ?_ (Below.mono (by assumption) (by first | omega | (simp; omega) | (simp; done) | (dsimp only; omega))))))⟩
            · go_wp2
              go_roundw
              case rel => exact ⟨q1, r + y1, rfl, rfl, ER.out, by omega, by omega, l1.1, l1.2.1, by omega, hB2⟩
              case measure => simp [intOf]; omega
          · have m0 : 0 ≤ q * y0 := Int.mul_nonneg eq1 (by omega)
            have m1 : q * y0 ≤ 4294967296 * y0 := Int.mul_le_mul_of_nonneg_right (by omega) (by omega)
            have s0 : IntKind.u64.wrap (q * y0) = q * y0 := by rw [wrapu]; omega
            have s0' : IntKind.u64.wrap (4294967296 * r) = 4294967296 * r := by rw [wrapu]; omega
            have s0'' : IntKind.u64.wrap (4294967296 * r + un0) = 4294967296 * r + un0 := by rw [wrapu]; omega
            by_cases t2 : 4294967296 * r + un0 < q * y0
            · have hlo' := qdg_test (d := un0) yp HYY.out HER.out t2
              have hlo0 := qdg_nonneg (u := r1) (d := un0) yp (by omega) (by omega)
              generalize hqq : q * y0 = qq at *
              obtain ⟨q1, hq1⟩ : ∃ q1, q1 = q - 1 := ⟨_, rfl⟩
              have s1 : IntKind.u64.wrap (q - 1) = q1 := by rw [wrapu]; omega
              have s2 : IntKind.u64.wrap (r + y1) = r + y1 := by rw [wrapu]; omega
              have ER := Lib.hid (show r + y1 = r1 - q1 * y1 by have := HER.out; rw [hq1, Int.sub_mul, Int.one_mul]; omega)
              have HQ1 := Lib.hid hq1
              have l1 : qdg r1 un0 Y ≤ q1 ∧ 0 ≤ q1 ∧ q1 ≤ 4294967296 ∧ q1 < q := by omega
              clear hq1
              by_cases t3 : 4294967296 ≤ r + y1
              · have heq : q1 = qdg r1 un0 Y := by
                  have := qdg_break (d := un0) yp HYY.out ER.out (by omega) (by omega) (by omega) (by omega) (by omega) t3
                  omega
                clear HQ1 hlo'
                clear er0 erB eq0 eq1 eq2
                have b0 := qdg_lt (u := r1) (d := un0) yp (by omega) (by omega)
                have b00 := qdg_nonneg (u := r1) (d := un0) yp (by omega) (by omega)
                rw [← heq] at b0 b00
                generalize q1 = q0 at *
                have d0 := qdg_rest (u := r1) (d := un0) (y := Y) yp
                rw [← heq] at d0
                have w0 : IntKind.u64.wrap (Q1 * 4294967296) = Q1 * 4294967296 := by rw [wrapu]; omega
                have w1 : IntKind.u64.wrap (Q1 * 4294967296 + q0) = Q1 * 4294967296 + q0 := by rw [wrapu]; omega
                obtain ⟨F1, F2⟩ := HFIN.out q0 _ heq rfl
                generalize hr0 : r1 * 4294967296 + un0 - q0 * Y = r0 at *
                generalize hg5 : IntKind.u64.wrap (r1 * 4294967296) = g5
                generalize hg6 : IntKind.u64.wrap (g5 + un0) = g6
                generalize hg7 : IntKind.u64.wrap (q0 * Y) = g7
                have hg8 : IntKind.u64.wrap (g6 - g7) = r0 := by
                  rw [wrapu] at hg5 hg6 hg7 ⊢
                  generalize q0 * Y = z at *
                  omega
                have HF1 := Lib.hid F1; have HF2 := Lib.hid F2
                clear F1 F2 HFIN heq hr0 d0
                go_wp2
                go_ret2
                exact ⟨by rw [HF1.out, HF2.out]; rfl, (by repeat (first | (with_reducible assumption) | (with_reducible exact Below.refl _ _) | (with_reducible refine Below.alloc ?_ (by first | omega | (simp; omega) | (simp; done) | (dsimp only; omega)) _) | (with_reducible refine Below.setCell ?_ (by first | omega | (simp; omega) | (simp; done) | (dsimp only; omega)) _) | (with_reducible refine Below.drew ?_) | (with_reducible refine Below.trans ?_ (Below.mono (by assumption) (by first | omega | (simp; omega) | (simp; done) | (dsimp only; omega))))))⟩
              · go_wp2
                go_roundw
                case rel => exact ⟨q1, r + y1, rfl, rfl, ER.out, by omega, by omega, l1.1, l1.2.1, by omega, hB2⟩
                case measure => simp [intOf]; omega
            · have heq : q = qdg r1 un0 Y := by
                have := qdg_stop (d := un0) yp HYY.out HER.out (by omega)
                omega
              generalize hqq : q * y0 = qq at *
              clear er0 erB eq0 eq1 eq2
              have b0 := qdg_lt (u := r1) (d := un0) yp (by omega) (by omega)
              have b00 := qdg_nonneg (u := r1) (d := un0) yp (by omega) (by omega)
              rw [← heq] at b0 b00
              generalize q = q0 at *
              have d0 := qdg_rest (u := r1) (d := un0) (y := Y) yp
              rw [← heq] at d0
              have w0 : IntKind.u64.wrap (Q1 * 4294967296) = Q1 * 4294967296 := by rw [wrapu]; omega
              have w1 : IntKind.u64.wrap (Q1 * 4294967296 + q0) = Q1 * 4294967296 + q0 := by rw [wrapu]; omega
              obtain ⟨F1, F2⟩ := HFIN.out q0 _ heq rfl
              generalize hr0 : r1 * 4294967296 + un0 - q0 * Y = r0 at *
              generalize hg5 : IntKind.u64.wrap (r1 * 4294967296) = g5
              generalize hg6 : IntKind.u64.wrap (g5 + un0) = g6
              generalize hg7 : IntKind.u64.wrap (q0 * Y) = g7
              have hg8 : IntKind.u64.wrap (g6 - g7) = r0 := by
                rw [wrapu] at hg5 hg6 hg7 ⊢
                generalize q0 * Y = z at *
                omega
              have HF1 := Lib.hid F1; have HF2 := Lib.hid F2
              clear F1 F2 HFIN heq hr0 d0
              go_wp2
              go_ret2
              exact ⟨by rw [HF1.out, HF2.out]; rfl, (by repeat (first | (with_reducible assumption) | (with_reducible exact Below.refl _ _) | (with_reducible refine Below.alloc ?_ (by first | omega | (simp; omega) | (simp; done) | (dsimp only; omega)) _) | (with_reducible refine Below.setCell ?_ (by first | omega | (simp; omega) | (simp; done) | (dsimp only; omega)) _) | (with_reducible refine Below.drew ?_) | (with_reducible refine Below.trans ?_ (Below.mono (by assumption) (by first | omega | (simp; omega) | (simp; done) | (dsimp only; omega))))))⟩
      · go_wp2
        go_roundw
        case rel => exact ⟨q1, r + y1, rfl, rfl, ER.out, by omega, by omega, l1.1, l1.2.1, by omega, hB⟩
        case measure => simp [intOf]; omega
    · have m0 : 0 ≤ q * y0 := Int.mul_nonneg eq1 (by omega)
      have m1 : q * y0 ≤ 4294967296 * y0 := Int.mul_le_mul_of_nonneg_right (by omega) (by omega)
      have s0 : IntKind.u64.wrap (q * y0) = q * y0 := by rw [wrapu]; omega
      have s0' : IntKind.u64.wrap (4294967296 * r) = 4294967296 * r := by rw [wrapu]; omega
      have s0'' : IntKind.u64.wrap (4294967296 * r + un1) = 4294967296 * r + un1 := by rw [wrapu]; omega
      by_cases t2 : 4294967296 * r + un1 < q * y0
      · have hlo' := qdg_test (d := un1) yp HYY.out HER.out t2
        have hlo0 := qdg_nonneg (u := U) (d := un1) yp (by omega) (by omega)
        generalize hqq : q * y0 = qq at *
        obtain ⟨q1, hq1⟩ : ∃ q1, q1 = q - 1 := ⟨_, rfl⟩
        have s1 : IntKind.u64.wrap (q - 1) = q1 := by rw [wrapu]; omega
        have s2 : IntKind.u64.wrap (r + y1) = r + y1 := by rw [wrapu]; omega
        have ER := Lib.hid (show r + y1 = U - q1 * y1 by have := HER.out; rw [hq1, Int.sub_mul, Int.one_mul]; omega)
        have HQ1 := Lib.hid hq1
        have l1 : qdg U un1 Y ≤ q1 ∧ 0 ≤ q1 ∧ q1 ≤ 4294967296 ∧ q1 < q := by omega
        clear hq1
        by_cases t3 : 4294967296 ≤ r + y1
        · have heq : q1 = qdg U un1 Y := by
            have := qdg_break (d := un1) yp HYY.out ER.out (by omega) (by omega) (by omega) (by omega) (by omega) t3
            omega
          clear HQ1 hlo'
          clear er0 erB eq0 eq1 eq2
          have d1 := qdg_rest (u := U) (d := un1) (y := Y) yp
          have b1 := qdg_lt (u := U) (d := un1) yp hun (by omega)
          have b2 := qdg_nonneg (u := U) (d := un1) yp hu0 (by omega)
          rw [← heq] at d1 b1 b2
          have HFIN : Hid (∀ q0 r0 : Int, q0 = qdg (U * 4294967296 + un1 - q1 * Y) un0 Y → r0 = (U * 4294967296 + un1 - q1 * Y) * 4294967296 + un0 - q0 * Y → (hi * 18446744073709551616 + lo) / y = q1 * 4294967296 + q0 ∧ (hi * 18446744073709551616 + lo) % y = r0 / p) :=
            Lib.hid (fun q0 r0 e e' => HFI.out un10 q1 _ q0 r0 rfl (by rw [hn1]; exact heq) (by rw [hn1]) (by rw [hn0]; exact e) (by rw [hn0]; exact e'))
          generalize q1 = Q1 at *
          generalize hr1 : U * 4294967296 + un1 - Q1 * Y = r1 at *
          generalize hg1 : IntKind.u64.wrap (U * 4294967296) = g1
          generalize hg2 : IntKind.u64.wrap (g1 + un1) = g2
          generalize hg3 : IntKind.u64.wrap (Q1 * Y) = g3
          have hg4 : IntKind.u64.wrap (g2 - g3) = r1 := by
            rw [wrapu] at hg1 hg2 hg3 ⊢
            generalize Q1 * Y = z at *
            omega
          clear hr1 heq
          obtain ⟨k1, k2, k3, k4⟩ := qdg_first (u := r1) (d := un0) (y := Y) (y1 := y1) (y0 := y0) d1.1 d1.2 HYY.out (by omega) (by omega) (by omega) (by omega)
          have k5 := Int.emod_nonneg r1 (show y1 ≠ 0 by omega)
          have k6 := Int.emod_lt_of_pos r1 (show 0 < y1 by omega)
          have hqt : r1.tdiv y1 = r1 / y1 := Int.tdiv_eq_ediv_of_nonneg d1.1
          have hqn : 0 ≤ r1 / y1 * y1 := Int.mul_nonneg k3 (by omega)
          generalize hqa : r1 / y1 = qa at *
          generalize hra : r1 % y1 = ra at *
          have hwq : IntKind.u64.wrap qa = qa := by rw [wrapu]; omega
          have hm1 : IntKind.u64.wrap (qa * y1) = qa * y1 := by rw [wrapu]; omega
          have hm2 : IntKind.u64.wrap (r1 - qa * y1) = ra := by rw [wrapu]; omega
          generalize hqy : qa * y1 = qy at *
          go_wp2
          go_loopw [18, 16] (fun vq vr wx => DivRel r1 un0 Y y1 w vq vr wx) (fun vq _ _ => (intOf vq).toNat)
          case atStart => exact ⟨qa, ra, rfl, rfl, by rw [hqy]; omega, k5, by omega, k1, k3, k2, hB⟩
          case round =>
            obtain ⟨q, r, rfl, rfl, er, er0, erB, eq0, eq1, eq2, hB2⟩ := hrel
            have HER := Lib.hid er
            clear er hm1 hm2 hqa hra hqy k1 k2 k3 k4 k5 k6 hqt hwq hqn hg1 hg2 hg3 hg4 hB
            by_cases t1 : 4294967296 ≤ q
            · have hlo' : qdg r1 un0 Y ≤ q - 1 := by
                have := qdg_lt (u := r1) (d := un0) yp (by omega) (by omega)
                omega
              obtain ⟨q1, hq1⟩ : ∃ q1, q1 = q - 1 := ⟨_, rfl⟩
              have s1 : IntKind.u64.wrap (q - 1) = q1 := by rw [wrapu]; omega
              have s2 : IntKind.u64.wrap (r + y1) = r + y1 := by rw [wrapu]; omega
              have ER := Lib.hid (show r + y1 = r1 - q1 * y1 by have := HER.out; rw [hq1, Int.sub_mul, Int.one_mul]; omega)
              have HQ1 := Lib.hid hq1
              have l1 : qdg r1 un0 Y ≤ q1 ∧ 0 ≤ q1 ∧ q1 ≤ 4294967296 ∧ q1 < q := by omega
              clear hq1
              by_cases t3 : 4294967296 ≤ r + y1
              · have heq : q1 = qdg r1 un0 Y := by
                  have := qdg_break (d := un0) yp HYY.out ER.out (by omega) (by omega) (by omega) (by omega) (by omega) t3
                  omega
                clear HQ1 hlo'
                clear er0 erB eq0 eq1 eq2
                have b0 := qdg_lt (u := r1) (d := un0) yp (by omega) (by omega)
                have b00 := qdg_nonneg (u := r1) (d := un0) yp (by omega) (by omega)
                rw [← heq] at b0 b00
                generalize q1 = q0 at *
                have d0 := qdg_rest (u := r1) (d := un0) (y := Y) yp
                rw [← heq] at d0
                have w0 : IntKind.u64.wrap (Q1 * 4294967296) = Q1 * 4294967296 := by rw [wrapu]; omega
                have w1 : IntKind.u64.wrap (Q1 * 4294967296 + q0) = Q1 * 4294967296 + q0 := by rw [wrapu]; omega
                obtain ⟨F1, F2⟩ := HFIN.out q0 _ heq rfl
                generalize hr0 : r1 * 4294967296 + un0 - q0 * Y = r0 at *
                generalize hg5 : IntKind.u64.wrap (r1 * 4294967296) = g5
                generalize hg6 : IntKind.u64.wrap (g5 + un0) = g6
                generalize hg7 : IntKind.u64.wrap (q0 * Y) = g7
                have hg8 : IntKind.u64.wrap (g6 - g7) = r0 := by
                  rw [wrapu] at hg5 hg6 hg7 ⊢
                  generalize q0 * Y = z at *
                  omega
                have HF1 := Lib.hid F1; have HF2 := Lib.hid F2
                clear F1 F2 HFIN heq hr0 d0
                go_wp2
                go_ret2
                exact ⟨by rw [HF1.out, HF2.out]; rfl, (by repeat (first | (with_reducible assumption) | (with_reducible exact Below.refl _ _) | (with_reducible refine Below.alloc ?_ (by first | omega | (simp; omega) | (simp; done) | (dsimp only; omega)) _) | (with_reducible refine Below.setCell ?_ (by first | omega | (simp; omega) | (simp; done) | (dsimp only; omega)) _) | (with_reducible refine Below.drew ?_) | (with_reducible refine Below.trans ?_ (Below.mono (by assumption) (by first | omega | (simp; omega) | (simp; done) | (dsimp only; omega))))))⟩
              · go_wp2
                go_roundw
                case rel => exact ⟨q1, r + y1, rfl, rfl, ER.out, by omega, by omega, l1.1, l1.2.1, by omega, hB2⟩
                case measure => simp [intOf]; omega
            · have m0 : 0 ≤ q * y0 := Int.mul_nonneg eq1 (by omega)
              have m1 : q * y0 ≤ 4294967296 * y0 := Int.mul_le_mul_of_nonneg_right (by omega) (by omega)
              have s0 : IntKind.u64.wrap (q * y0) = q * y0 := by rw [wrapu]; omega
              have s0' : IntKind.u64.wrap (4294967296 * r) = 4294967296 * r := by rw [wrapu]; omega
              have s0'' : IntKind.u64.wrap (4294967296 * r + un0) = 4294967296 * r + un0 := by rw [wrapu]; omega
              by_cases t2 : 4294967296 * r + un0 < q * y0
              · have hlo' := qdg_test (d := un0) yp HYY.out HER.out t2
                have hlo0 := qdg_nonneg (u := r1) (d := un0) yp (by omega) (by omega)
                generalize hqq : q * y0 = qq at *
                obtain ⟨q1, hq1⟩ : ∃ q1, q1 = q - 1 := ⟨_, rfl⟩
                have s1 : IntKind.u64.wrap (q - 1) = q1 := by rw [wrapu]; omega
                have s2 : IntKind.u64.wrap (r + y1) = r + y1 := by rw [wrapu]; omega
                have ER := Lib.hid (show r + y1 = r1 - q1 * y1 by have := HER.out; rw [hq1, Int.sub_mul, Int.one_mul]; omega)
                have HQ1 := Lib.hid hq1
                have l1 : qdg r1 un0 Y ≤ q1 ∧ 0 ≤ q1 ∧ q1 ≤ 4294967296 ∧ q1 < q := by omega
                clear hq1
                by_cases t3 : 4294967296 ≤ r + y1
                · have heq : q1 = qdg r1 un0 Y := by
                    have := qdg_break (d := un0) yp HYY.out ER.out (by omega) (by omega) (by omega) (by omega) (by omega) t3
                    omega
                  clear HQ1 hlo'
                  clear er0 erB eq0 eq1 eq2
                  have b0 := qdg_lt (u := r1) (d := un0) yp (by omega) (by omega)
                  have b00 := qdg_nonneg (u := r1) (d := un0) yp (by omega) (by omega)
                  rw [← heq] at b0 b00
                  generalize q1 = q0 at *
                  have d0 := qdg_rest (u := r1) (d := un0) (y := Y) yp
                  rw [← heq] at d0
                  have w0 : IntKind.u64.wrap (Q1 * 4294967296) = Q1 * 4294967296 := by rw [wrapu]; omega
                  have w1 : IntKind.u64.wrap (Q1 * 4294967296 + q0) = Q1 * 4294967296 + q0 := by rw [wrapu]; omega
                  obtain ⟨F1, F2⟩ := HFIN.out q0 _ heq rfl
                  generalize hr0 : r1 * 4294967296 + un0 - q0 * Y = r0 at *
                  generalize hg5 : IntKind.u64.wrap (r1 * 4294967296) = g5
                  generalize hg6 : IntKind.u64.wrap (g5 + un0) = g6
                  generalize hg7 : IntKind.u64.wrap (q0 * Y) = g7
                  have hg8 : IntKind.u64.wrap (g6 - g7) = r0 := by
                    rw [wrapu] at hg5 hg6 hg7 ⊢
                    generalize q0 * Y = z at *
                    omega
                  have HF1 := Lib.hid F1; have HF2 := Lib.hid F2
                  clear F1 F2 HFIN heq hr0 d0
                  go_wp2
                  go_ret2
                  exact ⟨by rw [HF1.out, HF2.out]; rfl, (by repeat (first | (with_reducible assumption) | (with_reducible exact Below.refl _ _) | (with_reducible refine Below.alloc ?_ (by first | omega | (simp; omega) | (simp; done) | (dsimp only; omega)) _) | (with_reducible refine Below.setCell ?_ (by first | omega | (simp; omega) | (simp; done) | (dsimp only; omega)) _) | (with_reducible refine Below.drew ?_) | (with_reducible refine Below.trans ?_ (Below.mono (by assumption) (by first | omega | (simp; omega) | (simp; done) | (dsimp only; omega))))))⟩
                · go_wp2
                  go_roundw
                  case rel => exact ⟨q1, r + y1, rfl, rfl, ER.out, by omega, by omega, l1.1, l1.2.1, by omega, hB2⟩
                  case measure => simp [intOf]; omega
              · have heq : q = qdg r1 un0 Y := by
                  have := qdg_stop (d := un0) yp HYY.out HER.out (by omega)
                  omega
                generalize hqq : q * y0 = qq at *
                clear er0 erB eq0 eq1 eq2
                have b0 := qdg_lt (u := r1) (d := un0) yp (by omega) (by omega)
                have b00 := qdg_nonneg (u := r1) (d := un0) yp (by omega) (by omega)
                rw [← heq] at b0 b00
                generalize q = q0 at *
                have d0 := qdg_rest (u := r1) (d := un0) (y := Y) yp
                rw [← heq] at d0
                have w0 : IntKind.u64.wrap (Q1 * 4294967296) = Q1 * 4294967296 := by rw [wrapu]; omega
                have w1 : IntKind.u64.wrap (Q1 * 4294967296 + q0) = Q1 * 4294967296 + q0 := by rw [wrapu]; omega
                obtain ⟨F1, F2⟩ := HFIN.out q0 _ heq rfl
                generalize hr0 : r1 * 4294967296 + un0 - q0 * Y = r0 at *
                generalize hg5 : IntKind.u64.wrap (r1 * 4294967296) = g5
                generalize hg6 : IntKind.u64.wrap (g5 + un0) = g6
                generalize hg7 : IntKind.u64.wrap (q0 * Y) = g7
                have hg8 : IntKind.u64.wrap (g6 - g7) = r0 := by
                  rw [wrapu] at hg5 hg6 hg7 ⊢
                  generalize q0 * Y = z at *
                  omega
                have HF1 := Lib.hid F1; have HF2 := Lib.hid F2
                clear F1 F2 HFIN heq hr0 d0
                go_wp2
                go_ret2
                exact ⟨by rw [HF1.out, HF2.out]; rfl, (by repeat (first | (with_reducible assumption) | (with_reducible exact Below.refl _ _) | (with_reducible refine Below.alloc ?_ (by first | omega | (simp; omega) | (simp; done) | (dsimp only; omega)) _) | (with_reducible refine Below.setCell ?_ (by first | omega | (simp; omega) | (simp; done) | (dsimp only; omega)) _) | (with_reducible refine Below.drew ?_) | (with_reducible refine Below.trans ?_ (Below.mono (by assumption) (by first | omega | (simp; omega) | (simp; done) | (dsimp only; omega))))))⟩
        · go_wp2
          go_roundw
          case rel => exact ⟨q1, r + y1, rfl, rfl, ER.out, by omega, by omega, l1.1, l1.2.1, by omega, hB⟩
          case measure => simp [intOf]; omega
      · have heq : q = qdg U un1 Y := by
          have := qdg_stop (d := un1) yp HYY.out HER.out (by omega)
          omega
        generalize hqq : q * y0 = qq at *
        clear er0 erB eq0 eq1 eq2
        have d1 := qdg_rest (u := U) (d := un1) (y := Y) yp
        have b1 := qdg_lt (u := U) (d := un1) yp hun (by omega)
        have b2 := qdg_nonneg (u := U) (d := un1) yp hu0 (by omega)
        rw [← heq] at d1 b1 b2
        have HFIN : Hid (∀ q0 r0 : Int, q0 = qdg (U * 4294967296 + un1 - q * Y) un0 Y → r0 = (U * 4294967296 + un1 - q * Y) * 4294967296 + un0 - q0 * Y → (hi * 18446744073709551616 + lo) / y = q * 4294967296 + q0 ∧ (hi * 18446744073709551616 + lo) % y = r0 / p) :=
          Lib.hid (fun q0 r0 e e' => HFI.out un10 q _ q0 r0 rfl (by rw [hn1]; exact heq) (by rw [hn1]) (by rw [hn0]; exact e) (by rw [hn0]; exact e'))
        generalize q = Q1 at *
        generalize hr1 : U * 4294967296 + un1 - Q1 * Y = r1 at *
        generalize hg1 : IntKind.u64.wrap (U * 4294967296) = g1
        generalize hg2 : IntKind.u64.wrap (g1 + un1) = g2
        generalize hg3 : IntKind.u64.wrap (Q1 * Y) = g3
        have hg4 : IntKind.u64.wrap (g2 - g3) = r1 := by
          rw [wrapu] at hg1 hg2 hg3 ⊢
          generalize Q1 * Y = z at *
          omega
        clear hr1 heq
        obtain ⟨k1, k2, k3, k4⟩ := qdg_first (u := r1) (d := un0) (y := Y) (y1 := y1) (y0 := y0) d1.1 d1.2 HYY.out (by omega) (by omega) (by omega) (by omega)
        have k5 := Int.emod_nonneg r1 (show y1 ≠ 0 by omega)
        have k6 := Int.emod_lt_of_pos r1 (show 0 < y1 by omega)
        have hqt : r1.tdiv y1 = r1 / y1 := Int.tdiv_eq_ediv_of_nonneg d1.1
        have hqn : 0 ≤ r1 / y1 * y1 := Int.mul_nonneg k3 (by omega)
        generalize hqa : r1 / y1 = qa at *
        generalize hra : r1 % y1 = ra at *
        have hwq : IntKind.u64.wrap qa = qa := by rw [wrapu]; omega
        have hm1 : IntKind.u64.wrap (qa * y1) = qa * y1 := by rw [wrapu]; omega
        have hm2 : IntKind.u64.wrap (r1 - qa * y1) = ra := by rw [wrapu]; omega
        generalize hqy : qa * y1 = qy at *
        go_wp2
        go_loopw [18, 16] (fun vq vr wx => DivRel r1 un0 Y y1 w vq vr wx) (fun vq _ _ => (intOf vq).toNat)
        case atStart => exact ⟨qa, ra, rfl, rfl, by rw [hqy]; omega, k5, by omega, k1, k3, k2, hB⟩
        case round =>
          obtain ⟨q, r, rfl, rfl, er, er0, erB, eq0, eq1, eq2, hB2⟩ := hrel
          have HER := Lib.hid er
          clear er hm1 hm2 hqa hra hqy k1 k2 k3 k4 k5 k6 hqt hwq hqn hg1 hg2 hg3 hg4 hB
          by_cases t1 : 4294967296 ≤ q
          · have hlo' : qdg r1 un0 Y ≤ q - 1 := by
              have := qdg_lt (u := r1) (d := un0) yp (by omega) (by omega)
              omega
            obtain ⟨q1, hq1⟩ : ∃ q1, q1 = q - 1 := ⟨_, rfl⟩
            have s1 : IntKind.u64.wrap (q - 1) = q1 := by rw [wrapu]; omega
            have s2 : IntKind.u64.wrap (r + y1) = r + y1 := by rw [wrapu]; omega
            have ER := Lib.hid (show r + y1 = r1 - q1 * y1 by have := HER.out; rw [hq1, Int.sub_mul, Int.one_mul]; omega)
            have HQ1 := Lib.hid hq1
            have l1 : qdg r1 un0 Y ≤ q1 ∧ 0 ≤ q1 ∧ q1 ≤ 4294967296 ∧ q1 < q := by omega
            clear hq1
            by_cases t3 : 4294967296 ≤ r + y1
            · have heq : q1 = qdg r1 un0 Y := by
                have := qdg_break (d := un0) yp HYY.out ER.out (by omega) (by omega) (by omega) (by omega) (by omega) t3
                omega
              clear HQ1 hlo'
              clear er0 erB eq0 eq1 eq2
              have b0 := qdg_lt (u := r1) (d := un0) yp (by omega) (by omega)
              have b00 := qdg_nonneg (u := r1) (d := un0) yp (by omega) (by omega)
              rw [← heq] at b0 b00
              generalize q1 = q0 at *
              have d0 := qdg_rest (u := r1) (d := un0) (y := Y) yp
              rw [← heq] at d0
              have w0 : IntKind.u64.wrap (Q1 * 4294967296) = Q1 * 4294967296 := by rw [wrapu]; omega
              have w1 : IntKind.u64.wrap (Q1 * 4294967296 + q0) = Q1 * 4294967296 + q0 := by rw [wrapu]; omega
              obtain ⟨F1, F2⟩ := HFIN.out q0 _ heq rfl
              generalize hr0 : r1 * 4294967296 + un0 - q0 * Y = r0 at *
              generalize hg5 : IntKind.u64.wrap (r1 * 4294967296) = g5
              generalize hg6 : IntKind.u64.wrap (g5 + un0) = g6
              generalize hg7 : IntKind.u64.wrap (q0 * Y) = g7
              have hg8 : IntKind.u64.wrap (g6 - g7) = r0 := by
                rw [wrapu] at hg5 hg6 hg7 ⊢
                generalize q0 * Y = z at *
                omega
              have HF1 := Lib.hid F1; have HF2 := Lib.hid F2
              clear F1 F2 HFIN heq hr0 d0
              go_wp2
              go_ret2
              exact ⟨by rw [HF1.out, HF2.out]; rfl, (by repeat (first | (with_reducible assumption) | (with_reducible exact Below.refl _ _) | (with_reducible refine Below.alloc ?_ (by first | omega | (simp; omega) | (simp; done) | (dsimp only; omega)) _) | (with_reducible refine Below.setCell ?_ (by first | omega | (simp; omega) | (simp; done) | (dsimp only; omega)) _) | (with_reducible refine Below.drew ?_) | (with_reducible refine Below.trans ?_ (Below.mono (by assumption) (by first | omega | (simp; omega) | (simp; done) | (dsimp only; omega))))))⟩
            · go_wp2
              go_roundw
              case rel => exact ⟨q1, r + y1, rfl, rfl, ER.out, by omega, by omega, l1.1, l1.2.1, by omega, hB2⟩
              case measure => simp [intOf]; omega
          · have m0 : 0 ≤ q * y0 := Int.mul_nonneg eq1 (by omega)
            have m1 : q * y0 ≤ 4294967296 * y0 := Int.mul_le_mul_of_nonneg_right (by omega) (by omega)
            have s0 : IntKind.u64.wrap (q * y0) = q * y0 := by rw [wrapu]; omega
            have s0' : IntKind.u64.wrap (4294967296 * r) = 4294967296 * r := by rw [wrapu]; omega
            have s0'' : IntKind.u64.wrap (4294967296 * r + un0) = 4294967296 * r + un0 := by rw [wrapu]; omega
            by_cases t2 : 4294967296 * r + un0 < q * y0
            · have hlo' := qdg_test (d := un0) yp HYY.out HER.out t2
              have hlo0 := qdg_nonneg (u := r1) (d := un0) yp (by omega) (by omega)
              generalize hqq : q * y0 = qq at *
              obtain ⟨q1, hq1⟩ : ∃ q1, q1 = q - 1 := ⟨_, rfl⟩
              have s1 : IntKind.u64.wrap (q - 1) = q1 := by rw [wrapu]; omega
              have s2 : IntKind.u64.wrap (r + y1) = r + y1 := by rw [wrapu]; omega
              have ER := Lib.hid (show r + y1 = r1 - q1 * y1 by have := HER.out; rw [hq1, Int.sub_mul, Int.one_mul]; omega)
              have HQ1 := Lib.hid hq1
              have l1 : qdg r1 un0 Y ≤ q1 ∧ 0 ≤ q1 ∧ q1 ≤ 4294967296 ∧ q1 < q := by omega
              clear hq1
              by_cases t3 : 4294967296 ≤ r + y1
              · have heq : q1 = qdg r1 un0 Y := by
                  have := qdg_break (d := un0) yp HYY.out ER.out (by omega) (by omega) (by omega) (by omega) (by omega) t3
                  omega
                clear HQ1 hlo'
                clear er0 erB eq0 eq1 eq2
                have b0 := qdg_lt (u := r1) (d := un0) yp (by omega) (by omega)
                have b00 := qdg_nonneg (u := r1) (d := un0) yp (by omega) (by omega)
                rw [← heq] at b0 b00
                generalize q1 = q0 at *
                have d0 := qdg_rest (u := r1) (d := un0) (y := Y) yp
                rw [← heq] at d0
                have w0 : IntKind.u64.wrap (Q1 * 4294967296) = Q1 * 4294967296 := by rw [wrapu]; omega
                have w1 : IntKind.u64.wrap (Q1 * 4294967296 + q0) = Q1 * 4294967296 + q0 := by rw [wrapu]; omega
                obtain ⟨F1, F2⟩ := HFIN.out q0 _ heq rfl
                generalize hr0 : r1 * 4294967296 + un0 - q0 * Y = r0 at *
                generalize hg5 : IntKind.u64.wrap (r1 * 4294967296) = g5
                generalize hg6 : IntKind.u64.wrap (g5 + un0) = g6
                generalize hg7 : IntKind.u64.wrap (q0 * Y) = g7
                have hg8 : IntKind.u64.wrap (g6 - g7) = r0 := by
                  rw [wrapu] at hg5 hg6 hg7 ⊢
                  generalize q0 * Y = z at *
                  omega
                have HF1 := Lib.hid F1; have HF2 := Lib.hid F2
                clear F1 F2 HFIN heq hr0 d0
                go_wp2
                go_ret2
                exact ⟨by rw [HF1.out, HF2.out]; rfl, (by repeat (first | (with_reducible assumption) | (with_reducible exact Below.refl _ _) | (with_reducible refine Below.alloc ?_ (by first | omega | (simp; omega) | (simp; done) | (dsimp only; omega)) _) | (with_reducible refine Below.setCell ?_ (by first | omega | (simp; omega) | (simp; done) | (dsimp only; omega)) _) | (with_reducible refine Below.drew ?_) | (with_reducible refine Below.trans ?_ (Below.mono (by assumption) (by first | omega | (simp; omega) | (simp; done) | (dsimp only; omega))))))⟩
              · go_wp2
                go_roundw
                case rel => exact ⟨q1, r + y1, rfl, rfl, ER.out, by omega, by omega, l1.1, l1.2.1, by omega, hB2⟩
                case measure => simp [intOf]; omega
            · have heq : q = qdg r1 un0 Y := by
                have := qdg_stop (d := un0) yp HYY.out HER.out (by omega)
                omega
              generalize hqq : q * y0 = qq at *
              clear er0 erB eq0 eq1 eq2
              have b0 := qdg_lt (u := r1) (d := un0) yp (by omega) (by omega)
              have b00 := qdg_nonneg (u := r1) (d := un0) yp (by omega) (by omega)
              rw [← heq] at b0 b00
              generalize q = q0 at *
              have d0 := qdg_rest (u := r1) (d := un0) (y := Y) yp
              rw [← heq] at d0
              have w0 : IntKind.u64.wrap (Q1 * 4294967296) = Q1 * 4294967296 := by rw [wrapu]; omega
              have w1 : IntKind.u64.wrap (Q1 * 4294967296 + q0) = Q1 * 4294967296 + q0 := by rw [wrapu]; omega
              obtain ⟨F1, F2⟩ := HFIN.out q0 _ heq rfl
              generalize hr0 : r1 * 4294967296 + un0 - q0 * Y = r0 at *
              generalize hg5 : IntKind.u64.wrap (r1 * 4294967296) = g5
              generalize hg6 : IntKind.u64.wrap (g5 + un0) = g6
              generalize hg7 : IntKind.u64.wrap (q0 * Y) = g7
              have hg8 : IntKind.u64.wrap (g6 - g7) = r0 := by
                rw [wrapu] at hg5 hg6 hg7 ⊢
                generalize q0 * Y = z at *
                omega
              have HF1 := Lib.hid F1; have HF2 := Lib.hid F2
              clear F1 F2 HFIN heq hr0 d0
              go_wp2
              go_ret2
              exact ⟨by rw [HF1.out, HF2.out]; rfl, (by repeat (first | (with_reducible assumption) | (with_reducible exact Below.refl _ _) | (with_reducible refine Below.alloc ?_ (by first | omega | (simp; omega) | (simp; done) | (dsimp only; omega)) _) | (with_reducible refine Below.setCell ?_ (by first | omega | (simp; omega) | (simp; done) | (dsimp only; omega)) _) | (with_reducible refine Below.drew ?_) | (with_reducible refine Below.trans ?_ (Below.mono (by assumption) (by first | omega | (simp; omega) | (simp; done) | (dsimp only; omega))))))⟩
end Go.Proofs.YtdpnphnafidpiaaGreat

/- The rest of two words by one. -/
namespace Go.Proofs.YtdpnphnafidpiaaGreat
open Go.RowKit

set_option maxHeartbeats 1000000 in
theorem bits_div64_0 (lo y : Int) (hlo : U64 lo) (hy : U64 y) (hy0 : 0 < y) (w : World) :
    Calls Tryz.prog 117 #[.int .u64 0, .int .u64 lo, .int .u64 y] w fun e w' => e = .returned (.tuple #[.int .u64 (lo / y), .int .u64 (lo % y)]) ∧ Below w.heap.size w w' := by
  unfold U64 M64 at hlo hy
  have c1 : (y == 0) = false := by simp; omega
  have c0 : ¬ y = 0 := by omega
  have c2 : decide (y ≤ 0) = false := by simp; omega
  have q0 : 0 ≤ lo / y := Int.ediv_nonneg hlo.1 hy.1
  have q1 : lo / y ≤ lo := Int.ediv_le_self _ hlo.1
  have m0 := Int.emod_nonneg lo c0
  have m1 := Int.emod_lt_of_pos lo hy0
  have e1 : lo.tdiv y = lo / y := Int.tdiv_eq_ediv_of_nonneg hlo.1
  have e2 : lo.tmod y = lo % y := Int.tmod_eq_emod_of_nonneg hlo.1
  generalize lo / y = q at *
  generalize lo % y = r at *
  have w1 : IntKind.u64.wrap q = q := by rw [wrapu]; omega
  have w2 : IntKind.u64.wrap r = r := by rw [wrapu]; omega
  go_enter Tryz.func117, Tryz.ntmps117
  go_wp2
  go_region
  go_wp2
  go_ret2
  exact ⟨rfl, (by repeat (first | (with_reducible assumption) | (with_reducible exact Below.refl _ _) | (with_reducible refine Below.alloc ?_ (by first | omega | (simp; omega) | (simp; done) | (dsimp only; omega)) _) | (with_reducible refine Below.setCell ?_ (by first | omega | (simp; omega) | (simp; done) | (dsimp only; omega)) _) | (with_reducible refine Below.drew ?_) | (with_reducible refine Below.trans ?_ (Below.mono (by assumption) (by first | omega | (simp; omega) | (simp; done) | (dsimp only; omega))))))⟩

set_option maxHeartbeats 1000000 in
theorem bits_rem64 (hi lo y : Int) (hhi : U64 hi) (hlo : U64 lo) (hy : U64 y) (hy0 : 0 < y) (w : World) :
    Calls Tryz.prog 111 #[.int .u64 hi, .int .u64 lo, .int .u64 y] w fun e w' => e = .returned (.int .u64 ((hi * 18446744073709551616 + lo) % y)) ∧ Below w.heap.size w w' := by
  have m0 := Int.emod_nonneg hi (show y ≠ 0 by omega)
  have m1 := Int.emod_lt_of_pos hi hy0
  have e2 : hi.tmod y = hi % y := Int.tmod_eq_emod_of_nonneg hhi.1
  have hd : ∃ q, ∀ w, Calls Tryz.prog 117 #[.int .u64 (hi % y), .int .u64 lo, .int .u64 y] w fun e w' => e = .returned (.tuple #[.int .u64 q, .int .u64 ((hi * 18446744073709551616 + lo) % y)]) ∧ Below w.heap.size w w' := by
    have e : (hi % y * 18446744073709551616 + lo) % y = (hi * 18446744073709551616 + lo) % y := by
      have h := Int.mul_ediv_add_emod hi y
      refine Int.emod_eq_emod_iff_emod_sub_eq_zero.2 (Int.emod_eq_zero_of_dvd ?_)
      have : hi % y * 18446744073709551616 + lo - (hi * 18446744073709551616 + lo) = y * (-(hi / y) * 18446744073709551616) := by
        rw [Int.neg_mul, Int.mul_neg, ← Int.mul_assoc]; omega
      rw [this]; exact Int.dvd_mul_right _ _
    by_cases h0 : hi % y = 0
    · refine ⟨lo / y, fun w => ?_⟩
      rw [← e, h0, Int.zero_mul, Int.zero_add]
      exact bits_div64_0 lo y hlo hy hy0 w
    · refine ⟨(hi % y * 18446744073709551616 + lo) / y, fun w => ?_⟩
      rw [← e]
      exact bits_div64 (hi % y) lo y (by omega) m1 hlo hy w
  obtain ⟨q, hd⟩ := hd
  have HD := Lib.hid hd
  clear hd
  unfold U64 M64 at hhi hlo hy
  generalize (hi * 18446744073709551616 + lo) % y = r at *
  have c1 : (y == 0) = false := by simp; omega
  have c0 : ¬ y = 0 := by omega
  generalize hi % y = h at *
  have w1 : IntKind.u64.wrap h = h := by rw [wrapu]; omega
  go_enter Tryz.func111, Tryz.ntmps111
  go_wp2_with (go_at_call 117; (with_reducible refine (HD.out _).mono ?_); rintro e w1 ⟨rfl, hb1⟩; obtain ⟨hc1, hf1⟩ := bcell hb1; have hz1 := hb1.size; (try simp at hz1); (try have hy1 := Nat.lt_of_succ_le hz1); (try have hv1 := Nat.lt_of_succ_lt hy1); (try have hw10 : w.heap.size < w1.heap.size := by omega); (try have hw11 : w.heap.size + 1 < w1.heap.size := by omega); (try have hw12 : w.heap.size + 1 + 1 < w1.heap.size := by omega); (try have hw13 : w.heap.size + 1 + 1 + 1 < w1.heap.size := by omega))
  go_ret
  exact ⟨rfl, (by repeat (first | (with_reducible assumption) | (with_reducible exact Below.refl _ _) | (with_reducible refine Below.alloc ?_ (by first | omega | (simp; omega) | (simp; done) | (dsimp only; omega)) _) | (with_reducible refine Below.setCell ?_ (by first | omega | (simp; omega) | (simp; done) | (dsimp only; omega)) _) | (with_reducible refine Below.drew ?_) | (with_reducible refine Below.trans ?_ (Below.mono (by assumption) (by first | omega | (simp; omega) | (simp; done) | (dsimp only; omega))))))⟩
end Go.Proofs.YtdpnphnafidpiaaGreat
