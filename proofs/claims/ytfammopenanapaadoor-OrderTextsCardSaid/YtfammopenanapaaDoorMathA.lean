/- Plain arithmetic of numbers of 64 and 128 bits: nothing of the program. -/
import Derived.WalkKit
namespace Go.Proofs.YtfammopenanapaaDoor
open Go.RowKit

def M64 : Int := 18446744073709551616
def wrap128 (v : Int) : Int := (v + 170141183460469231731687303715884105728) % 340282366920938463463374607431768211456 - 170141183460469231731687303715884105728
def hiW (v : Int) : Int := v / M64
def loW (v : Int) : Int := v % M64
def wv (a b : Int) : Int := a * M64 + b
def U64 (x : Int) : Prop := 0 ≤ x ∧ x < M64
def I64 (x : Int) : Prop := -9223372036854775808 ≤ x ∧ x ≤ 9223372036854775807
def I128 (x : Int) : Prop := -170141183460469231731687303715884105728 ≤ x ∧ x < 170141183460469231731687303715884105728

theorem wrapu (x : Int) : IntKind.u64.wrap x = x % 18446744073709551616 := by rw [IntKind.wrap_u64]
theorem U64.wrap (x : Int) : U64 (IntKind.u64.wrap x) := by rw [wrapu]; unfold U64 M64; omega
theorem U64.lo (x : Int) : U64 (loW x) := by unfold U64 loW M64; omega
theorem wv_hilo (v : Int) : wv (hiW v) (loW v) = v := by unfold wv hiW loW M64; omega
theorem hiW_wv (a b : Int) (h : U64 b) : hiW (wv a b) = a := by unfold U64 M64 at h; unfold wv hiW M64; omega
theorem loW_wv (a b : Int) (h : U64 b) : loW (wv a b) = b := by unfold U64 M64 at h; unfold wv loW M64; omega
theorem I128_wv {a b : Int} (ha : I64 a) (h : U64 b) : I128 (wv a b) := by unfold U64 M64 at h; unfold I64 at ha; unfold wv I128 M64; omega
theorem I64_hi {v : Int} (h : I128 v) : I64 (hiW v) := by unfold I128 at h; unfold I64 hiW M64; omega
theorem I128_wrap (v : Int) : I128 (wrap128 v) := by unfold I128 wrap128; omega
theorem wrap128_id {v : Int} (h : I128 v) : wrap128 v = v := by unfold I128 at h; unfold wrap128; omega
theorem I128_I64 {v : Int} (h : I64 v) : I128 v := by unfold I64 at h; unfold I128; omega

theorem of_hi (n : Int) (h : I64 n) : n / 9223372036854775808 = hiW n := by unfold I64 at h; unfold hiW M64; omega
theorem of_lo (n : Int) : IntKind.u64.wrap n = loW n := by rw [wrapu]; rfl

theorem add_hi (a b c d : Int) :
    wrap64 ((IntKind.u64.wrap a + IntKind.u64.wrap c + (b + d) / 18446744073709551616) % 18446744073709551616) = hiW (wrap128 (wv a b + wv c d)) := by
  rw [wrapu, wrapu]; unfold hiW wrap128 wv M64 wrap64; omega
theorem add_lo (a b c d : Int) : (b + d) % 18446744073709551616 = loW (wrap128 (wv a b + wv c d)) := by
  unfold loW wrap128 wv M64; omega
theorem sub_hi (a b c d : Int) :
    wrap64 ((IntKind.u64.wrap a - IntKind.u64.wrap c + (b - d) / 18446744073709551616) % 18446744073709551616) = hiW (wrap128 (wv a b - wv c d)) := by
  rw [wrapu, wrapu]; unfold hiW wrap128 wv M64 wrap64; omega
theorem sub_lo (a b c d : Int) : (b - d) % 18446744073709551616 = loW (wrap128 (wv a b - wv c d)) := by
  unfold loW wrap128 wv M64; omega

/-- How two stand. -/
def cmpI (x y : Int) : Int := if x = y then 0 else if x < y then -1 else 1
def isI (v : Int) : Bool := decide (-9223372036854775808 ≤ v) && decide (v ≤ 9223372036854775807)
def intI (v : Int) : Int := if isI v then v else 0
def clampI (v : Int) : Int := if isI v then v else if v < 0 then -9223372036854775808 else 9223372036854775807
def lowI (v : Int) : Int := wrap64 v

theorem isI_iff (v : Int) : isI v = true ↔ I64 v := by unfold isI I64; simp
theorem isI_hilo (v : Int) (h : I128 v) : (isI v) = (decide (hiW (wrap64 (loW v)) = hiW v)) := by
  unfold I128 at h; rw [Bool.eq_iff_iff]; unfold isI hiW loW M64 wrap64; simp; omega
theorem low_lo (v : Int) : wrap64 (loW v) = lowI v := by unfold loW lowI M64 wrap64; omega
theorem lo_low (v : Int) : loW (lowI v) = loW v := by unfold loW lowI M64 wrap64; omega
theorem low_I64 (v : Int) : I64 (lowI v) := by unfold I64 lowI wrap64; omega
theorem low_in {v : Int} (h : I64 v) : lowI v = v := by unfold I64 at h; unfold lowI wrap64; omega
theorem low_hi_ne {v : Int} (hv : I128 v) (h : ¬ I64 v) : hiW (lowI v) ≠ hiW v := by unfold I128 at hv; unfold I64 at h; unfold hiW lowI M64 wrap64; omega
theorem clamp_I64 (v : Int) : I64 (clampI v) := by
  unfold clampI; split
  · next h => exact (isI_iff v).1 h
  · split <;> (unfold I64; omega)
theorem int_I64 (v : Int) : I64 (intI v) := by
  unfold intI; split
  · next h => exact (isI_iff v).1 h
  · unfold I64; omega
theorem eq_hilo {x y : Int} (h1 : hiW x = hiW y) (h2 : loW x = loW y) : x = y := by rw [← wv_hilo x, ← wv_hilo y, h1, h2]

/-- The upper half of a product of two numbers that were read as if from 0 on. -/
theorem mulhi_pp (a b : Int) (ha : 0 ≤ a) (hb : 0 ≤ b) (ha' : I64 a) (hb' : I64 b) :
    wrap64 (IntKind.u64.wrap a * IntKind.u64.wrap b / 18446744073709551616) = hiW (a * b) := by
  unfold I64 at ha' hb'
  have e1 : IntKind.u64.wrap a = a := by rw [wrapu]; omega
  have e2 : IntKind.u64.wrap b = b := by rw [wrapu]; omega
  rw [e1, e2]
  have h0 : 0 ≤ a * b := Int.mul_nonneg ha hb
  have h1 : a * b ≤ 9223372036854775807 * 9223372036854775807 := Int.mul_le_mul (by omega) (by omega) hb (by omega)
  generalize a * b = p at *
  unfold hiW M64 wrap64; omega
theorem wrapu_neg {a : Int} (h : I64 a) (hn : a < 0) : IntKind.u64.wrap a = a + 18446744073709551616 := by unfold I64 at h; rw [wrapu]; omega
theorem wrapu_pos {a : Int} (h : I64 a) (hn : 0 ≤ a) : IntKind.u64.wrap a = a := by unfold I64 at h; rw [wrapu]; omega
theorem prod_bd {a b : Int} (ha : I64 a) (hb : I64 b) : -85070591730234615865843651857942052864 ≤ a * b ∧ a * b ≤ 85070591730234615865843651857942052864 := by
  unfold I64 at ha hb
  have h : (a * b).natAbs ≤ 9223372036854775808 * 9223372036854775808 := by
    rw [Int.natAbs_mul]; exact Nat.mul_le_mul (by omega) (by omega)
  omega
theorem prod_I128 {a b : Int} (ha : I64 a) (hb : I64 b) : I128 (a * b) := by
  have := prod_bd ha hb; unfold I128; omega
/-- What Mul64 comes to, as digits: the upper half is turned back by the other factor for each factor below 0. -/
theorem mul_fix (a b : Int) (ha : I64 a) (hb : I64 b) (x y : Int) (hx : x = if a < 0 then IntKind.u64.wrap b else 0) (hy : y = if b < 0 then IntKind.u64.wrap a else 0) :
    wrap64 ((IntKind.u64.wrap a * IntKind.u64.wrap b / 18446744073709551616 - x - y) % 18446744073709551616) = hiW (a * b)
      ∧ (IntKind.u64.wrap a * IntKind.u64.wrap b) % 18446744073709551616 = loW (a * b) := by
  have hp := prod_bd ha hb
  have ha' := ha; have hb' := hb
  unfold I64 at ha' hb'
  by_cases h1 : a < 0 <;> by_cases h2 : b < 0
  · rw [if_pos h1] at hx; rw [if_pos h2] at hy; subst hx hy
    rw [wrapu_neg ha h1, wrapu_neg hb h2]
    have e : (a + 18446744073709551616) * (b + 18446744073709551616) = a * b + (a + b) * 18446744073709551616 + 18446744073709551616 * 18446744073709551616 := by
      rw [Int.add_mul, Int.mul_add, Int.mul_add, Int.add_mul]; omega
    rw [e]; generalize a * b = p at *
    unfold hiW loW M64 wrap64; omega
  · rw [if_pos h1] at hx; rw [if_neg h2] at hy; subst hx hy
    rw [wrapu_neg ha h1, wrapu_pos hb (by omega)]
    have e : (a + 18446744073709551616) * b = a * b + b * 18446744073709551616 := by
      rw [Int.add_mul]; omega
    rw [e]; generalize a * b = p at *
    unfold hiW loW M64 wrap64; omega
  · rw [if_neg h1] at hx; rw [if_pos h2] at hy; subst hx hy
    rw [wrapu_pos ha (by omega), wrapu_neg hb h2]
    have e : a * (b + 18446744073709551616) = a * b + a * 18446744073709551616 := by
      rw [Int.mul_add]
    rw [e]; generalize a * b = p at *
    unfold hiW loW M64 wrap64; omega
  · rw [if_neg h1] at hx; rw [if_neg h2] at hy; subst hx hy
    rw [wrapu_pos ha (by omega), wrapu_pos hb (by omega)]
    generalize a * b = p at *
    unfold hiW loW M64 wrap64; omega
end Go.Proofs.YtfammopenanapaaDoor
