/- Texts MathA, MathB, MathC, MathD. -/
import Derived.WalkKit
/- Plain arithmetic of numbers of 64 and 128 bits: nothing of the program. -/
namespace Go.Proofs.YtdpnphnafidpiaaGreat
open Go.RowKit

def M64 : Int := 18446744073709551616
def wrap128 (v : Int) : Int := (v + 170141183460469231731687303715884105728) % 340282366920938463463374607431768211456 - 170141183460469231731687303715884105728
def hiW (v : Int) : Int := v / M64
def loW (v : Int) : Int := v % M64
def wv (a b : Int) : Int := a * M64 + b
def U64 (x : Int) : Prop := 0 ≤ x ∧ x < M64
def I64 (x : Int) : Prop := -9223372036854775808 ≤ x ∧ x ≤ 9223372036854775807
def I128 (x : Int) : Prop := -170141183460469231731687303715884105728 ≤ x ∧ x < 170141183460469231731687303715884105728

theorem wrapu (x : Int) : IntKind.u64.wrap x = x % 18446744073709551616 := by rw [IntKind.wrap_u64]
theorem U64.wrap (x : Int) : U64 (IntKind.u64.wrap x) := by rw [wrapu]; unfold U64 M64; omega
theorem U64.lo (x : Int) : U64 (loW x) := by unfold U64 loW M64; omega
theorem wv_hilo (v : Int) : wv (hiW v) (loW v) = v := by unfold wv hiW loW M64; omega
theorem hiW_wv (a b : Int) (h : U64 b) : hiW (wv a b) = a := by unfold U64 M64 at h; unfold wv hiW M64; omega
theorem loW_wv (a b : Int) (h : U64 b) : loW (wv a b) = b := by unfold U64 M64 at h; unfold wv loW M64; omega
theorem I128_wv {a b : Int} (ha : I64 a) (h : U64 b) : I128 (wv a b) := by unfold U64 M64 at h; unfold I64 at ha; unfold wv I128 M64; omega
theorem I64_hi {v : Int} (h : I128 v) : I64 (hiW v) := by unfold I128 at h; unfold I64 hiW M64; omega
theorem I128_wrap (v : Int) : I128 (wrap128 v) := by unfold I128 wrap128; omega
theorem wrap128_id {v : Int} (h : I128 v) : wrap128 v = v := by unfold I128 at h; unfold wrap128; omega
theorem I128_I64 {v : Int} (h : I64 v) : I128 v := by unfold I64 at h; unfold I128; omega

theorem of_hi (n : Int) (h : I64 n) : n / 9223372036854775808 = hiW n := by unfold I64 at h; unfold hiW M64; omega
theorem of_lo (n : Int) : IntKind.u64.wrap n = loW n := by rw [wrapu]; rfl

theorem add_hi (a b c d : Int) :
    wrap64 ((IntKind.u64.wrap a + IntKind.u64.wrap c + (b + d) / 18446744073709551616) % 18446744073709551616) = hiW (wrap128 (wv a b + wv c d)) := by
  rw [wrapu, wrapu]; unfold hiW wrap128 wv M64 wrap64; omega
theorem add_lo (a b c d : Int) : (b + d) % 18446744073709551616 = loW (wrap128 (wv a b + wv c d)) := by
  unfold loW wrap128 wv M64; omega
theorem sub_hi (a b c d : Int) :
    wrap64 ((IntKind.u64.wrap a - IntKind.u64.wrap c + (b - d) / 18446744073709551616) % 18446744073709551616) = hiW (wrap128 (wv a b - wv c d)) := by
  rw [wrapu, wrapu]; unfold hiW wrap128 wv M64 wrap64; omega
theorem sub_lo (a b c d : Int) : (b - d) % 18446744073709551616 = loW (wrap128 (wv a b - wv c d)) := by
  unfold loW wrap128 wv M64; omega

/-- How two stand. -/
def cmpI (x y : Int) : Int := if x = y then 0 else if x < y then -1 else 1
def isI (v : Int) : Bool := decide (-9223372036854775808 ≤ v) && decide (v ≤ 9223372036854775807)
def intI (v : Int) : Int := if isI v then v else 0
def clampI (v : Int) : Int := if isI v then v else if v < 0 then -9223372036854775808 else 9223372036854775807
def lowI (v : Int) : Int := wrap64 v

theorem isI_iff (v : Int) : isI v = true ↔ I64 v := by unfold isI I64; simp
theorem isI_hilo (v : Int) (h : I128 v) : (isI v) = (decide (hiW (wrap64 (loW v)) = hiW v)) := by
  unfold I128 at h; rw [Bool.eq_iff_iff]; unfold isI hiW loW M64 wrap64; simp; omega
theorem low_lo (v : Int) : wrap64 (loW v) = lowI v := by unfold loW lowI M64 wrap64; omega
theorem lo_low (v : Int) : loW (lowI v) = loW v := by unfold loW lowI M64 wrap64; omega
theorem low_I64 (v : Int) : I64 (lowI v) := by unfold I64 lowI wrap64; omega
theorem low_in {v : Int} (h : I64 v) : lowI v = v := by unfold I64 at h; unfold lowI wrap64; omega
theorem low_hi_ne {v : Int} (hv : I128 v) (h : ¬ I64 v) : hiW (lowI v) ≠ hiW v := by unfold I128 at hv; unfold I64 at h; unfold hiW lowI M64 wrap64; omega
theorem clamp_I64 (v : Int) : I64 (clampI v) := by
  unfold clampI; split
  · next h => exact (isI_iff v).1 h
  · split <;> (unfold I64; omega)
theorem int_I64 (v : Int) : I64 (intI v) := by
  unfold intI; split
  · next h => exact (isI_iff v).1 h
  · unfold I64; omega
theorem eq_hilo {x y : Int} (h1 : hiW x = hiW y) (h2 : loW x = loW y) : x = y := by rw [← wv_hilo x, ← wv_hilo y, h1, h2]

/-- The upper half of a product of two numbers that were read as if from 0 on. -/
theorem mulhi_pp (a b : Int) (ha : 0 ≤ a) (hb : 0 ≤ b) (ha' : I64 a) (hb' : I64 b) :
    wrap64 (IntKind.u64.wrap a * IntKind.u64.wrap b / 18446744073709551616) = hiW (a * b) := by
  unfold I64 at ha' hb'
  have e1 : IntKind.u64.wrap a = a := by rw [wrapu]; omega
  have e2 : IntKind.u64.wrap b = b := by rw [wrapu]; omega
  rw [e1, e2]
  have h0 : 0 ≤ a * b := Int.mul_nonneg ha hb
  have h1 : a * b ≤ 9223372036854775807 * 9223372036854775807 := Int.mul_le_mul (by omega) (by omega) hb (by omega)
  generalize a * b = p at *
  unfold hiW M64 wrap64; omega
theorem wrapu_neg {a : Int} (h : I64 a) (hn : a < 0) : IntKind.u64.wrap a = a + 18446744073709551616 := by unfold I64 at h; rw [wrapu]; omega
theorem wrapu_pos {a : Int} (h : I64 a) (hn : 0 ≤ a) : IntKind.u64.wrap a = a := by unfold I64 at h; rw [wrapu]; omega
theorem prod_bd {a b : Int} (ha : I64 a) (hb : I64 b) : -85070591730234615865843651857942052864 ≤ a * b ∧ a * b ≤ 85070591730234615865843651857942052864 := by
  unfold I64 at ha hb
  have h : (a * b).natAbs ≤ 9223372036854775808 * 9223372036854775808 := by
    rw [Int.natAbs_mul]; exact Nat.mul_le_mul (by omega) (by omega)
  omega
theorem prod_I128 {a b : Int} (ha : I64 a) (hb : I64 b) : I128 (a * b) := by
  have := prod_bd ha hb; unfold I128; omega
/-- What Mul64 comes to, as digits: the upper half is turned back by the other factor for each factor below 0. -/
theorem mul_fix (a b : Int) (ha : I64 a) (hb : I64 b) (x y : Int) (hx : x = if a < 0 then IntKind.u64.wrap b else 0) (hy : y = if b < 0 then IntKind.u64.wrap a else 0) :
    wrap64 ((IntKind.u64.wrap a * IntKind.u64.wrap b / 18446744073709551616 - x - y) % 18446744073709551616) = hiW (a * b)
      ∧ (IntKind.u64.wrap a * IntKind.u64.wrap b) % 18446744073709551616 = loW (a * b) := by
  have hp := prod_bd ha hb
  have ha' := ha; have hb' := hb
  unfold I64 at ha' hb'
  by_cases h1 : a < 0 <;> by_cases h2 : b < 0
  · rw [if_pos h1] at hx; rw [if_pos h2] at hy; subst hx hy
    rw [wrapu_neg ha h1, wrapu_neg hb h2]
    have e : (a + 18446744073709551616) * (b + 18446744073709551616) = a * b + (a + b) * 18446744073709551616 + 18446744073709551616 * 18446744073709551616 := by
      rw [Int.add_mul, Int.mul_add, Int.mul_add, Int.add_mul]; omega
    rw [e]; generalize a * b = p at *
    unfold hiW loW M64 wrap64; omega
  · rw [if_pos h1] at hx; rw [if_neg h2] at hy; subst hx hy
    rw [wrapu_neg ha h1, wrapu_pos hb (by omega)]
    have e : (a + 18446744073709551616) * b = a * b + b * 18446744073709551616 := by
      rw [Int.add_mul]; omega
    rw [e]; generalize a * b = p at *
    unfold hiW loW M64 wrap64; omega
  · rw [if_neg h1] at hx; rw [if_pos h2] at hy; subst hx hy
    rw [wrapu_pos ha (by omega), wrapu_neg hb h2]
    have e : a * (b + 18446744073709551616) = a * b + a * 18446744073709551616 := by
      rw [Int.mul_add]
    rw [e]; generalize a * b = p at *
    unfold hiW loW M64 wrap64; omega
  · rw [if_neg h1] at hx; rw [if_neg h2] at hy; subst hx hy
    rw [wrapu_pos ha (by omega), wrapu_pos hb (by omega)]
    generalize a * b = p at *
    unfold hiW loW M64 wrap64; omega
end Go.Proofs.YtdpnphnafidpiaaGreat

/- Plain arithmetic of digits of 16 bits. -/
namespace Go.Proofs.YtdpnphnafidpiaaGreat
open Go.RowKit
def dg (n : Nat) (x : Int) : Int := x / 65536 ^ n % 65536
theorem dg0 (x : Int) : dg 0 x = x % 65536 := by unfold dg; omega
theorem dg1 (x : Int) : dg 1 x = x / 65536 % 65536 := by unfold dg; omega
theorem dg2 (x : Int) : dg 2 x = x / 65536 / 65536 % 65536 := by unfold dg; omega
theorem dg3 (x : Int) : dg 3 x = x / 65536 / 65536 / 65536 % 65536 := by unfold dg; omega
/-- A digit. -/
def D16 (x : Int) : Prop := 0 ≤ x ∧ x < 65536
theorem dg_D16 (n : Nat) (x : Int) : D16 (dg n x) := by unfold D16 dg; omega
def cat4 (a b c d : Int) : Int := ((d * 65536 + c) * 65536 + b) * 65536 + a
theorem cat4_dg {x : Int} (h : U64 x) : cat4 (dg 0 x) (dg 1 x) (dg 2 x) (dg 3 x) = x := by
  rw [dg0, dg1, dg2, dg3]; unfold U64 M64 at h; unfold cat4; omega
theorem cat4_U64 {a b c d : Int} (ha : D16 a) (hb : D16 b) (hc : D16 c) (hd : D16 d) : U64 (cat4 a b c d) := by
  unfold D16 at *; unfold cat4 U64 M64; omega

/-- Sums of digits, with what is carried. -/
theorem add_dig4 {x0 x1 x2 x3 y0 y1 y2 y3 c0 c1 c2 c3 c4 : Int}
    (h1 : c1 = (x0 + y0 + c0) / 65536) (h2 : c2 = (x1 + y1 + c1) / 65536) (h3 : c3 = (x2 + y2 + c2) / 65536) (h4 : c4 = (x3 + y3 + c3) / 65536) :
    cat4 ((x0 + y0 + c0) % 65536) ((x1 + y1 + c1) % 65536) ((x2 + y2 + c2) % 65536) ((x3 + y3 + c3) % 65536) = (cat4 x0 x1 x2 x3 + cat4 y0 y1 y2 y3 + c0) % 18446744073709551616
      ∧ c4 = (cat4 x0 x1 x2 x3 + cat4 y0 y1 y2 y3 + c0) / 18446744073709551616 := by
  unfold cat4; constructor <;> omega
theorem add_dig {a b c d : Int} (hb : U64 b) (hd : U64 d) {c1 c2 c3 c4 c5 c6 c7 : Int}
    (h1 : c1 = (dg 0 b + dg 0 d) / 65536) (h2 : c2 = (dg 1 b + dg 1 d + c1) / 65536) (h3 : c3 = (dg 2 b + dg 2 d + c2) / 65536) (h4 : c4 = (dg 3 b + dg 3 d + c3) / 65536)
    (h5 : c5 = (dg 0 (IntKind.u64.wrap a) + dg 0 (IntKind.u64.wrap c) + c4) / 65536) (h6 : c6 = (dg 1 (IntKind.u64.wrap a) + dg 1 (IntKind.u64.wrap c) + c5) / 65536) (h7 : c7 = (dg 2 (IntKind.u64.wrap a) + dg 2 (IntKind.u64.wrap c) + c6) / 65536) :
    cat4 ((dg 0 b + dg 0 d) % 65536) ((dg 1 b + dg 1 d + c1) % 65536) ((dg 2 b + dg 2 d + c2) % 65536) ((dg 3 b + dg 3 d + c3) % 65536) = loW (wrap128 (wv a b + wv c d))
      ∧ wrap64 (cat4 ((dg 0 (IntKind.u64.wrap a) + dg 0 (IntKind.u64.wrap c) + c4) % 65536) ((dg 1 (IntKind.u64.wrap a) + dg 1 (IntKind.u64.wrap c) + c5) % 65536) ((dg 2 (IntKind.u64.wrap a) + dg 2 (IntKind.u64.wrap c) + c6) % 65536) ((dg 3 (IntKind.u64.wrap a) + dg 3 (IntKind.u64.wrap c) + c7) % 65536)) = hiW (wrap128 (wv a b + wv c d)) := by
  have A := add_dig4 (c0 := 0) (by simpa using h1) h2 h3 h4
  have B := add_dig4 (x3 := dg 3 (IntKind.u64.wrap a)) (y3 := dg 3 (IntKind.u64.wrap c)) h5 h6 h7 rfl
  rw [cat4_dg hb, cat4_dg hd] at A
  rw [cat4_dg (U64.wrap a), cat4_dg (U64.wrap c)] at B
  simp only [Int.add_zero] at A
  refine ⟨A.1.trans (add_lo a b c d), ?_⟩
  rw [B.1, A.2]; exact add_hi a b c d
end Go.Proofs.YtdpnphnafidpiaaGreat

/- Plain arithmetic: the other side of a number by its digits; products by doubling. -/
namespace Go.Proofs.YtdpnphnafidpiaaGreat
open Go.RowKit
theorem dig_flip {x : Int} (h : D16 x) : D16 (65535 - x) := by unfold D16 at *; omega
theorem neg_hl (a b : Int) (hb : U64 b) :
    wrap128 (wv (wrap64 (cat4 (65535 - dg 0 (IntKind.u64.wrap a)) (65535 - dg 1 (IntKind.u64.wrap a)) (65535 - dg 2 (IntKind.u64.wrap a)) (65535 - dg 3 (IntKind.u64.wrap a)))) (cat4 (65535 - dg 0 b) (65535 - dg 1 b) (65535 - dg 2 b) (65535 - dg 3 b)) + wv 0 1) = wrap128 (-wv a b) := by
  have e1 : cat4 (65535 - dg 0 b) (65535 - dg 1 b) (65535 - dg 2 b) (65535 - dg 3 b) = 18446744073709551615 - b := by
    have := cat4_dg hb; unfold cat4 at *; omega
  have e2 : cat4 (65535 - dg 0 (IntKind.u64.wrap a)) (65535 - dg 1 (IntKind.u64.wrap a)) (65535 - dg 2 (IntKind.u64.wrap a)) (65535 - dg 3 (IntKind.u64.wrap a)) = 18446744073709551615 - IntKind.u64.wrap a := by
    have := cat4_dg (U64.wrap a); unfold cat4 at *; omega
  rw [e1, e2, wrapu]; unfold wv wrap128 M64 wrap64; omega
theorem sub_wrap (x y : Int) : wrap128 (x + wrap128 (-y)) = wrap128 (x - y) := by unfold wrap128; omega
theorem neg_of (n : Int) (h : I64 n) (hn : n < 0) : wrap128 (-(wrap128 (wv 0 (-(n + 1)) + wv 0 1))) = n := by
  unfold I64 at h; unfold wv wrap128 M64; omega
theorem U64_neg {n : Int} (h : I64 n) (hn : n < 0) : U64 (-(n + 1)) := by unfold I64 at h; unfold U64 M64; omega
theorem U64_1 : U64 1 := by unfold U64 M64; omega

/-- By pairs, the highest first. -/
def cmpD : List (Int × Int) → Int
  | [] => 0
  | p :: l => if p.1 < p.2 then -1 else if p.2 < p.1 then 1 else cmpD l
theorem cmpD_lt {x y : Int} {l : List (Int × Int)} (h : x < y) : cmpD ((x, y) :: l) = -1 := by unfold cmpD; rw [if_pos h]
theorem cmpD_gt {x y : Int} {l : List (Int × Int)} (h : y < x) : cmpD ((x, y) :: l) = 1 := by unfold cmpD; rw [if_neg (by omega), if_pos h]
theorem cmpD_eq {x y : Int} {l : List (Int × Int)} (h : ¬ x < y) (h' : ¬ y < x) : cmpD ((x, y) :: l) = cmpD l := by
  rw [cmpD, if_neg h, if_neg h']
theorem cmpD_dg {x y : Int} (hx : U64 x) (hy : U64 y) : cmpD [(dg 3 x, dg 3 y), (dg 2 x, dg 2 y), (dg 1 x, dg 1 y), (dg 0 x, dg 0 y)] = cmpI x y := by
  have ex := cat4_dg hx
  have ey := cat4_dg hy
  have p0 := dg_D16 0 x
  have p1 := dg_D16 1 x
  have p2 := dg_D16 2 x
  have q0 := dg_D16 0 y
  have q1 := dg_D16 1 y
  have q2 := dg_D16 2 y
  unfold D16 at *
  unfold cat4 at ex ey
  generalize dg 0 x = a0 at *
  generalize dg 1 x = a1 at *
  generalize dg 2 x = a2 at *
  generalize dg 3 x = a3 at *
  generalize dg 0 y = b0 at *
  generalize dg 1 y = b1 at *
  generalize dg 2 y = b2 at *
  generalize dg 3 y = b3 at *
  simp only [cmpD, cmpI]
  repeat' split
  all_goals omega

/-- By pairs, from the m-th on down. -/
def cmpR (X Y : Nat → Int) : Nat → Int
  | 0 => 0
  | m + 1 => if X m < Y m then -1 else if Y m < X m then 1 else cmpR X Y m
def digs (a b : Int) (m : Nat) : Int := if m < 4 then dg m b else dg (m - 4) (IntKind.u64.wrap a)
theorem cmpR_digs {a b c d : Int} (hb : U64 b) (hd : U64 d) (ha : I64 a) (hc : I64 c) (hs : (!decide (a < 0) == decide (c < 0)) = false) : cmpR (digs a b) (digs c d) 8 = cmpI (wv a b) (wv c d) := by
  have e : cmpR (digs a b) (digs c d) 8 = cmpD ([(dg 3 (IntKind.u64.wrap a), dg 3 (IntKind.u64.wrap c)), (dg 2 (IntKind.u64.wrap a), dg 2 (IntKind.u64.wrap c)), (dg 1 (IntKind.u64.wrap a), dg 1 (IntKind.u64.wrap c)), (dg 0 (IntKind.u64.wrap a), dg 0 (IntKind.u64.wrap c))] ++ [(dg 3 b, dg 3 d), (dg 2 b, dg 2 d), (dg 1 b, dg 1 d), (dg 0 b, dg 0 d)]) := by
    simp [cmpR, digs, cmpD]
  have app : ∀ l k : List (Int × Int), cmpD (l ++ k) = if cmpD l = 0 then cmpD k else cmpD l := by
    intro l k
    induction l with
    | nil => simp [cmpD]
    | cons x l ih =>
      rw [List.cons_append, cmpD, cmpD, ih]
      split
      · simp
      · split <;> simp
  rw [e, app, cmpD_dg (U64.wrap a) (U64.wrap c), cmpD_dg hb hd, wrapu, wrapu]
  have hs' : a < 0 ↔ c < 0 := by
    by_cases h1 : a < 0 <;> by_cases h2 : c < 0 <;> simp [h1, h2] at hs ⊢
  unfold U64 M64 at hb hd; unfold I64 at ha hc
  unfold cmpI wv M64
  clear e app hs
  repeat' split
  all_goals omega
end Go.Proofs.YtdpnphnafidpiaaGreat

/- Plain arithmetic: a product by doubling. -/
namespace Go.Proofs.YtdpnphnafidpiaaGreat
open Go.RowKit
/-- They differ by a number of times 2^128. -/
def Mg (x y : Int) : Prop := ∃ k : Int, x = y + k * 340282366920938463463374607431768211456
theorem Mg.refl (x : Int) : Mg x x := ⟨0, by simp⟩
theorem Mg.wrap (x : Int) : Mg (wrap128 x) x := by
  refine ⟨-((x + 170141183460469231731687303715884105728) / 340282366920938463463374607431768211456), ?_⟩
  unfold wrap128; omega
theorem Mg.wrap_eq {x y : Int} (h : Mg x y) : wrap128 x = wrap128 y := by
  obtain ⟨k, rfl⟩ := h; unfold wrap128; omega
theorem Mg.symm {x y : Int} (h : Mg x y) : Mg y x := by
  obtain ⟨k, rfl⟩ := h; exact ⟨-k, by omega⟩
theorem Mg.trans {x y z : Int} (h : Mg x y) (h' : Mg y z) : Mg x z := by
  obtain ⟨k, rfl⟩ := h; obtain ⟨l, rfl⟩ := h'; exact ⟨l + k, by omega⟩
theorem Mg.add {a b c d : Int} (h : Mg a b) (h' : Mg c d) : Mg (a + c) (b + d) := by
  obtain ⟨k, rfl⟩ := h; obtain ⟨l, rfl⟩ := h'; exact ⟨k + l, by omega⟩
theorem Mg.mul {a b : Int} (h : Mg a b) (n : Int) : Mg (a * n) (b * n) := by
  obtain ⟨k, rfl⟩ := h; exact ⟨k * n, by rw [Int.add_mul, Int.mul_right_comm]⟩
theorem mul_even {p x n t : Int} (h : Mg (p + x * n) t) (hn : n % 2 = 0) : Mg (p + wrap128 (x + x) * (n / 2)) t := by
  refine Mg.trans (Mg.add (Mg.refl p) ((Mg.wrap (x + x)).mul (n / 2))) ?_
  have e : (x + x) * (n / 2) = x * n := by
    obtain ⟨m, rfl⟩ : ∃ m, n = 2 * m := ⟨n / 2, by omega⟩
    rw [show 2 * m / 2 = m by omega, Int.add_mul, show x * (2 * m) = x * m + x * m by rw [← Int.mul_add]; congr 1; omega]
  rw [e]; exact h
theorem mul_odd {p x n t : Int} (h : Mg (p + x * n) t) (hn : n % 2 = 1) : Mg (wrap128 (p + x) + wrap128 (x + x) * (n / 2)) t := by
  refine Mg.trans (Mg.add (Mg.wrap (p + x)) ((Mg.wrap (x + x)).mul (n / 2))) ?_
  have e : p + x + (x + x) * (n / 2) = p + x * n := by
    obtain ⟨m, rfl⟩ : ∃ m, n = 2 * m + 1 := ⟨n / 2, by omega⟩
    rw [show (2 * m + 1) / 2 = m by omega, Int.add_mul, show x * (2 * m + 1) = x * m + x * m + x by rw [Int.mul_add, Int.mul_one, show x * (2 * m) = x * m + x * m by rw [← Int.mul_add]; congr 1; omega]]; omega
  rw [e]; exact h
theorem mul_end {p x t : Int} (h : Mg (p + x * 0) t) (hp : I128 p) (ht : I128 t) : p = t := by
  rw [Int.mul_zero, Int.add_zero] at h
  have := h.wrap_eq; rw [wrap128_id hp, wrap128_id ht] at this; exact this
theorem mul_size {b : Int} (hb : I64 b) (h : b < 0) : loW (wrap128 (-b)) = -b := by
  unfold I64 at hb; unfold loW wrap128 M64; omega
theorem mul_size' {b : Int} (hb : I64 b) (h : ¬ b < 0) : loW b = b := by
  unfold I64 at hb; unfold loW M64; omega
theorem prod_neg {a b : Int} (ha : I64 a) (hb : I64 b) : I128 (a * -b) := by
  have := prod_bd ha hb; rw [Int.mul_neg]; unfold I128; omega
theorem mul_back {a b : Int} (ha : I64 a) (hb : I64 b) : wrap128 (-(a * -b)) = a * b := by
  rw [Int.mul_neg, Int.neg_neg]; exact wrap128_id (prod_I128 ha hb)
end Go.Proofs.YtdpnphnafidpiaaGreat
