/- Plain arithmetic: the other side of a number by its digits; products by doubling. -/
import Derived.Test.YtbjdiaakhlgcgaaMathB
namespace Go.Proofs.Ytbjdiaakhlgcgaa
open Go.RowKit
theorem dig_flip {x : Int} (h : D16 x) : D16 (65535 - x) := by unfold D16 at *; omega
theorem neg_hl (a b : Int) (hb : U64 b) :
    wrap128 (wv (wrap64 (cat4 (65535 - dg 0 (IntKind.u64.wrap a)) (65535 - dg 1 (IntKind.u64.wrap a)) (65535 - dg 2 (IntKind.u64.wrap a)) (65535 - dg 3 (IntKind.u64.wrap a)))) (cat4 (65535 - dg 0 b) (65535 - dg 1 b) (65535 - dg 2 b) (65535 - dg 3 b)) + wv 0 1) = wrap128 (-wv a b) := by
  have e1 : cat4 (65535 - dg 0 b) (65535 - dg 1 b) (65535 - dg 2 b) (65535 - dg 3 b) = 18446744073709551615 - b := by
    have := cat4_dg hb; unfold cat4 at *; omega
  have e2 : cat4 (65535 - dg 0 (IntKind.u64.wrap a)) (65535 - dg 1 (IntKind.u64.wrap a)) (65535 - dg 2 (IntKind.u64.wrap a)) (65535 - dg 3 (IntKind.u64.wrap a)) = 18446744073709551615 - IntKind.u64.wrap a := by
    have := cat4_dg (U64.wrap a); unfold cat4 at *; omega
  rw [e1, e2, wrapu]; unfold wv wrap128 M64 wrap64; omega
theorem sub_wrap (x y : Int) : wrap128 (x + wrap128 (-y)) = wrap128 (x - y) := by unfold wrap128; omega
theorem neg_of (n : Int) (h : I64 n) (hn : n < 0) : wrap128 (-(wrap128 (wv 0 (-(n + 1)) + wv 0 1))) = n := by
  unfold I64 at h; unfold wv wrap128 M64; omega
theorem U64_neg {n : Int} (h : I64 n) (hn : n < 0) : U64 (-(n + 1)) := by unfold I64 at h; unfold U64 M64; omega
theorem U64_1 : U64 1 := by unfold U64 M64; omega

/-- By pairs, the highest first. -/
def cmpD : List (Int × Int) → Int
  | [] => 0
  | p :: l => if p.1 < p.2 then -1 else if p.2 < p.1 then 1 else cmpD l
theorem cmpD_lt {x y : Int} {l : List (Int × Int)} (h : x < y) : cmpD ((x, y) :: l) = -1 := by unfold cmpD; rw [if_pos h]
theorem cmpD_gt {x y : Int} {l : List (Int × Int)} (h : y < x) : cmpD ((x, y) :: l) = 1 := by unfold cmpD; rw [if_neg (by omega), if_pos h]
theorem cmpD_eq {x y : Int} {l : List (Int × Int)} (h : ¬ x < y) (h' : ¬ y < x) : cmpD ((x, y) :: l) = cmpD l := by
  rw [cmpD, if_neg h, if_neg h']
theorem cmpD_dg {x y : Int} (hx : U64 x) (hy : U64 y) : cmpD [(dg 3 x, dg 3 y), (dg 2 x, dg 2 y), (dg 1 x, dg 1 y), (dg 0 x, dg 0 y)] = cmpI x y := by
  have ex := cat4_dg hx
  have ey := cat4_dg hy
  have p0 := dg_D16 0 x
  have p1 := dg_D16 1 x
  have p2 := dg_D16 2 x
  have q0 := dg_D16 0 y
  have q1 := dg_D16 1 y
  have q2 := dg_D16 2 y
  unfold D16 at *
  unfold cat4 at ex ey
  generalize dg 0 x = a0 at *
  generalize dg 1 x = a1 at *
  generalize dg 2 x = a2 at *
  generalize dg 3 x = a3 at *
  generalize dg 0 y = b0 at *
  generalize dg 1 y = b1 at *
  generalize dg 2 y = b2 at *
  generalize dg 3 y = b3 at *
  simp only [cmpD, cmpI]
  repeat' split
  all_goals omega

/-- By pairs, from the m-th on down. -/
def cmpR (X Y : Nat → Int) : Nat → Int
  | 0 => 0
  | m + 1 => if X m < Y m then -1 else if Y m < X m then 1 else cmpR X Y m
def digs (a b : Int) (m : Nat) : Int := if m < 4 then dg m b else dg (m - 4) (IntKind.u64.wrap a)
theorem cmpR_digs {a b c d : Int} (hb : U64 b) (hd : U64 d) (ha : I64 a) (hc : I64 c) (hs : (!decide (a < 0) == decide (c < 0)) = false) : cmpR (digs a b) (digs c d) 8 = cmpI (wv a b) (wv c d) := by
  have e : cmpR (digs a b) (digs c d) 8 = cmpD ([(dg 3 (IntKind.u64.wrap a), dg 3 (IntKind.u64.wrap c)), (dg 2 (IntKind.u64.wrap a), dg 2 (IntKind.u64.wrap c)), (dg 1 (IntKind.u64.wrap a), dg 1 (IntKind.u64.wrap c)), (dg 0 (IntKind.u64.wrap a), dg 0 (IntKind.u64.wrap c))] ++ [(dg 3 b, dg 3 d), (dg 2 b, dg 2 d), (dg 1 b, dg 1 d), (dg 0 b, dg 0 d)]) := by
    simp [cmpR, digs, cmpD]
  have app : ∀ l k : List (Int × Int), cmpD (l ++ k) = if cmpD l = 0 then cmpD k else cmpD l := by
    intro l k
    induction l with
    | nil => simp [cmpD]
    | cons x l ih =>
      rw [List.cons_append, cmpD, cmpD, ih]
      split
      · simp
      · split <;> simp
  rw [e, app, cmpD_dg (U64.wrap a) (U64.wrap c), cmpD_dg hb hd, wrapu, wrapu]
  have hs' : a < 0 ↔ c < 0 := by
    by_cases h1 : a < 0 <;> by_cases h2 : c < 0 <;> simp [h1, h2] at hs ⊢
  unfold U64 M64 at hb hd; unfold I64 at ha hc
  unfold cmpI wv M64
  clear e app hs
  repeat' split
  all_goals omega
end Go.Proofs.Ytbjdiaakhlgcgaa
