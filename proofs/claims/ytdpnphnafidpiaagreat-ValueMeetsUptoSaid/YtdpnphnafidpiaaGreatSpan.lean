/- Spans as plain data: what layer 3 says of them, nothing of the program. -/
import Derived.WalkKit
namespace Go.Proofs.YtdpnphnafidpiaaGreat
open Go.RowKit

structure Sp where
  s : Bool
  lo : Int
  hi : Int

def Sp.zero : Sp := ⟨false, 0, 0⟩
def Sp.none (a : Sp) : Bool := !a.s || decide (a.hi < a.lo)
def Sp.clean (a : Sp) : Sp := if a.none = true then Sp.zero else a
def Sp.of (lo hi : Int) : Sp := Sp.clean ⟨true, lo, hi⟩
def Sp.has (a : Sp) (n : Int) : Bool := a.s && decide (a.lo ≤ n) && decide (n ≤ a.hi)
def Sp.leq (a b : Sp) : Bool := a.none || (b.has a.lo && b.has a.hi)
def Sp.same (a b : Sp) : Bool := (a.clean.s == b.clean.s) && (a.clean.lo == b.clean.lo) && (a.clean.hi == b.clean.hi)
def Sp.join (a b : Sp) : Sp := if a.none = true then b.clean else if b.none = true then a else Sp.of (min a.lo b.lo) (max a.hi b.hi)
def Sp.meet (a b : Sp) : Sp := if (a.none || b.none) = true then Sp.zero else Sp.of (max a.lo b.lo) (min a.hi b.hi)
def Sp.narrow (a b : Sp) : Sp :=
  if b.leq a = false then a.clean else if b.none = true then Sp.zero else
    Sp.of (if a.lo = -9223372036854775808 then b.lo else a.lo) (if a.hi = 9223372036854775807 then b.hi else a.hi)
def below (l : List Int) (n : Int) : Int := l.foldl (fun best x => if x ≤ n then max best x else best) (-9223372036854775808)
def above (l : List Int) (n : Int) : Int := l.foldl (fun best x => if n ≤ x then min best x else best) 9223372036854775807
def Sp.widen (a b : Sp) (l : List Int) : Sp :=
  if a.none = true then b.clean else if b.leq a = true then a else
    Sp.of (if b.lo < a.lo then below l b.lo else a.lo) (if a.hi < b.hi then above l b.hi else a.hi)
theorem Sp.ext' {a b : Sp} (h1 : a.s = b.s) (h2 : a.lo = b.lo) (h3 : a.hi = b.hi) : a = b := by
  cases a; cases b; simp only at h1 h2 h3; subst h1 h2 h3; rfl
end Go.Proofs.YtdpnphnafidpiaaGreat
