/- Greatest common divisors and rests: layer 5. -/
import Derived.Test.YtbjdiaakhlgcgaaRows
import Derived.Test.YtbjdiaakhlgcgaaSeqg
import Derived.Test.YtbjdiaakhlgcgaaMathA
import Derived.Test.YtbjdiaakhlgcgaaLt
import Derived.Deep.DeepCutAuto
import Derived.ScopeJumps
import Derived.RegionTactic
import Derived.ChangeAlike
import Derived.IntWalk
namespace Go.Proofs.Ytbjdiaakhlgcgaa
open Go.RowKit

/-- The rest of n by m, from 0 on; n itself if m isn't above 0. -/
def modI (n m : Int) : Int := if m ≤ 0 then n else n % m

theorem tmod_mod {n m : Int} (hm : 0 < m) : n % m = if n.tmod m < 0 then n.tmod m + m else n.tmod m := by
  rw [Int.tmod_eq_emod]
  have h1 := Int.emod_nonneg n (show m ≠ 0 by omega)
  have h2 := Int.emod_lt_of_pos n hm
  split
  · next h => rw [if_neg (by omega)]; omega
  · next h =>
    have : (m.natAbs : Int) = m := by omega
    rw [this, if_pos (by omega)]; omega
theorem tmod_bd {n m : Int} (hm : 0 < m) : -m ≤ n.tmod m ∧ n.tmod m < m := by
  have h := tmod_mod (n := n) hm
  have h1 := Int.emod_nonneg n (show m ≠ 0 by omega)
  have h2 := Int.emod_lt_of_pos n hm
  split at h <;> omega

set_option maxHeartbeats 1000000 in
theorem cong_mod (n m : Int) (hm : I64 m) (w : World) :
    Calls Try.prog 38 #[.int .i64 n, .int .i64 m] w fun e w' => e = .returned (.int .i64 (modI n m)) ∧ w = w' := by
  unfold I64 at hm
  by_cases h0 : m ≤ 0
  · rw [show modI n m = n from if_pos h0]
    go_enter Try.func38, Try.ntmps38
    go_wp2
    go_ret
    exact ⟨rfl, rfl⟩
  · have e : modI n m = n % m := if_neg h0
    rw [e, tmod_mod (by omega)]
    have hb := tmod_bd (n := n) (m := m) (by omega)
    have hm0 : (m == 0) = false := by simp; omega
    have hm1 : ¬ m = 0 := by omega
    have hw : IntKind.i64.wrap (n.tmod m) = n.tmod m := IntWalk.i64_in _ (by omega)
    clear e
    by_cases h1 : n.tmod m < 0
    · rw [if_pos h1]
      go_enter Try.func38, Try.ntmps38
      go_wp2
      go_ret
      exact ⟨rfl, rfl⟩
    · rw [if_neg h1]
      go_enter Try.func38, Try.ntmps38
      go_wp2
      go_ret
      exact ⟨rfl, rfl⟩

set_option maxHeartbeats 1000000 in
theorem cong_gcd (a b : Nat) (_ha : a < 18446744073709551616) (hb : b < 18446744073709551616) (w : World) :
    Calls Try.prog 39 #[.int .u64 a, .int .u64 b] w fun e w' => e = .returned (.int .u64 (Nat.gcd a b : Nat)) ∧ Below w.heap.size w w' := by
  go_enter Try.func39, Try.ntmps39
  go_wp2
  refine wp_scope_jumps 0 (fun a' w' => Below w.heap.size w w' ∧ ∃ (x y : Nat) (u2 u3 u5 u6 u7 u8 u9 u10 u11 : Value), a' = { tmps := #[.int .u64 x, .int .u64 y, u2, u3, .int .u64 0, u5, u6, u7, u8, u9, u10, u11], defers := [] } ∧ x < 18446744073709551616 ∧ y < 18446744073709551616 ∧ Nat.gcd x y = Nat.gcd a b)
    (fun a' _ => (intOf (a'.tmps.getD 1 undef)).toNat) rfl ?_ ?_
  · go_wp2
    go_step3
    by_cases h0 : b = 0
    · subst h0
      go_wp2
      simp only [Exit.jump]
      go_ret
      exact ⟨ret_int (by simp), (by repeat (first | (with_reducible assumption) | (with_reducible exact Below.refl _ _) | (with_reducible refine Below.alloc ?_ (by first | omega | (simp; omega) | (simp; done) | (dsimp only; omega)) _) | (with_reducible refine Below.setCell ?_ (by first | omega | (simp; omega) | (simp; done) | (dsimp only; omega)) _) | (with_reducible refine Below.drew ?_) | (with_reducible refine Below.trans ?_ (Below.mono (by assumption) (by first | omega | (simp; omega) | (simp; done) | (dsimp only; omega))))))⟩
    · have h1 : (((b : Nat) : Int) == 0) = false := by simpa using h0
      have h2 : ¬ ((b : Nat) : Int) = 0 := by simpa using h0
      have h3 : ((a : Nat) : Int).tmod (b : Nat) = ((a % b : Nat) : Int) := (Int.ofNat_tmod a b).symm
      have h4 : a % b < b := Nat.mod_lt _ (by omega)
      go_wp2
      go_region
      go_wp2
      go_step3
      refine ⟨rfl, (by repeat (first | (with_reducible assumption) | (with_reducible exact Below.refl _ _) | (with_reducible refine Below.alloc ?_ (by first | omega | (simp; omega) | (simp; done) | (dsimp only; omega)) _) | (with_reducible refine Below.setCell ?_ (by first | omega | (simp; omega) | (simp; done) | (dsimp only; omega)) _) | (with_reducible refine Below.drew ?_) | (with_reducible refine Below.trans ?_ (Below.mono (by assumption) (by first | omega | (simp; omega) | (simp; done) | (dsimp only; omega)))))), b, a % b, _, _, _, _, _, _, _, _, _, rfl, hb, by omega, ?_⟩
      rw [Nat.gcd_comm a b, Nat.gcd_rec b a, Nat.gcd_comm]
  · rintro a' w' ⟨hB, x, y, u2, u3, u5, u6, u7, u8, u9, u10, u11, rfl, hx, hy, hg⟩
    have HG := Lib.hid hg
    clear hg
    by_cases h0 : y = 0
    · subst h0
      go_wp2
      simp only [Exit.jump]
      go_ret
      exact ⟨ret_int (by rw [← HG.out]; simp), (by repeat (first | (with_reducible assumption) | (with_reducible exact Below.refl _ _) | (with_reducible refine Below.alloc ?_ (by first | omega | (simp; omega) | (simp; done) | (dsimp only; omega)) _) | (with_reducible refine Below.setCell ?_ (by first | omega | (simp; omega) | (simp; done) | (dsimp only; omega)) _) | (with_reducible refine Below.drew ?_) | (with_reducible refine Below.trans ?_ (Below.mono (by assumption) (by first | omega | (simp; omega) | (simp; done) | (dsimp only; omega))))))⟩
    · have h1 : (((y : Nat) : Int) == 0) = false := by simpa using h0
      have h2 : ¬ ((y : Nat) : Int) = 0 := by simpa using h0
      have h3 : ((x : Nat) : Int).tmod (y : Nat) = ((x % y : Nat) : Int) := (Int.ofNat_tmod x y).symm
      have h4 : x % y < y := Nat.mod_lt _ (by omega)
      go_wp2
      go_region
      go_wp2
      go_step3
      refine ⟨rfl, ⟨(by repeat (first | (with_reducible assumption) | (with_reducible exact Below.refl _ _) | (with_reducible refine Below.alloc ?_ (by first | omega | (simp; omega) | (simp; done) | (dsimp only; omega)) _) | (with_reducible refine Below.setCell ?_ (by first | omega | (simp; omega) | (simp; done) | (dsimp only; omega)) _) | (with_reducible refine Below.drew ?_) | (with_reducible refine Below.trans ?_ (Below.mono (by assumption) (by first | omega | (simp; omega) | (simp; done) | (dsimp only; omega)))))), y, x % y, _, _, _, _, _, _, _, _, _, rfl, hy, by omega, ?_⟩, ?_⟩
      · rw [← HG.out, Nat.gcd_comm x y, Nat.gcd_rec y x, Nat.gcd_comm]
      · simp [intOf]; omega

/-- The document's own: the lesser is taken away. -/
def GcdRel (a b : Nat) (w : World) (s0 s1 : Value) (wx : World) : Prop :=
  ∃ x y : Nat, s0 = .int .u64 x ∧ s1 = .int .u64 y ∧ x < 18446744073709551616 ∧ y < 18446744073709551616 ∧ Nat.gcd x y = Nat.gcd a b ∧ Below w.heap.size w wx

set_option maxHeartbeats 1000000 in
theorem r5_gcd (a b : Nat) (ha : a < 18446744073709551616) (hb : b < 18446744073709551616) (w : World) :
    Calls Try.prog 40 #[.int .u64 a, .int .u64 b] w fun e w' => e = .returned (.int .u64 (Nat.gcd a b : Nat)) ∧ Below w.heap.size w w' := by
  go_enter Try.func40, Try.ntmps40
  go_wp2
  go_loopw [0, 1] (fun s0 s1 wx => GcdRel a b w s0 s1 wx) (fun s0 s1 _ => (intOf s0).toNat + (intOf s1).toNat)
  case atStart => exact ⟨a, b, rfl, rfl, ha, hb, rfl, (by repeat (first | (with_reducible assumption) | (with_reducible exact Below.refl _ _) | (with_reducible refine Below.alloc ?_ (by first | omega | (simp; omega) | (simp; done) | (dsimp only; omega)) _) | (with_reducible refine Below.setCell ?_ (by first | omega | (simp; omega) | (simp; done) | (dsimp only; omega)) _) | (with_reducible refine Below.drew ?_) | (with_reducible refine Below.trans ?_ (Below.mono (by assumption) (by first | omega | (simp; omega) | (simp; done) | (dsimp only; omega))))))⟩
  case round =>
    obtain ⟨x, y, rfl, rfl, hx, hy, hg, hB⟩ := hrel
    have HG := Lib.hid hg
    clear hg
    by_cases h0 : x = 0
    · subst h0
      go_wp2
      go_ret
      exact ⟨ret_int (by rw [← HG.out]; simp), (by repeat (first | (with_reducible assumption) | (with_reducible exact Below.refl _ _) | (with_reducible refine Below.alloc ?_ (by first | omega | (simp; omega) | (simp; done) | (dsimp only; omega)) _) | (with_reducible refine Below.setCell ?_ (by first | omega | (simp; omega) | (simp; done) | (dsimp only; omega)) _) | (with_reducible refine Below.drew ?_) | (with_reducible refine Below.trans ?_ (Below.mono (by assumption) (by first | omega | (simp; omega) | (simp; done) | (dsimp only; omega))))))⟩
    · have h1 : (((x : Nat) : Int) == 0) = false := by simpa using h0
      have h1' : (((x : Nat) : Int) != 0) = true := by simpa using h0
      have h2 : ¬ ((x : Nat) : Int) = 0 := by simpa using h0
      by_cases g0 : y = 0
      · subst g0
        have hx2 : (x : Int) < 18446744073709551616 := by omega
        go_wp2
        go_ret
        exact ⟨ret_int (by rw [← HG.out]; simp), (by repeat (first | (with_reducible assumption) | (with_reducible exact Below.refl _ _) | (with_reducible refine Below.alloc ?_ (by first | omega | (simp; omega) | (simp; done) | (dsimp only; omega)) _) | (with_reducible refine Below.setCell ?_ (by first | omega | (simp; omega) | (simp; done) | (dsimp only; omega)) _) | (with_reducible refine Below.drew ?_) | (with_reducible refine Below.trans ?_ (Below.mono (by assumption) (by first | omega | (simp; omega) | (simp; done) | (dsimp only; omega))))))⟩
      · have g1 : (((y : Nat) : Int) == 0) = false := by simpa using g0
        have g1' : (((y : Nat) : Int) != 0) = true := by simpa using g0
        have g2 : ¬ ((y : Nat) : Int) = 0 := by simpa using g0
        by_cases hc : y ≤ x
        · have h3 : ((x : Nat) : Int).tmod (y : Nat) = ((x % y : Nat) : Int) := (Int.ofNat_tmod x y).symm
          have h4 : x % y < y := Nat.mod_lt _ (by omega)
          go_wp2
          go_roundw
          case rel => exact ⟨x % y, y, rfl, rfl, by omega, hy, by rw [← HG.out, Nat.gcd_comm x y, Nat.gcd_rec y x], hB⟩
          case measure => simp [intOf]; omega
        · have h3 : ((y : Nat) : Int).tmod (x : Nat) = ((y % x : Nat) : Int) := (Int.ofNat_tmod y x).symm
          have h4 : y % x < x := Nat.mod_lt _ (by omega)
          go_wp2
          go_roundw
          case rel => exact ⟨x, y % x, rfl, rfl, hx, by omega, by rw [← HG.out, Nat.gcd_rec x y, Nat.gcd_comm], hB⟩
          case measure => simp [intOf]; omega

/-- Congruences as plain data. -/
structure Cg where
  s : Bool
  m : Int
  r : Int
def Cg.zero : Cg := ⟨false, 0, 0⟩
def Cg.clean (c : Cg) : Cg := if c.s = true then (if c.m < 0 then ⟨true, 1, modI c.r 1⟩ else ⟨true, c.m, modI c.r c.m⟩) else Cg.zero
def Cg.of (m r : Int) : Cg := Cg.clean ⟨true, m, r⟩
end Go.Proofs.Ytbjdiaakhlgcgaa
