/- X-PARTIAL What each function of package wide returns: layer 1, what calls others. -/
import Derived.Test.YtdphjfppfngcmaaWide
import Derived.Test.YtdphjfppfngcmaaKit
import Derived.Deep.RegionHeld3
import Derived.StillTactics
import Derived.Laws.Pointers
import Derived.Shelf.Bits.Mul64
namespace Go.Proofs.Ytdphjfppfngcmaa
open Go.RowKit

theorem U64_0 : U64 0 := by unfold U64 M64; omega
theorem wv00 : wv 0 0 = 0 := rfl

set_option maxHeartbeats 400000 in
theorem wide_neg (a b : Int) (hb : U64 b) (w : World) :
    Calls Try.prog 74 #[.agg #[.int .i64 a, .int .u64 b]] w fun e w' =>
      e = .returned (.agg #[.int .i64 (hiW (wrap128 (-wv a b))), .int .u64 (loW (wrap128 (-wv a b)))]) ∧ Below w.heap.size w w' := by
  have hs := fun w => wide_sub 0 0 a b U64_0 hb w
  rw [wv00, Int.zero_sub] at hs
  have H := Lib.hid hs; clear hs
  go_enter Try.func74, Try.ntmps74
  go_wp2_with (go_at_call 64; (with_reducible refine (H.out _).mono ?_); rintro e w1 ⟨rfl, hb1⟩; obtain ⟨hc1, hf1⟩ := bcell hb1; have hz1 := hb1.size; (try simp at hz1); (try have hy1 := Nat.lt_of_succ_le hz1); (try have hv1 := Nat.lt_of_succ_lt hy1); (try have hw10 : w.heap.size < w1.heap.size := by omega); (try have hw11 : w.heap.size + 1 < w1.heap.size := by omega); (try have hw12 : w.heap.size + 1 + 1 < w1.heap.size := by omega); (try have hw13 : w.heap.size + 1 + 1 + 1 < w1.heap.size := by omega))
  exact bodyPost_ret (by simp [results, Try.results74, go_sem, *] <;> rfl) rfl ⟨rfl, (by repeat (first | (with_reducible assumption) | (with_reducible exact Below.refl _ _) | (with_reducible refine Below.alloc ?_ (by first | omega | (simp; omega) | (simp; done) | (dsimp only; omega)) _) | (with_reducible refine Below.setCell ?_ (by first | omega | (simp; omega) | (simp; done) | (dsimp only; omega)) _) | (with_reducible refine Below.drew ?_) | (with_reducible refine Below.trans ?_ (Below.mono (by assumption) (by first | omega | (simp; omega) | (simp; done) | (dsimp only; omega))))))⟩

set_option maxHeartbeats 400000 in
theorem wide_low (a b : Int) (w : World) :
    Calls Try.prog 39 #[.agg #[.int .i64 a, .int .u64 b]] w fun e w' =>
      e = .returned (.int .i64 (lowI b)) ∧ Below w.heap.size w w' := by
  go_enter Try.func39, Try.ntmps39
  go_wp2
  go_ret
  exact ⟨rfl, (by repeat (first | (with_reducible assumption) | (with_reducible exact Below.refl _ _) | (with_reducible refine Below.alloc ?_ (by first | omega | (simp; omega) | (simp; done) | (dsimp only; omega)) _) | (with_reducible refine Below.setCell ?_ (by first | omega | (simp; omega) | (simp; done) | (dsimp only; omega)) _) | (with_reducible refine Below.drew ?_) | (with_reducible refine Below.trans ?_ (Below.mono (by assumption) (by first | omega | (simp; omega) | (simp; done) | (dsimp only; omega))))))⟩

set_option maxHeartbeats 400000 in
theorem wide_cmp (a b c d : Int) (hb : U64 b) (hd : U64 d) (w : World) :
    Calls Try.prog 38 #[.agg #[.int .i64 a, .int .u64 b], .agg #[.int .i64 c, .int .u64 d]] w fun e w' =>
      e = .returned (.int .i64 (cmpI (wv a b) (wv c d))) ∧ Below w.heap.size w w' := by
  go_enter Try.func38, Try.ntmps38
  go_wp2
  all_goals
    go_ret
    refine ⟨ret_int ?_, (by repeat (first | (with_reducible assumption) | (with_reducible exact Below.refl _ _) | (with_reducible refine Below.alloc ?_ (by first | omega | (simp; omega) | (simp; done) | (dsimp only; omega)) _) | (with_reducible refine Below.setCell ?_ (by first | omega | (simp; omega) | (simp; done) | (dsimp only; omega)) _) | (with_reducible refine Below.drew ?_) | (with_reducible refine Below.trans ?_ (Below.mono (by assumption) (by first | omega | (simp; omega) | (simp; done) | (dsimp only; omega))))))⟩
    unfold U64 at hb hd; unfold cmpI wv; unfold M64 at *
    split
    · omega
    · split <;> omega

theorem of_hilo {a b : Int} (ha : I64 a) (hb : U64 b) : ∃ v, I128 v ∧ a = hiW v ∧ b = loW v ∧ wv a b = v :=
  ⟨wv a b, I128_wv ha hb, (hiW_wv a b hb).symm, (loW_wv a b hb).symm, rfl⟩

set_option maxHeartbeats 1000000 in
theorem bits_mul64n (x y : Nat) (hx : x < 18446744073709551616) (hy : y < 18446744073709551616) (w : World) :
    Calls Try.prog 85 #[.int .u64 x, .int .u64 y] w fun e w' =>
      e = .returned (.tuple #[.int .u64 ((x * y / 18446744073709551616 : Nat) : Int), .int .u64 ((x * y % 18446744073709551616 : Nat) : Int)]) ∧ w = w' := by
  obtain ⟨bd, bt, bw, hhi⟩ := Lib.mul64_hi x y hx hy
  have ba := Lib.half_mul_le (a := x / 4294967296) (b := y / 4294967296) (by omega) (by omega)
  have bb := Lib.half_mul_le (a := x / 4294967296) (b := y % 4294967296) (by omega) (by omega)
  have bc := Lib.half_mul_le (a := x % 4294967296) (b := y / 4294967296) (by omega) (by omega)
  have ba' : x / 4294967296 * (y / 4294967296) < 18446744073709551616 := by omega
  have bb' : x / 4294967296 * (y % 4294967296) < 18446744073709551616 := by omega
  have bc' : x % 4294967296 * (y / 4294967296) < 18446744073709551616 := by omega
  have bh1 : x / 4294967296 * (y / 4294967296) + (x / 4294967296 * (y % 4294967296) + x % 4294967296 * (y % 4294967296) / 4294967296) / 4294967296 < 18446744073709551616 := by omega
  have bh : x / 4294967296 * (y / 4294967296) + (x / 4294967296 * (y % 4294967296) + x % 4294967296 * (y % 4294967296) / 4294967296) / 4294967296 + ((x / 4294967296 * (y % 4294967296) + x % 4294967296 * (y % 4294967296) / 4294967296) % 4294967296 + x % 4294967296 * (y / 4294967296)) / 4294967296 < 18446744073709551616 := by omega
  go_enter Try.func85, Try.ntmps85
  go_wp2
  simp only [Mul64.maskN x hx, Mul64.maskN y hy, Mul64.divN, Mul64.mulN, Mul64.addN, Mul64.wrapN _ bd, Mul64.wrapN _ bb', Mul64.wrapN _ bt, Mul64.maskN _ bt, Mul64.wrapN _ bc', Mul64.wrapN _ bw, Mul64.wrapN _ ba', Mul64.wrapN _ bh1, Mul64.wrapN _ bh, Mul64.wrapM (x * y)]
  rw [hhi]
  go_ret2
  exact ⟨rfl, rfl⟩

theorem bits_mul64 (x y : Int) (hx : U64 x) (hy : U64 y) (w : World) :
    Calls Try.prog 85 #[.int .u64 x, .int .u64 y] w fun e w' =>
      e = .returned (.tuple #[.int .u64 (x * y / 18446744073709551616), .int .u64 (x * y % 18446744073709551616)]) ∧ w = w' := by
  unfold U64 M64 at hx hy
  obtain ⟨x, rfl⟩ := Int.eq_ofNat_of_zero_le hx.1
  obtain ⟨y, rfl⟩ := Int.eq_ofNat_of_zero_le hy.1
  exact bits_mul64n x y (by omega) (by omega) w

theorem mul_n2 (p x y : Int) : wrap64 (IntKind.u64.wrap (IntKind.u64.wrap (p - y) - x)) = wrap64 ((p - y - x) % 18446744073709551616) := by
  rw [wrapu, wrapu]; unfold wrap64; omega
theorem mul_n1 (p y : Int) : wrap64 (IntKind.u64.wrap (p - y)) = wrap64 ((p - y) % 18446744073709551616) := by
  rw [wrapu]
theorem mul_n0 (p : Int) : wrap64 p = wrap64 (p % 18446744073709551616) := by
  unfold wrap64; omega
set_option maxHeartbeats 400000 in
theorem wide_mul (a b : Int) (ha : I64 a) (hb : I64 b) (w : World) :
    Calls Try.prog 71 #[.int .i64 a, .int .i64 b] w fun e w' =>
      e = .returned (.agg #[.int .i64 (hiW (a * b)), .int .u64 (loW (a * b))]) ∧ Below w.heap.size w w' := by
  have HM := Lib.hid (bits_mul64 (IntKind.u64.wrap a) (IntKind.u64.wrap b) (U64.wrap a) (U64.wrap b))
  have HF := mul_fix a b ha hb _ _ rfl rfl
  clear ha hb
  by_cases h1 : a < 0 <;> by_cases h2 : b < 0
  all_goals
    simp only [h1, h2, if_true, if_false, Int.sub_zero] at HF
    rw [← HF.1, ← HF.2]; clear HF
    go_enter Try.func71, Try.ntmps71
    go_wp2_with (go_at_call 85; refine (HM.out _).mono ?_; rintro e w1 ⟨rfl, rfl⟩)
    refine bodyPost_ret (by simp [results, Try.results71, go_sem] <;> rfl) rfl ⟨ret_v ?_, (by repeat (first | (with_reducible assumption) | (with_reducible exact Below.refl _ _) | (with_reducible refine Below.alloc ?_ (by first | omega | (simp; omega) | (simp; done) | (dsimp only; omega)) _) | (with_reducible refine Below.setCell ?_ (by first | omega | (simp; omega) | (simp; done) | (dsimp only; omega)) _) | (with_reducible refine Below.drew ?_) | (with_reducible refine Below.trans ?_ (Below.mono (by assumption) (by first | omega | (simp; omega) | (simp; done) | (dsimp only; omega))))))⟩
    first | rw [mul_n2] | rw [mul_n1] | rw [← mul_n0]
end Go.Proofs.Ytdphjfppfngcmaa
