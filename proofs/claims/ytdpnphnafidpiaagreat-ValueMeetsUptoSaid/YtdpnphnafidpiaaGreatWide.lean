/- X-PARTIAL What each function of package wide returns: layer 1. -/
import Derived.Test.YtdpnphnafidpiaaGreatRows
import Derived.Test.YtdpnphnafidpiaaGreatMathZ
import Derived.WalkKit
import Derived.WalkSpells
import Derived.WalkLawsBesides
import Derived.Laws.Externs
import Derived.Shelf.Spec.BitsCarry
namespace Go.Proofs.YtdpnphnafidpiaaGreat
open Go.RowKit

theorem sub64 (x y b : Int) (hx : 0 ≤ x) (hx' : x < 18446744073709551616) (hy : 0 ≤ y) (hy' : y < 18446744073709551616) (hb0 : 0 ≤ b) (hb : b ≤ 1) (w : World) :
    (callFunc 107 #[.int .u64 x, .int .u64 y, .int .u64 b]).run Tryz.prog w =
    .ok (.value (.tuple #[.int .u64 ((x - y - b) % 18446744073709551616), .int .u64 (- ((x - y - b) / 18446744073709551616))])) w := by
  obtain ⟨x, rfl⟩ := Int.eq_ofNat_of_zero_le hx
  obtain ⟨y, rfl⟩ := Int.eq_ofNat_of_zero_le hy
  obtain ⟨b, rfl⟩ := Int.eq_ofNat_of_zero_le hb0
  rw [run_callFunc_extern Tryz.func107 (by kernel_rfl) (by kernel_rfl) (by kernel_rfl) (e := sub64Entry) (by kernel_rfl), run_sub64 x y b (by omega)]
  simp only [Result.andThen]
  have e1 : (((x + 18446744073709551616 - y - b) % 18446744073709551616 : Nat) : Int) = ((x : Int) - y - b) % 18446744073709551616 := by omega
  have e2 : ((if x < y + b then 1 else 0 : Nat) : Int) = - (((x : Int) - y - b) / 18446744073709551616) := by split <;> omega
  rw [e1, e2]

theorem sub64_0 (x y : Int) (hx : 0 ≤ x) (hx' : x < 18446744073709551616) (hy : 0 ≤ y) (hy' : y < 18446744073709551616) (w : World) :
    (callFunc 107 #[.int .u64 x, .int .u64 y, .int .u64 0]).run Tryz.prog w =
    .ok (.value (.tuple #[.int .u64 ((x - y) % 18446744073709551616), .int .u64 (- ((x - y) / 18446744073709551616))])) w := by
  simpa using sub64 x y 0 hx hx' hy hy' (Int.le_refl 0) (by decide) w

set_option maxHeartbeats 400000 in
theorem wide_of (n : Int) (hn : I64 n) (w : World) :
    Calls Tryz.prog 98 #[.int .i64 n] w fun e w' => e = .returned (.agg #[.int .i64 (hiW n), .int .u64 (loW n)]) ∧ Below w.heap.size w w' := by
  rw [← of_hi n hn, ← of_lo n]
  go_enter Tryz.func98, Tryz.ntmps98
  go_wp2
  exact bodyPost_ret (by simp [results, Tryz.results98, go_sem] <;> rfl) rfl ⟨rfl, (Below.refl _ _).alloc (Nat.le_refl _) _⟩

set_option maxHeartbeats 400000 in
theorem wide_sub (a b c d : Int) (hb : U64 b) (hd : U64 d) (w : World) :
    Calls Tryz.prog 97 #[.agg #[.int .i64 a, .int .u64 b], .agg #[.int .i64 c, .int .u64 d]] w fun e w' =>
      e = .returned (.agg #[.int .i64 (hiW (wrap128 (wv a b - wv c d))), .int .u64 (loW (wrap128 (wv a b - wv c d)))]) ∧ Below w.heap.size w w' := by
  rw [← sub_hi a b c d, ← sub_lo a b c d]
  have b1 : 0 ≤ b := hb.1
  have d1 : 0 ≤ d := hd.1
  have b2 : b < 18446744073709551616 := hb.2
  have d2 : d < 18446744073709551616 := hd.2
  have k0 : 0 ≤ -((b - d) / 18446744073709551616) := by omega
  have k1 : -((b - d) / 18446744073709551616) ≤ 1 := by omega
  have ua := (U64.wrap a).1
  have uc := (U64.wrap c).1
  have ua2 : IntKind.u64.wrap a < 18446744073709551616 := (U64.wrap a).2
  have uc2 : IntKind.u64.wrap c < 18446744073709551616 := (U64.wrap c).2
  go_enter Tryz.func97, Tryz.ntmps97
  go_wp2_with (first | simp only [sub64_0 b d b1 b2 d1 d2] | simp only [sub64 _ _ _ ua ua2 uc uc2 k0 k1])
  exact bodyPost_ret (by simp [results, Tryz.results97, go_sem] <;> rfl) rfl ⟨rfl, (((Below.refl _ _).alloc (Nat.le_refl _) _).alloc (by simp) _).alloc (by simp; omega) _⟩

end Go.Proofs.YtdpnphnafidpiaaGreat
