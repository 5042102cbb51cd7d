/- X-PARTIAL What each function of package wide returns: layer 1, what calls others. -/
import Derived.Test.YtdpnphnafidpiaaWide
import Derived.Test.YtdpnphnafidpiaaKit
import Derived.Deep.RegionHeld3
import Derived.StillTactics
import Derived.Laws.Pointers
import Derived.Shelf.Bits.Mul64
namespace Go.Proofs.Ytdpnphnafidpiaa
open Go.RowKit

theorem U64_0 : U64 0 := by unfold U64 M64; omega

theorem wv00 : wv 0 0 = 0 := rfl

theorem of_hilo {a b : Int} (ha : I64 a) (hb : U64 b) : ∃ v, I128 v ∧ a = hiW v ∧ b = loW v ∧ wv a b = v :=
  ⟨wv a b, I128_wv ha hb, (hiW_wv a b hb).symm, (loW_wv a b hb).symm, rfl⟩

theorem mul_n2 (p x y : Int) : wrap64 (IntKind.u64.wrap (IntKind.u64.wrap (p - y) - x)) = wrap64 ((p - y - x) % 18446744073709551616) := by
  rw [wrapu, wrapu]; unfold wrap64; omega

theorem mul_n1 (p y : Int) : wrap64 (IntKind.u64.wrap (p - y)) = wrap64 ((p - y) % 18446744073709551616) := by
  rw [wrapu]

theorem mul_n0 (p : Int) : wrap64 p = wrap64 (p % 18446744073709551616) := by
  unfold wrap64; omega

end Go.Proofs.Ytdpnphnafidpiaa
