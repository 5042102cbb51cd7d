/- What the functions of package gauge return at the few numbers that the law's own trial takes: layer 35. -/
import Derived.Test.YtphicgdllhmgdaaRows
import Derived.Test.YtphicgdllhmgdaaLt
import Derived.Test.YtphicgdllhmgdaaSeqg
import Derived.WalkLawsBesides
namespace Go.Proofs.Ytphicgdllhmgdaa
open Go.RowKit

set_option maxHeartbeats 1000000 in
theorem gauge_part3 (w : World) : Calls Try.prog 64 #[.int .i64 3] w fun e w' => e = .returned (.float .f64 4613937818241073152) ∧ w = w' := by
  go_enter Try.func64, Try.ntmps64
  go_wp2
  go_outline
  go_ret
  exact ⟨rfl, rfl⟩
end Go.Proofs.Ytphicgdllhmgdaa
