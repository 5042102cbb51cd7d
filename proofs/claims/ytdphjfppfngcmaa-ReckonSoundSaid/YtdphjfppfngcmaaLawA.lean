/- X-PARTIAL The laws of layer 1 that speak of sums and of how wide numbers stand, walked. -/
import Derived.Test.YtdphjfppfngcmaaWideB
import Derived.Test.YtdphjfppfngcmaaRefE
namespace Go.Proofs.Ytdphjfppfngcmaa
open Go.RowKit

theorem lives_hi : hiW (-9223372036854775808 * -9223372036854775808) = 4611686018427387904 := by unfold hiW M64; omega
theorem lives_lo : loW (-9223372036854775808 * -9223372036854775808) = 0 := by unfold loW M64; omega
theorem lives_clamp : clampI (wv 4611686018427387904 0) = 9223372036854775807 := by
  have e : wv 4611686018427387904 0 = 85070591730234615865843651857942052864 := by unfold wv M64; omega
  rw [e]; rfl
end Go.Proofs.Ytdphjfppfngcmaa
