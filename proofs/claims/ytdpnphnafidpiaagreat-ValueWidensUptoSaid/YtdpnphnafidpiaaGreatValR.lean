/- X-PARTIAL What sondageref08.far returns: layer 8. -/
import Derived.Test.YtdpnphnafidpiaaGreatValAC
import Derived.Test.YtdpnphnafidpiaaGreatRefE
namespace Go.Proofs.YtdpnphnafidpiaaGreat
open Go.RowKit

/-- How far, of the size of a difference and its sign. -/
theorem far_pos {v m : Int} (h : 0 ≤ v) (_hm : 0 < m) : v.tmod m = v % m := Int.tmod_eq_emod_of_nonneg h
theorem far_neg {v m : Int} (hm : 0 < m) : v % m = if 0 < (-v) % m then m - (-v) % m else 0 := by
  have h0 := Int.emod_nonneg (-v) (show m ≠ 0 by omega)
  have h1 := Int.emod_lt_of_pos (-v) hm
  have d : m ∣ -v - (-v) % m := Int.dvd_self_sub_emod
  split
  · next h =>
    refine (mod_dvd (by omega) (by omega)).2 ?_
    have := Int.dvd_sub (Int.dvd_neg.2 d) (Int.dvd_refl m)
    rwa [show -(-v - (-v) % m) - m = v - (m - (-v) % m) by omega] at this
  · next h =>
    refine (mod_dvd (by omega) hm).2 ?_
    have := Int.dvd_neg.2 d
    rwa [show -(-v - (-v) % m) = v - 0 by omega] at this
theorem loW_small {v : Int} (h0 : 0 ≤ v) (h1 : v < 18446744073709551616) : loW v = v := by unfold loW M64; omega
end Go.Proofs.YtdpnphnafidpiaaGreat
