/- What each function of package sondageref01 returns. -/
import Derived.Test.YtbjdiaakhlgcgaaRows
import Derived.Test.YtbjdiaakhlgcgaaMathB
import Derived.Test.YtbjdiaakhlgcgaaKit
import Derived.Handy
import Derived.Deep.DeepCutAuto
import Derived.Deep.RegionHeld3
import Derived.StillTactics
import Derived.Laws.Pointers
namespace Go.Proofs.Ytbjdiaakhlgcgaa
open Go.RowKit

set_option maxRecDepth 100000 in
set_option maxHeartbeats 1000000 in
theorem r_digits (a b : Int) (hb : U64 b) (w : World) :
    Calls Try.prog 70 #[.agg #[.int .i64 a, .int .u64 b]] w fun e w' =>
      e = .returned (.agg #[.int .u64 (dg 0 b), .int .u64 (dg 1 b), .int .u64 (dg 2 b), .int .u64 (dg 3 b), .int .u64 (dg 0 (IntKind.u64.wrap a)), .int .u64 (dg 1 (IntKind.u64.wrap a)), .int .u64 (dg 2 (IntKind.u64.wrap a)), .int .u64 (dg 3 (IntKind.u64.wrap a))]) ∧ ∃ C1 C2 C3 : Array Value, w' = (((w.alloc (.cells C1 59)).alloc (.cells C2 75)).alloc (.cells C3 75)).drew := by
  have ha := U64.wrap a
  rw [dg0, dg0, dg1, dg1, dg2, dg2, dg3, dg3]
  have b1 : 0 ≤ b := hb.1
  have b2 : b ≤ 18446744073709551615 := by have := hb.2; unfold M64 at this; omega
  have a1 := ha.1
  have a2 : IntKind.u64.wrap a ≤ 18446744073709551615 := by have := ha.2; unfold M64 at this; omega
  clear ha hb
  go_enter Try.func70, Try.ntmps70
  go_wp2
  go_region
  go_wp2
  go_rounds 5
  exact bodyPost_ret (by simp [results, Try.results70, go_sem, *] <;> rfl) rfl ⟨rfl, _, _, _, rfl⟩

set_option maxRecDepth 100000 in
set_option maxHeartbeats 1000000 in
theorem r_wide (a b c d e f g h : Int) (ha : D16 a) (hb : D16 b) (hc : D16 c) (hd : D16 d) (he : D16 e) (hf : D16 f) (hg : D16 g) (hh : D16 h) (w : World) :
    Calls Try.prog 71 #[.agg #[.int .u64 a, .int .u64 b, .int .u64 c, .int .u64 d, .int .u64 e, .int .u64 f, .int .u64 g, .int .u64 h]] w fun e' w' =>
      e' = .returned (.agg #[.int .i64 (wrap64 (cat4 e f g h)), .int .u64 (cat4 a b c d)]) ∧ Below w.heap.size w w' := by
  unfold cat4
  obtain ⟨a1, a2⟩ := ha
  obtain ⟨b1, b2⟩ := hb
  obtain ⟨c1, c2⟩ := hc
  obtain ⟨d1, d2⟩ := hd
  obtain ⟨e1, e2⟩ := he
  obtain ⟨f1, f2⟩ := hf
  obtain ⟨g1, g2⟩ := hg
  obtain ⟨h1, h2⟩ := hh
  go_enter Try.func71, Try.ntmps71
  go_wp2
  go_rounds 5
  exact bodyPost_ret (by simp [results, Try.results71, go_sem, *] <;> rfl) rfl ⟨rfl, (by repeat (first | (with_reducible assumption) | (with_reducible exact Below.refl _ _) | (with_reducible refine Below.alloc ?_ (by first | omega | (simp; omega) | (simp; done) | (dsimp only; omega)) _) | (with_reducible refine Below.setCell ?_ (by first | omega | (simp; omega) | (simp; done) | (dsimp only; omega)) _) | (with_reducible refine Below.drew ?_) | (with_reducible refine Below.trans ?_ (Below.mono (by assumption) (by first | omega | (simp; omega) | (simp; done) | (dsimp only; omega))))))⟩
end Go.Proofs.Ytbjdiaakhlgcgaa
