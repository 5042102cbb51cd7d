/- X-PARTIAL The law MemNone, walked: layer 19. -/
import Derived.Test.YtpjocnnmienfpaaMemV
namespace Go.Proofs.Ytpjocnnmienfpaa
open Go.RowKit Go.Lib

set_option maxRecDepth 100000 in
set_option maxHeartbeats 4000000 in
theorem law_memNone (s : ByteArray) (i : Int) (pb : Bool) (n : Int) (ts : ByteArray) (ti : Int) (w : World) :
    Calls Try.prog 3 #[.agg #[.string s, .int .i64 i], .agg #[.bool pb, .int .i64 n, .string ts, .int .i64 ti]] w fun e w' => e = .returned (.bool true) ∧ Below w.heap.size w w' := by
  have H1 := Lib.hid (nil_get s i)
  have H2 := Lib.hid (nil_place s i)
  have H3 := Lib.hid (nil_set s i pb n ts ti)
  have H4 := Lib.hid nil_all
  have H5 := Lib.hid law19_lives
  go_enter Try.func3, Try.ntmps3
  go_wp2_with fail
  have hb0 : Below w.heap.size w ((w.alloc (.cells #[.string s, .int .i64 i] 23)).alloc (.cells #[.bool pb, .int .i64 n, .string ts, .int .i64 ti] 25)) := ((Below.refl _ w).alloc (Nat.le_refl _) _).alloc (by simp) _
  have k0 : ((w.alloc (.cells #[.string s, .int .i64 i] 23)).alloc (.cells #[.bool pb, .int .i64 n, .string ts, .int .i64 ti] 25)).heap[w.heap.size]? = some (.cells #[.string s, .int .i64 i] 23) := (Below.heap_alloc _ _ _ (by simp)).trans (al_new w _ rfl)
  have k1 := al_new (w.alloc (.cells #[.string s, .int .i64 i] 23)) (.cells #[.bool pb, .int .i64 n, .string ts, .int .i64 ti] 25) rfl
  rw [World.size_alloc] at k1
  generalize (w.alloc (.cells #[.string s, .int .i64 i] 23)).alloc (.cells #[.bool pb, .int .i64 n, .string ts, .int .i64 ti] 25) = W0 at *
  go_at_call 4
  refine (H1.out _).mono ?_
  rintro e w1 ⟨rfl, hb1⟩
  have k2 := (hb1.block _ (blk_lt k0)).trans k0
  have k3 := (hb1.block _ (blk_lt k1)).trans k1
  have hB1 := hb0.trans (hb1.mono hb0.size)
  have c0 := blk_cell k2
  have c1 := blk_cell k3
  have z0 := blk_lt k2
  have z1 := blk_lt k3
  clear hb0 hb1 k0 k1 H1
  go_wp2_with fail
  have hbx : Below w1.heap.size w1 (w1.alloc (.cells #[.bool false, .int .i64 0, .string ⟨#[]⟩, .int .i64 0] 25)) := (Below.refl _ w1).alloc (Nat.le_refl _) _
  have kx := al_new w1 (.cells #[.bool false, .int .i64 0, .string ⟨#[]⟩, .int .i64 0] 25) rfl
  have k4 := (hbx.block _ z0).trans k2
  have k5 := (hbx.block _ z1).trans k3
  have hBx := hB1.trans (hbx.mono hB1.size)
  generalize w1.alloc (.cells #[.bool false, .int .i64 0, .string ⟨#[]⟩, .int .i64 0] 25) = X at *
  go_at_call 5
  refine (H2.out _).mono ?_
  rintro e w2 ⟨rfl, hb2⟩
  have k6 := (hb2.block _ (blk_lt k4)).trans k4
  have k7 := (hb2.block _ (blk_lt k5)).trans k5
  have k8 := (hb2.block _ (blk_lt kx)).trans kx
  have hB2 := hBx.trans (hb2.mono hBx.size)
  clear hbx kx k4 k5 hBx hb2 c0 c1 z0 z1 k2 k3 hB1 H2
  have c0 := blk_cell k6
  have c1 := blk_cell k7
  have c2 := blk_cell k8
  have z0 := blk_lt k6
  have z1 := blk_lt k7
  have z2 := blk_lt k8
  go_wp2_with fail
  have hby : Below w2.heap.size w2 (w2.alloc (.cells #[.string ⟨#[]⟩, .int .i64 0] 23)) := (Below.refl _ w2).alloc (Nat.le_refl _) _
  go_at_call 6
  refine (H3.out _).mono ?_
  rintro e w3 ⟨rfl, hb3⟩
  have hb23 : Below w2.heap.size w2 w3 := hby.trans (hb3.mono hby.size)
  have hB3 := hB2.trans (hb23.mono hB2.size)
  clear hby hb3 hb23 c0 c1 c2 z0 z1 z2 k6 k7 k8 hB2 H3
  go_wp2_with fail
  go_at_call 7
  refine (H4.out _).mono ?_
  rintro e w4 ⟨rfl, hb4⟩
  have hB4 := hB3.trans (hb4.mono hB3.size)
  clear hb4 hB3 H4
  go_wp2_with fail
  go_at_call 8
  refine (H5.out _).mono ?_
  rintro e w5 ⟨rfl, hb5⟩
  have hB5 := hB4.trans (hb5.mono hB4.size)
  clear hb5 hB4 H5
  go_wp2_with fail
  go_ret
  exact ⟨rfl, hB5⟩
end Go.Proofs.Ytpjocnnmienfpaa
