/- X-PARTIAL The law KeyReads, walked: layer 26. -/
import Derived.Test.YtoclpodjigfmgaaDoorKeyM
import Derived.Test.YtoclpodjigfmgaaDoorKeyG
namespace Go.Proofs.YtoclpodjigfmgaaDoor
open Go.RowKit Go.Lib

set_option maxRecDepth 1000000 in
set_option maxHeartbeats 4000000 in
theorem law_keyReads (s : Str) (w : World) (hm : s.length ≤ 281474976710656) (hv : RV w) (ht : TV w) :
    Calls Tryd.prog 6 #[encStr s] w fun e w' => e = .returned (.bool true) ∧ Below w.heap.size w w' := by
  have H1 := Lib.hid (key_Read s w hm hv)
  have H2 := Lib.hid (fun w' => r26_Read s w' hm)
  have HV := Lib.hid hv
  have HT := Lib.hid ht
  clear hm hv ht
  generalize readK s = R at *
  obtain ⟨⟨n, d⟩, e0⟩ := R
  dsimp only at H1 H2
  go_enter Tryd.func6, Tryd.ntmps6
  go_wp2_with fail
  go_at_call 24
  refine H1.out.mono ?_
  rintro e w1 ⟨rfl, hb1⟩
  have k1 := al_new w1 (.cells #[encStr n, .int .i64 d] 24) rfl
  have hB1 : Below w.heap.size w (w1.alloc (.cells #[encStr n, .int .i64 d] 24)) := hb1.alloc hb1.size _
  clear H1 hb1
  go_wp2_with fail
  go_at_call 26
  refine (H2.out _).mono ?_
  rintro e w2 ⟨rfl, hb2⟩
  have k2 := (hb2.block w1.heap.size (blk_lt k1)).trans k1
  have hB2 := hB1.trans (hb2.mono hB1.size)
  have hz : w1.heap.size < w2.heap.size := blk_lt k2
  have hV2 := Lib.hid (HV.out.mono hB2)
  have hT2 := Lib.hid (HT.out.mono hB2)
  have c0 : w2.cell? ⟨w1.heap.size, 0, none⟩ = some (encStr n) := by simp [World.cell?, k2]
  have c1 : w2.cell? ⟨w1.heap.size, 1, none⟩ = some (.int .i64 d) := by simp [World.cell?, k2]
  have hB3 : Below w.heap.size w (w2.alloc (.cells #[encStr n, .int .i64 d] 24)) := hB2.alloc hB2.size _
  have hb3 : Below w2.heap.size w2 (w2.alloc (.cells #[encStr n, .int .i64 d] 24)) := (Below.refl _ w2).alloc (Nat.le_refl _) _
  have H3 := Lib.hid (law26_lives _ (hV2.out.mono hb3) (hT2.out.mono hb3))
  have HB3 := Lib.hid hB3
  clear H2 hb2 k1 hB1 k2 HV HT hV2 hT2 hB2 hB3 hb3
  go_wp2_with fail
  go_at_call 19
  refine H3.out.mono ?_
  rintro e w3 ⟨rfl, hb4⟩
  go_wp2_with fail
  go_ret
  exact ⟨rfl, HB3.out.trans (hb4.mono HB3.out.size)⟩
end Go.Proofs.YtoclpodjigfmgaaDoor
