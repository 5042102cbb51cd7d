/- X-PARTIAL The law TokenNames, walked: layer 10. -/
import Derived.Test.YtgaecojdebpcgaaDoorTokW
import Derived.Test.YtgaecojdebpcgaaDoorTokE
namespace Go.Proofs.YtgaecojdebpcgaaDoor
open Go.RowKit Go.Lib

set_option maxRecDepth 1000000 in
set_option maxHeartbeats 4000000 in
theorem law_tokenNames (s : Str) (L : List Tok) (A : Option Addr) (cp : Nat) (w : World) (hl : Lib.lens (L.map Tok.t) + L.length ≤ 1048576) (hr : TRow w A L) (hv : RV w) :
    Calls Tryd.prog 4 #[encStr s, .slice A L.length cp] w fun e w' => e = .returned (.bool true) ∧ Below w.heap.size w w' := by
  have hj : (Lib.join (L.map Tok.t) [32]).length ≤ 140737488355328 := by
    rw [← joinB_all]
    have := joinB_len L L.length
    omega
  have H1 := Lib.hid (token_Name s)
  have H2 := Lib.hid (r10_Name s)
  have H3 := Lib.hid (token_Word s)
  have H4 := Lib.hid (r10_Word s)
  have H5 := Lib.hid (fun w' (hb : Below w.heap.size w w') => token_Join L A cp w' (by omega) hj (hr.mono hb))
  have H6 := Lib.hid (fun w' (hb : Below w.heap.size w w') => r10_Join L A cp w' (by omega) (hr.mono hb))
  have H7 := Lib.hid (fun w' (hb : Below w.heap.size w w') => law10_lives w' (hv.mono hb))
  clear hl hj hr hv
  generalize isName s = b1 at *
  generalize isWord s = b2 at *
  generalize Lib.join (L.map Tok.t) [32] = x at *
  go_enter Tryd.func4, Tryd.ntmps4
  have hB := Below.refl w.heap.size w
  go_wp2_with fail
  go_at_call 10
  refine (H1.out _).mono ?_
  rintro e w0 ⟨rfl, hb⟩
  replace hB := hB.trans (hb.mono hB.size)
  clear hb
  go_wp2_with fail
  go_at_call 11
  refine (H2.out _).mono ?_
  rintro e w1 ⟨rfl, hb⟩
  replace hB := hB.trans (hb.mono hB.size)
  clear hb
  go_wp2_with fail
  go_at_call 12
  refine (H3.out _).mono ?_
  rintro e w2 ⟨rfl, rfl⟩
  go_wp2_with fail
  go_at_call 13
  refine (H4.out _).mono ?_
  rintro e w3 ⟨rfl, hb⟩
  replace hB := hB.trans (hb.mono hB.size)
  clear hb
  go_wp2_with fail
  go_at_call 14
  refine (H5.out _ hB).mono ?_
  rintro e w4 ⟨rfl, hb⟩
  replace hB := hB.trans (hb.mono hB.size)
  clear hb
  go_wp2_with fail
  go_at_call 15
  refine (H6.out _ hB).mono ?_
  rintro e w5 ⟨rfl, hb⟩
  replace hB := hB.trans (hb.mono hB.size)
  clear hb
  go_wp2_with fail
  go_at_call 9
  refine (H7.out _ hB).mono ?_
  rintro e w6 ⟨rfl, hb⟩
  replace hB := hB.trans (hb.mono hB.size)
  clear hb
  go_wp2_with fail
  go_ret
  exact ⟨rfl, hB⟩
end Go.Proofs.YtgaecojdebpcgaaDoor
