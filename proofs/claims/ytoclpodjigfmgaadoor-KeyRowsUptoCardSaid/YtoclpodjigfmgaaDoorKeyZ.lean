/- X-PARTIAL key.Cut, key.Has: layer 26. -/
import Derived.Test.YtoclpodjigfmgaaDoorKeyY
namespace Go.Proofs.YtoclpodjigfmgaaDoor
open Go.RowKit Go.Lib Go.Shelf

set_option maxRecDepth 100000 in
set_option maxHeartbeats 4000000 in
theorem key_Cut (l : List Ky) (k : Ky) (A : Option Addr) (c : Nat) (w : World) (hr : KRow w A l) (hm : l.length * 24 ≤ 281474976710656) :
    Calls Tryd.prog 13 #[.slice A l.length c, .agg #[encStr k.n, .int .i64 k.d]] w fun e w' => (∃ g n N, e = .returned (.slice (some ⟨g, 0, none⟩) n N) ∧ KRow w' (some ⟨g, 0, none⟩) (cutR l k) ∧ n = (cutR l k).length) ∧ Below w.heap.size w w' := by
  have hB : Below w.heap.size w (w.alloc (.cells #[encStr k.n, .int .i64 k.d] 24)) := (Below.refl _ w).alloc (Nat.le_refl _) _
  have hk : CapK (w.alloc (.cells #[encStr k.n, .int .i64 k.d] 24)) w.heap.size k := ⟨by rw [World.size_alloc]; omega, by simp [go_sem], by simp [go_sem]⟩
  have hsz : (w.alloc (.cells #[encStr k.n, .int .i64 k.d] 24)).heap.size = w.heap.size + 1 := World.size_alloc _ _
  have HROW := Lib.hid (key_Row l A c _ (hr.mono hB) hm)
  have HK := Lib.hid hk
  have HB := Lib.hid hB
  have HCI := Lib.hid (cut_is l k)
  have hlen := rowR_len l
  clear hk hB hr
  go_enter Tryd.func13, Tryd.ntmps13
  go_wp2_with fail
  generalize w.alloc (.cells #[encStr k.n, .int .i64 k.d] 24) = W0 at *
  go_at_call 8
  refine HROW.out.mono ?_
  rintro e w1 ⟨⟨g, n, N, rfl, ho1, ho2, ho3⟩, hb1⟩
  subst ho1
  have hge : W0.heap.size ≤ g := (ho3.lt g rfl).1
  have HD := Lib.hid (key_delete (rowR l) k w.heap.size g N W0.heap.size w1 (by omega) ho2 (HK.out.mono hb1) (by omega) ho3)
  have HB1 := Lib.hid (HB.out.trans (hb1.mono HB.out.size))
  rw [HCI.out] at HD
  clear HROW hb1 ho3 HK
  go_wp2_with fail
  go_at_call 29
  refine HD.out.mono ?_
  rintro e w2 ⟨⟨rfl, ho4⟩, hg2⟩
  have HO := Lib.hid ho4
  have HB2 := Lib.hid (Below.grown HB1.out hg2 HB1.out.size (fun j e => by cases e; omega))
  clear ho4 hg2 HD
  go_wp2_with fail
  go_ret
  exact ⟨⟨g, _, N, rfl, OwnK.krow (n := (cutR l k).length) (cap := N) ⟨rfl, by rw [← HCI.out]; exact Nat.le_trans (List.length_filter_le _ _) ho2, HO.out⟩, rfl⟩, HB2.out⟩
end Go.Proofs.YtoclpodjigfmgaaDoor
