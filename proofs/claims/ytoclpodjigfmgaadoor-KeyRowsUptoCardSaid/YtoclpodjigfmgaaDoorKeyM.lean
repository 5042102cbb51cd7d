/- X-PARTIAL A key put into a row that has it; the law's small case: layer 26. -/
import Derived.Test.YtoclpodjigfmgaaDoorKeyJ
import Derived.Test.YtoclpodjigfmgaaDoorKeyK
import Derived.Test.YtoclpodjigfmgaaDoorKeyL
import Derived.Test.YtoclpodjigfmgaaDoorKeyF
namespace Go.Proofs.YtoclpodjigfmgaaDoor
open Go.RowKit Go.Lib

set_option maxRecDepth 100000 in
theorem key_join_same (k : Ky) (A B : Option Addr) (ca cb : Nat) (w : World) (hra : KRow w A [k]) (hrb : KRow w B [k]) :
    Calls Tryd.prog 15 #[.slice A 1 ca, .slice B 1 cb] w fun e w' => (∃ g cap, e = .returned (.slice (some ⟨g, 0, none⟩) 1 cap)) ∧ Below w.heap.size w w' := by
  refine Calls.mono (key_join_of [k] [k] A B ca cb w hra hrb (by simp) (fun _ v _ => ∃ g cap, v = .slice (some ⟨g, 0, none⟩) 1 cap) (fun _ _ _ _ _ h _ => h) (fun l' W hp _ hown => ?_)) ?_
  · have e : l' = [k.cl, k.cl] := List.perm_replicate.1 (show l'.Perm (List.replicate 2 k.cl) from hp)
    subst e
    refine (key_compact2 k.cl w.heap.size 2 w.heap.size W (Nat.le_refl _) hown).mono ?_
    rintro e w' ⟨rfl, hg⟩
    exact ⟨⟨_, rfl, _, _, rfl⟩, hg⟩
  · rintro e w' ⟨⟨l', v, _, _, rfl, g, cap, rfl⟩, hb⟩
    exact ⟨⟨g, cap, rfl⟩, hb⟩

theorem krow_new (k : Ky) (w : World) (b : Nat) (h : w.heap[b]? = some (.cells #[encStr k.n, .int .i64 k.d] 24)) : KRow w (some ⟨b, 0, none⟩) [k] := fun j hj => by
  have hj0 : j = 0 := by simp at hj; omega
  subst hj0
  exact ⟨b, 0, rfl, blk_lt h, by simp [World.cell?, h], by simp [World.cell?, h]⟩

set_option maxRecDepth 100000 in
set_option maxHeartbeats 2000000 in
theorem key_put_one (k : Ky) (A : Option Addr) (ca : Nat) (w : World) (hr : KRow w A [k]) :
    Calls Tryd.prog 12 #[.slice A 1 ca, .agg #[encStr k.n, .int .i64 k.d]] w fun e w' => (∃ g cap, e = .returned (.slice (some ⟨g, 0, none⟩) 1 cap)) ∧ Below w.heap.size w w' := by
  have hb : Below w.heap.size w ((w.alloc (.cells #[encStr k.n, .int .i64 k.d] 24)).alloc (.cells #[encStr k.n, .int .i64 k.d] 24)) := ((Below.refl _ w).alloc (Nat.le_refl _) _).alloc (by simp) _
  have hk := al_new (w.alloc (.cells #[encStr k.n, .int .i64 k.d] 24)) (.cells #[encStr k.n, .int .i64 k.d] 24) rfl
  rw [World.size_alloc] at hk
  have H := Lib.hid (key_join_same k A (some ⟨w.heap.size + 1, 0, none⟩) ca 1 _ (hr.mono hb) (krow_new k _ _ hk))
  have HB := Lib.hid hb
  clear hr hk hb
  go_enter Tryd.func12, Tryd.ntmps12
  go_wp2_with fail
  go_at_call 15
  refine H.out.mono ?_
  rintro e w1 ⟨⟨g, cap, rfl⟩, hb1⟩
  have hB := HB.out.trans (hb1.mono HB.out.size)
  clear H HB hb1
  go_wp2_with fail
  go_ret
  exact ⟨⟨_, _, rfl⟩, hB⟩

def livesT : Str := [102, 46, 51]
theorem readK_lives : readK livesT = (⟨[102], 3⟩, 0) := by
  have h1 : ahead livesT = [102] := by decide
  unfold readK
  rw [h1, if_neg (by decide), if_neg (by decide), if_neg (by decide), if_pos (by decide)]
  rfl
theorem textK_lives : textK ⟨[102], 3⟩ = livesT := by
  unfold textK
  rw [if_neg (by decide)]
  show ([102] : Str) ++ [46] ++ Lib.itoa ((3 : Nat) : Int) = _
  rw [Lib.itoa_nonneg 3, Lib.decDigits_one (by decide)]
  rfl

set_option maxRecDepth 100000 in
set_option maxHeartbeats 4000000 in
theorem law26_lives (w : World) (hv : RV w) (ht : TV w) :
    Calls Tryd.prog 19 #[] w fun e w' => e = .returned (.bool true) ∧ Below w.heap.size w w' := by
  have H1 := key_Read livesT w (by decide) hv
  rw [readK_lives] at H1
  have HT := fun w' ht' => key_Text ⟨[102], 3⟩ w' (by decide) (by decide) (by decide) ht'
  rw [textK_lives] at HT
  have H2 := Lib.hid HT
  have H3 := Lib.hid (fun A ca w' h => key_put_one ⟨[102], 3⟩ A ca w' h)
  have HH := Lib.hid H1
  clear HT H1
  go_enter Tryd.func19, Tryd.ntmps19
  go_wp2_with fail
  go_at_call 24
  refine HH.out.mono ?_
  rintro e w1 ⟨rfl, hb1⟩
  have ht1 := ht.mono hb1
  have k1 : (w1.alloc (.cells #[encStr [102], .int .i64 3] 24)).heap[w1.heap.size]? = some (.cells #[encStr [102], .int .i64 3] 24) := al_new w1 _ rfl
  have hb2 : Below w.heap.size w (w1.alloc (.cells #[encStr [102], .int .i64 3] 24)) := hb1.alloc hb1.size _
  have ht2 := Lib.hid (ht1.mono ((Below.refl _ w1).alloc (Nat.le_refl _) (.cells #[encStr [102], .int .i64 3] 24)))
  clear HH ht1 hb1 hv ht
  go_wp2_with fail
  go_at_call 22
  refine (H2.out _ ht2.out).mono ?_
  rintro e w2 ⟨rfl, hb3⟩
  have k2 := (hb3.block w1.heap.size (blk_lt k1)).trans k1
  have hb4 := hb2.trans (hb3.mono hb2.size)
  have g2 := blk_cell k2
  clear k1 hb2 ht2 hb3 H2
  have hz : w1.heap.size < w2.heap.size := blk_lt k2
  have H4 := Lib.hid (H3.out (some ⟨w2.heap.size, 0, none⟩) 1 _ (krow_new ⟨[102], 3⟩ (w2.alloc (.cells #[encStr [102], .int .i64 3] 24)) w2.heap.size (al_new w2 _ rfl)))
  have hb5 : Below w.heap.size w (w2.alloc (.cells #[encStr [102], .int .i64 3] 24)) := hb4.alloc hb4.size _
  have HB5 := Lib.hid hb5
  have c20 : w2.cell? ⟨w1.heap.size, 0, none⟩ = some (encStr [102]) := by simp [World.cell?, k2]
  have c21 : w2.cell? ⟨w1.heap.size, 1, none⟩ = some (.int .i64 3) := by simp [World.cell?, k2]
  clear H3 hb4 hb5 k2 g2
  go_wp2_with fail
  go_at_call 12
  refine H4.out.mono ?_
  rintro e w3 ⟨⟨g, cap, rfl⟩, hb6⟩
  have hB := HB5.out.trans (hb6.mono HB5.out.size)
  clear H4 HB5 hb6
  go_wp2_with fail
  go_ret
  exact ⟨rfl, hB⟩
end Go.Proofs.YtoclpodjigfmgaaDoor
