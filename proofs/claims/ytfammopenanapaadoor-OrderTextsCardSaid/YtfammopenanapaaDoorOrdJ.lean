/- X-PARTIAL The command of the spot: layer 37. -/
import Derived.Test.YtfammopenanapaaDoorOrdI
import Derived.Lib.SlBytesConst
namespace Go.Proofs.YtfammopenanapaaDoor
open Go.RowKit Go.Lib

theorem brow_new {w : World} {n : Nat} {l : Str} {t : TypeId} {fz : Nat × Nat} (h : w.heap[n]? = some (.cells (l.map fun c => Value.int .u8 c.toNat).toArray t fz)) : BRow w (some ⟨n, 0, none⟩) l := by
  intro i hi
  have ea : (⟨n, 0, none⟩ : Addr).add i = ⟨n, i, none⟩ := by
    unfold Addr.add
    split
    · simp_all
    · simp
  have hc : w.cell? ⟨n, i, none⟩ = (l.map fun c => Value.int .u8 c.toNat).toArray[i]? := by simp [World.cell?, h]
  rw [ea, hc, List.getElem?_toArray, List.getElem?_eq_getElem hi]
def livesO : Str := [118, 97, 108, 117, 101, 32, 102, 46, 51, 32, 120]
theorem readK_f3 : readK [102, 46, 51] = (⟨[102], 3⟩, 0) := by
  have h1 : ahead [102, 46, 51] = [102] := by decide
  unfold readK
  rw [h1, if_neg (by decide), if_neg (by decide), if_neg (by decide), if_pos (by decide)]
  rfl
theorem textK_f3 : textK ⟨[102], 3⟩ = [102, 46, 51] := by
  unfold textK
  rw [if_neg (by decide)]
  show ([102] : Str) ++ [46] ++ Lib.itoa ((3 : Nat) : Int) = _
  rw [Lib.itoa_nonneg 3, Lib.decDigits_one (by decide)]
  rfl
theorem behind_lives : behindB livesO = [102, 46, 51, 32, 120] := by decide
theorem split_lives : splitB [102, 46, 51, 32, 120] = [[102, 46, 51], [120]] := by decide
theorem readO_lives : readO livesO = (⟨4, [102], 3, [120], 0, []⟩, 0) := by
  have h1 : aheadB livesO = [118, 97, 108, 117, 101] := by decide
  have h2 : kindO [118, 97, 108, 117, 101] = 4 := by decide
  have h3 : blankB livesO = true := by decide
  unfold readO
  rw [h1, h2, h3, if_neg (by decide), if_neg (by decide), behind_lives, split_lives, argsO_two (Or.inl rfl)]
  have h4 : nodeO [102, 46, 51] = (⟨[102], 3⟩, 0) := by
    unfold nodeO
    rw [readK_f3, if_neg (by decide), if_neg (by decide)]
  rw [h4, if_pos rfl, if_pos (by decide)]
  rfl
theorem textO_lives : textO ⟨4, [102], 3, [120], 0, []⟩ = livesO := by
  unfold textO
  rw [if_neg (by decide), if_neg (by decide), if_neg (by decide), if_neg (by decide), if_pos (Or.inr ⟨rfl, by simp⟩), textK_f3]
  rfl

set_option maxRecDepth 1000000 in
set_option maxHeartbeats 8000000 in
theorem law37_lives (w : World) (hv : RV w) (ht : TV w) (ho : OV w) :
    Calls Tryd.prog 9 #[] w fun e w' => e = .returned (.bool true) ∧ Below w.heap.size w w' := by
  have hbb : Below w.heap.size w (w.alloc (.cells (livesO.map fun c => Value.int .u8 c.toNat).toArray 5 (11, 12))) := (Below.refl _ w).alloc (Nat.le_refl _) _
  have H1 := order_Read livesO (some ⟨w.heap.size, 0, none⟩) 11 _ (by decide) (by rw [behind_lives, split_lives]; decide) (brow_new (al_new w (.cells (livesO.map fun c => Value.int .u8 c.toNat).toArray 5 (11, 12)) rfl)) (hv.mono hbb) (ho.mono hbb)
  rw [readO_lives] at H1
  have HT := fun w' ht' ho' => order_Text ⟨4, [102], 3, [120], 0, []⟩ w' (by decide) (by decide) (by decide) (by decide) (by decide) (by decide) ht' ho'
  rw [textO_lives] at HT
  have H2 := Lib.hid HT
  have ht1 := ht.mono hbb
  have ho1 := ho.mono hbb
  have HH := Lib.hid H1
  clear HT H1 hv ht ho
  have hcv := Lib.run_convert_bytes_const (P := Tryd.prog) w 22 5 #[.int .u8 118, .int .u8 97, .int .u8 108, .int .u8 117, .int .u8 101, .int .u8 32, .int .u8 102, .int .u8 46, .int .u8 51, .int .u8 32, .int .u8 120] 11 11 Tryd.underlying22 Tryd.underlying5
  generalize hX : w.alloc (.cells (livesO.map fun c => Value.int .u8 c.toNat).toArray 5 (11, 12)) = X at *
  have hcv' : (convert 22 22 (.slice (some ⟨w.heap.size, 0, none⟩) 11 11)).run Tryd.prog (w.alloc (.cells #[.int .u8 118, .int .u8 97, .int .u8 108, .int .u8 117, .int .u8 101, .int .u8 32, .int .u8 102, .int .u8 46, .int .u8 51, .int .u8 32, .int .u8 120] 5)) = .ok (.slice (some ⟨w.heap.size, 0, none⟩) 11 11) X := by rw [← hX]; exact hcv
  clear hcv hX
  go_enter Tryd.func9, Tryd.ntmps9
  go_wp2_with fail
  go_at_call 7
  refine HH.out.mono ?_
  rintro e w1 ⟨rfl, hb1⟩
  have ht2 := ht1.mono hb1
  have ho2 := ho1.mono hb1
  have hc1 := hbb.trans (hb1.mono hbb.size)
  have hb2 := hc1.alloc (o := .cells (⟨4, [102], 3, [120], 0, []⟩ : Cmd).cs 24) hc1.size
  have ht3 := Lib.hid (ht2.mono ((Below.refl _ w1).alloc (Nat.le_refl _) (.cells (⟨4, [102], 3, [120], 0, []⟩ : Cmd).cs 24)))
  have ho3 := Lib.hid (ho2.mono ((Below.refl _ w1).alloc (Nat.le_refl _) (.cells (⟨4, [102], 3, [120], 0, []⟩ : Cmd).cs 24)))
  clear HH ht1 ho1 hb1 hbb ht2 ho2
  unfold Cmd.v at *
  go_wp2_with fail
  refine (H2.out _ ht3.out ho3.out).mono ?_
  rintro e w2 ⟨rfl, hb3⟩
  have hB := hb2.trans (hb3.mono hb2.size)
  unfold livesO at *
  clear H2 hb3 hb2 hc1 ht3 ho3 hcv'
  go_wp2_with fail
  go_ret
  exact ⟨rfl, hB⟩
end Go.Proofs.YtfammopenanapaaDoor
