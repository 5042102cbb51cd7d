/- That span and congruence know one another, as each law of layer 8 asks: walked. -/
import Derived.Test.YtdpnphnafidpiaaValF
namespace Go.Proofs.Ytdpnphnafidpiaa
open Go.RowKit

theorem lives8_red : (In.mk ⟨true, 0, 10⟩ ⟨true, 4, 1⟩).red = ⟨⟨true, 1, 9⟩, ⟨true, 4, 1⟩⟩ := by rfl
theorem lives8_5 : (In.mk ⟨true, 1, 9⟩ ⟨true, 4, 1⟩).has 5 = true := by rfl
theorem lives8_6 : (In.mk ⟨true, 1, 9⟩ ⟨true, 4, 1⟩).has 6 = false := by rfl

set_option maxRecDepth 100000 in
set_option maxHeartbeats 4000000 in
theorem law08_lives (w : World) : Calls Try.prog 16 #[] w fun e w' => e = .returned (.bool true) ∧ Below w.heap.size w w' := by
  have h1 := fun w' => value_Int ⟨true, 0, 10⟩ ⟨true, 4, 1⟩ ⟨⟨by decide, by decide⟩, ⟨by decide, by decide⟩⟩ ⟨⟨by decide, by decide⟩, ⟨by decide, by decide⟩⟩ w'
  rw [lives8_red] at h1
  dsimp only at h1
  have h2 := fun A c w' => value_HasInt ⟨⟨true, 1, 9⟩, ⟨true, 4, 1⟩⟩ ⟨by decide, by decide⟩ false [] A c 5 w'
  rw [lives8_5] at h2
  dsimp only at h2
  have h3 := fun A c w' => value_HasInt ⟨⟨true, 1, 9⟩, ⟨true, 4, 1⟩⟩ ⟨by decide, by decide⟩ false [] A c 6 w'
  rw [lives8_6] at h3
  dsimp only at h3
  simp only [List.length_nil] at h1 h2 h3
  have H1 := Lib.hid h1
  have H2 : Hid (∀ A c w', _) := Lib.hid h2
  have H3 : Hid (∀ A c w', _) := Lib.hid h3
  clear h1 h2 h3
  go_enter Try.func16, Try.ntmps16
  go_wp2_with fail
  go_at_call 12
  refine (H1.out _).mono ?_
  rintro e w1 ⟨⟨A1, c1, rfl, h1⟩, hb1⟩
  go_upto_region 2 with fail
  have kp := al_new w1 (.cells #[.bool true, .int .i64 1, .int .i64 9, .bool true, .int .i64 4, .int .i64 1, .bool false, .slice A1 0 c1] 30) rfl
  have HV : Below w1.heap.size w1 (w1.alloc (.cells #[.bool true, .int .i64 1, .int .i64 9, .bool true, .int .i64 4, .int .i64 1, .bool false, .slice A1 0 c1] 30)) := (by repeat (first | (with_reducible assumption) | (with_reducible exact Below.refl _ _) | (with_reducible refine Below.alloc ?_ (by first | omega | (simp; omega) | (simp; done) | (dsimp only; omega)) _) | (with_reducible refine Below.setCell ?_ (by first | omega | (simp; omega) | (simp; done) | (dsimp only; omega)) _) | (with_reducible refine Below.drew ?_) | (with_reducible refine Below.trans ?_ (Below.mono (by assumption) (by first | omega | (simp; omega) | (simp; done) | (dsimp only; omega))))))
  generalize w1.alloc (.cells #[.bool true, .int .i64 1, .int .i64 9, .bool true, .int .i64 4, .int .i64 1, .bool false, .slice A1 0 c1] 30) = V at *
  have HB := hb1.trans (HV.mono hb1.size)
  clear h1 hb1 HV
  have p_0 := blk_cell kp 0
  have p_1 := blk_cell kp 1
  have p_2 := blk_cell kp 2
  have p_3 := blk_cell kp 3
  have p_4 := blk_cell kp 4
  have p_5 := blk_cell kp 5
  have p_6 := blk_cell kp 6
  have p_7 := blk_cell kp 7
  simp only [List.getElem?_toArray, List.getElem?_cons_zero, List.getElem?_cons_succ] at p_0 p_1 p_2 p_3 p_4 p_5 p_6 p_7
  have fp := blk_free kp
  have zp := blk_lt kp
  go_wp2_with fail
  go_at_call 9
  refine (H2.out _ _ _).mono ?_
  rintro e w2 ⟨rfl, hb2⟩
  have k2 := (hb2.block _ zp).trans kp
  replace HB := HB.trans (hb2.mono HB.size)
  clear p_0 p_1 p_2 p_3 p_4 p_5 p_6 p_7 fp zp kp hb2
  have p_0 := blk_cell k2 0
  have p_1 := blk_cell k2 1
  have p_2 := blk_cell k2 2
  have p_3 := blk_cell k2 3
  have p_4 := blk_cell k2 4
  have p_5 := blk_cell k2 5
  have p_6 := blk_cell k2 6
  have p_7 := blk_cell k2 7
  simp only [List.getElem?_toArray, List.getElem?_cons_zero, List.getElem?_cons_succ] at p_0 p_1 p_2 p_3 p_4 p_5 p_6 p_7
  have fp := blk_free k2
  have zp := blk_lt k2
  go_wp2_with fail
  go_at_call 9
  refine (H3.out _ _ _).mono ?_
  rintro e w3 ⟨rfl, hb3⟩
  go_wp2
  go_ret
  exact ⟨rfl, HB.trans (hb3.mono HB.size)⟩
end Go.Proofs.Ytdpnphnafidpiaa
