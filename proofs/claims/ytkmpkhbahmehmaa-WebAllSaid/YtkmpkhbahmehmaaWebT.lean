/- X-PARTIAL The document's own answer: pairs dropped, told: layer 29. -/
import Derived.Test.YtkmpkhbahmehmaaWebS
namespace Go.Proofs.Ytkmpkhbahmehmaa
open Go.RowKit Go.Lib

def dropP (m : List Pr) (x : Ky) : List Pr := m.filter (fun p => decide (p.1 ≠ x.cl) && decide (p.2 ≠ x.cl))
def onP (m : List Pr) (x : Ky) : List Ky := (m.filter (fun p => decide (p.1 = x.cl))).map (·.2)
def ofP (m : List Pr) (x : Ky) : List Ky := (m.filter (fun p => decide (p.2 = x.cl))).map (·.1)

set_option maxRecDepth 100000 in
set_option maxHeartbeats 8000000 in
theorem r29_Drop (m : List Pr) (x : Ky) (A : Option Addr) (ca : Nat) (w : World) (hr : PRow w A m) (hm : (m.length + 1) * 48 ≤ 140737488355328) :
    Calls Try.prog 24 #[.slice A m.length ca, .agg #[encStr x.n, .int .i64 x.d]] w fun e w' => (∃ (A2 : Option Addr) (c2 : Nat), e = .returned (.slice A2 (dropP m x).length c2) ∧ PRow w' A2 (dropP m x) ∧ ∀ a, A2 = some a → w.heap.size ≤ a.block) ∧ Below w.heap.size w w' := by
  have HC := Lib.hid (r26_Clean x)
  have HD := Lib.hid (show dropP m x = m.filter (fun p => decide (p.1 ≠ x.cl) && decide (p.2 ≠ x.cl)) from rfl)
  generalize x.cl = X at *
  generalize dropP m x = dm at *
  have ka := al_new w (.cells #[encStr x.n, .int .i64 x.d] 24) rfl
  have hV : Below w.heap.size w (w.alloc (.cells #[encStr x.n, .int .i64 x.d] 24)) := (Below.refl _ w).alloc (Nat.le_refl _) _
  have hr1 := hr.below hV
  go_enter Try.func24, Try.ntmps24
  go_upto_block 0 with fail
  clear hr
  generalize w.alloc (.cells #[encStr x.n, .int .i64 x.d] 24) = Z at *
  have HX := Lib.hid hV
  have hwZ := hV.size
  have KA := Lib.hid ka
  have zaZ := blk_lt ka
  have HRZ := Lib.hid hr1
  clear hV hr1 ka
  go_wp2_with fail
  go_loopw [5, 6] (fun v5 v6 wr => ∃ i : Nat, i ≤ m.length ∧ v6 = .int .i64 i ∧ OwnP wr Z.heap.size v5 ((m.take i).filter (fun p => decide (p.1 ≠ X) && decide (p.2 ≠ X))) ∧ Below Z.heap.size Z wr) (fun _ v6 _ => m.length - (RowKit.intOf v6).toNat)
  case atStart => exact ⟨0, Nat.zero_le _, rfl, OwnG.nil _ _, Below.refl _ _⟩
  case round =>
    obtain ⟨i, hi, rfl, hown, hB⟩ := hrel
    have kp := (hB.block _ zaZ).trans KA.out
    have g0 := blk_cell kp 0
    have g1 := blk_cell kp 1
    simp only [List.getElem?_toArray, List.getElem?_cons_zero, List.getElem?_cons_succ] at g0 g1
    have gz := blk_lt kp
    have gf := blk_free kp
    have HB := Lib.hid hB
    have hsB := hB.size
    have hfl : ((m.take i).filter (fun p => decide (p.1 ≠ X) && decide (p.2 ≠ X))).length ≤ i := Nat.le_trans (List.length_filter_le _ _) (by rw [List.length_take]; omega)
    obtain ⟨A8, c8, e8, -, -, -⟩ := hown.row encP_len
    have HOW := Lib.hid hown
    clear hown hB kp
    subst e8
    by_cases hlt : i < m.length
    · have ik : (i : Int) < m.length := by omega
      obtain ⟨b, o, he, hz, c0, c1, c2, c3⟩ := (PRow.get (HRZ.out.below HB.out) hlt)
      have HFT := Lib.hid (filter_take (fun p : Pr => decide (p.1 ≠ X) && decide (p.2 ≠ X)) hlt)
      have ne1 := fun W => key_neq m[i].1 X W
      have ne2 := fun W => key_neq m[i].2 X W
      cases he
      by_cases h1 : m[i].1 = X
      · have hd1 : decide (m[i].1 = X) = true := decide_eq_true h1
        have hft : (m.take (i + 1)).filter (fun p => decide (p.1 ≠ X) && decide (p.2 ≠ X)) = (m.take i).filter (fun p => decide (p.1 ≠ X) && decide (p.2 ≠ X)) := by
          rw [HFT.out, if_neg (by simp [h1]), List.append_nil]
        simp only [hd1, Bool.not_true] at ne1
        have HFN := Lib.hid hft
        clear hft HFT hd1 h1 ne2
        generalize m[i] = p at *
        generalize (m.take i).filter (fun p => decide (p.1 ≠ X) && decide (p.2 ≠ X)) = fl at *
        go_wp2_with fail
        refine region_seq (S := fun w' => Below wr.heap.size wr w') rfl (by kernel_rfl) (by kernel_rfl) (by repeat (first | (with_reducible assumption) | (with_reducible exact Below.refl _ _) | (with_reducible refine Below.alloc ?_ (by first | omega | (simp; omega) | (simp; done) | (dsimp only; omega)) _) | (with_reducible refine Below.setCell ?_ (by first | omega | (simp; omega) | (simp; done) | (dsimp only; omega)) _) | (with_reducible refine Below.drew ?_) | (with_reducible refine Below.trans ?_ (Below.mono (by assumption) (by first | omega | (simp; omega) | (simp; done) | (dsimp only; omega)))))) (fun fin hfin => ?_)
        iterate 18
          first
            | (refine SeqL.yes (v := ?_) (A' := ?_) rfl (by rfl) ?_ ?_ ?_
               rotate_left 2
               · intro w' K hS hK
                 obtain ⟨hc, hf⟩ := bcell hS
                 have hz := hS.size
                 go_simp
                 first
                   | exact hK.out _ hS
                   | (go_at_call 27; (with_reducible refine (HC.out _).mono ?_); rintro e w1 ⟨rfl, hb1⟩; exact hK.out _ (hS.trans (hb1.mono hz)))
                   | trace_state
               · simp only [Act.put, List.setIfInBounds_toArray, List.set_cons_zero, List.set_cons_succ]; exact rfl)
            | (refine SeqL.no (A' := ?_) rfl (by rfl) ?_ ?_
               rotate_left
               · simp only [Act.put, List.setIfInBounds_toArray, List.set_cons_zero, List.set_cons_succ]; exact rfl)
        refine SeqL.nil (hfin.out _ ?_)
        clear hfin fin
        intro w1 hS1
        have hS2 := hS1
        clear ne1 c0 c1 c2 c3 g0 g1
        go_wp2_with fail
        go_roundw
        case rel => exact ⟨i + 1, by omega, by go_num, by rw [HFN.out]; exact HOW.out.mono hS2, HB.out.trans (hS2.mono hsB)⟩
        case measure => simp [RowKit.intOf]; omega
      · by_cases h2 : m[i].2 = X
        · have hd1 : decide (m[i].1 = X) = false := decide_eq_false h1
          have hft : (m.take (i + 1)).filter (fun p => decide (p.1 ≠ X) && decide (p.2 ≠ X)) = (m.take i).filter (fun p => decide (p.1 ≠ X) && decide (p.2 ≠ X)) := by
            rw [HFT.out, if_neg (by simp [h2]), List.append_nil]
          simp only [hd1, Bool.not_false] at ne1
          have hd2 : decide (m[i].2 = X) = true := decide_eq_true h2
          simp only [hd2, Bool.not_true] at ne2
          have HFN := Lib.hid hft
          clear hft HFT hd1 h1 h2 hd2
          generalize m[i] = p at *
          generalize (m.take i).filter (fun p => decide (p.1 ≠ X) && decide (p.2 ≠ X)) = fl at *
          go_wp2_with fail
          refine region_seq (S := fun w' => Below wr.heap.size wr w') rfl (by kernel_rfl) (by kernel_rfl) (by repeat (first | (with_reducible assumption) | (with_reducible exact Below.refl _ _) | (with_reducible refine Below.alloc ?_ (by first | omega | (simp; omega) | (simp; done) | (dsimp only; omega)) _) | (with_reducible refine Below.setCell ?_ (by first | omega | (simp; omega) | (simp; done) | (dsimp only; omega)) _) | (with_reducible refine Below.drew ?_) | (with_reducible refine Below.trans ?_ (Below.mono (by assumption) (by first | omega | (simp; omega) | (simp; done) | (dsimp only; omega)))))) (fun fin hfin => ?_)
          iterate 18
            first
              | (refine SeqL.yes (v := ?_) (A' := ?_) rfl (by rfl) ?_ ?_ ?_
                 rotate_left 2
                 · intro w' K hS hK
                   obtain ⟨hc, hf⟩ := bcell hS
                   have hz := hS.size
                   go_simp
                   first
                     | exact hK.out _ hS
                     | (go_at_call 27; (with_reducible refine (HC.out _).mono ?_); rintro e w1 ⟨rfl, hb1⟩; exact hK.out _ (hS.trans (hb1.mono hz)))
                     | trace_state
                 · simp only [Act.put, List.setIfInBounds_toArray, List.set_cons_zero, List.set_cons_succ]; exact rfl)
              | (refine SeqL.no (A' := ?_) rfl (by rfl) ?_ ?_
                 rotate_left
                 · simp only [Act.put, List.setIfInBounds_toArray, List.set_cons_zero, List.set_cons_succ]; exact rfl)
          refine SeqL.nil (hfin.out _ ?_)
          clear hfin fin
          intro w1 hS1
          have hS2 := hS1
          clear ne1 ne2 c0 c1 c2 c3 g0 g1
          go_wp2_with fail
          go_roundw
          case rel => exact ⟨i + 1, by omega, by go_num, by rw [HFN.out]; exact HOW.out.mono hS2, HB.out.trans (hS2.mono hsB)⟩
          case measure => simp [RowKit.intOf]; omega
        · have hd1 : decide (m[i].1 = X) = false := decide_eq_false h1
          have hd2 : decide (m[i].2 = X) = false := decide_eq_false h2
          have hft : (m.take (i + 1)).filter (fun p => decide (p.1 ≠ X) && decide (p.2 ≠ X)) = (m.take i).filter (fun p => decide (p.1 ≠ X) && decide (p.2 ≠ X)) ++ [m[i]] := by
            rw [HFT.out, if_pos (by simp [h1, h2])]
          simp only [hd1, Bool.not_false] at ne1
          simp only [hd2, Bool.not_false] at ne2
          have HFN := Lib.hid hft
          clear hft HFT hd1 hd2 h1 h2
          generalize m[i] = p at *
          generalize (m.take i).filter (fun p => decide (p.1 ≠ X) && decide (p.2 ≠ X)) = fl at *
          go_wp2_with fail
          refine region_seq (S := fun w' => Below wr.heap.size wr w') rfl (by kernel_rfl) (by kernel_rfl) (by repeat (first | (with_reducible assumption) | (with_reducible exact Below.refl _ _) | (with_reducible refine Below.alloc ?_ (by first | omega | (simp; omega) | (simp; done) | (dsimp only; omega)) _) | (with_reducible refine Below.setCell ?_ (by first | omega | (simp; omega) | (simp; done) | (dsimp only; omega)) _) | (with_reducible refine Below.drew ?_) | (with_reducible refine Below.trans ?_ (Below.mono (by assumption) (by first | omega | (simp; omega) | (simp; done) | (dsimp only; omega)))))) (fun fin hfin => ?_)
          iterate 18
            first
              | (refine SeqL.yes (v := ?_) (A' := ?_) rfl (by rfl) ?_ ?_ ?_
                 rotate_left 2
                 · intro w' K hS hK
                   obtain ⟨hc, hf⟩ := bcell hS
                   have hz := hS.size
                   go_simp
                   first
                     | exact hK.out _ hS
                     | (go_at_call 27; (with_reducible refine (HC.out _).mono ?_); rintro e w1 ⟨rfl, hb1⟩; exact hK.out _ (hS.trans (hb1.mono hz)))
                     | trace_state
                 · simp only [Act.put, List.setIfInBounds_toArray, List.set_cons_zero, List.set_cons_succ]; exact rfl)
              | (refine SeqL.no (A' := ?_) rfl (by rfl) ?_ ?_
                 rotate_left
                 · simp only [Act.put, List.setIfInBounds_toArray, List.set_cons_zero, List.set_cons_succ]; exact rfl)
          refine SeqL.nil (hfin.out _ ?_)
          clear hfin fin
          intro w1 hS1
          clear ne1 ne2 g0 g1
          go_upto_region 6 with fail
          have c0 := (hS1.cell (p := ⟨b, o + i * 4, none⟩) hz).trans c0
          have c1 := (hS1.cell (p := ⟨b, o + i * 4 + 1, none⟩) hz).trans c1
          have c2 := (hS1.cell (p := ⟨b, o + i * 4 + 2, none⟩) hz).trans c2
          have c3 := (hS1.cell (p := ⟨b, o + i * 4 + 3, none⟩) hz).trans c3
          have how := HOW.out.mono hS1
          have HBD := Lib.hid (HB.out.trans (hS1.mono hsB))
          have hsD := HBD.out.size
          clear hS1 hz
          go_wp2_with (at_builtin; refine wpList_append_g pair_type encP_len encP_one rfl _ _ rfl Z.heap.size _ fl [p] rfl (how.mono ((Below.refl _ w1).alloc (Nat.le_refl _) _)) w1.heap.size 1 rfl (GRow.new (al_new w1 _ rfl) rfl) ?c1 ?c2 ?c3 ?_)
          case c1 => simp; omega
          case c2 => unfold maxLen; simp only [List.length_cons, List.length_nil]; omega
          case c3 => rw [al_size]; omega
          · intro v' w' hown' hgrow
            have HO := Lib.hid hown'
            have hB4 : Below Z.heap.size Z w' := Below.grown (HBD.out.alloc hsD (.cells #[.string ⟨p.1.n.toArray⟩, .int .i64 p.1.d, .string ⟨p.2.n.toArray⟩, .int .i64 p.2.d] 53)) hgrow (by rw [al_size]; omega) (fun j e => (how.lt j e).1)
            clear hown' hgrow how c0 c1 c2 c3
            go_wp2_with fail
            go_roundw
            case rel => exact ⟨i + 1, by omega, by go_num, by rw [HFN.out]; exact HO.out, hB4⟩
            case measure => simp [RowKit.intOf]; omega
    · have ik : ¬ (i : Int) < m.length := by omega
      have hti : m.take i = m := List.take_of_length_le (by omega)
      rw [hti, ← HD.out] at HOW hfl
      have HEL := Lib.hid (congrArg List.length (show (m.take i).filter (fun p => decide (p.1 ≠ X) && decide (p.2 ≠ X)) = dm by rw [hti, HD.out]))
      clear hti g0 g1 gf
      generalize ((m.take i).filter (fun p => decide (p.1 ≠ X) && decide (p.2 ≠ X))).length = nn at *
      obtain ⟨A9, c9, e9, hr9, hb9, -⟩ := HOW.out.row encP_len
      have HR9 := Lib.hid hr9
      have HB9 := Lib.hid hb9
      have HE9 := Lib.hid e9
      clear hr9 hb9 e9
      go_wp2_with fail
      go_ret
      exact ⟨⟨A9, ⟨c9, by rw [HEL.out]; exact (congrArg Ending.returned HE9.out)⟩, HR9.out, fun a e => Nat.le_trans hwZ (HB9.out a e).1⟩, HX.out.trans (HB.out.mono hwZ)⟩
end Go.Proofs.Ytkmpkhbahmehmaa
