/- X-PARTIAL The document's own answer: which keys hang on which: layer 29. -/
import Derived.Test.YtkmpkhbahmehmaaWebT
namespace Go.Proofs.Ytkmpkhbahmehmaa
open Go.RowKit Go.Lib

set_option maxRecDepth 100000 in
set_option maxHeartbeats 8000000 in
theorem r29_On (m : List Pr) (x : Ky) (A : Option Addr) (ca : Nat) (w : World) (hr : PRow w A m) (hm : (m.length + 1) * 48 ≤ 140737488355328) :
    Calls Try.prog 11 #[.slice A m.length ca, .agg #[encStr x.n, .int .i64 x.d]] w fun e w' => (∃ (A2 : Option Addr) (c2 : Nat), e = .returned (.slice A2 (rowR (onP m x)).length c2) ∧ KRow w' A2 (rowR (onP m x))) ∧ Below w.heap.size w w' := by
  have HC := Lib.hid (r26_Clean x)
  have HD := Lib.hid (show rowR (onP m x) = rowR ((m.filter (fun p => decide (p.1 = x.cl))).map (·.2)) from rfl)
  generalize x.cl = X at *
  generalize rowR (onP m x) = dm at *
  have ka := al_new w (.cells #[encStr x.n, .int .i64 x.d] 24) rfl
  have hV : Below w.heap.size w (w.alloc (.cells #[encStr x.n, .int .i64 x.d] 24)) := (Below.refl _ w).alloc (Nat.le_refl _) _
  have hr1 := hr.below hV
  go_enter Try.func11, Try.ntmps11
  go_upto_block 0 with fail
  clear hr
  generalize w.alloc (.cells #[encStr x.n, .int .i64 x.d] 24) = Z at *
  have HX := Lib.hid hV
  have hwZ := hV.size
  have KA := Lib.hid ka
  have zaZ := blk_lt ka
  have HRZ := Lib.hid hr1
  clear hV hr1 ka
  go_wp2_with fail
  go_loopw [5, 6] (fun v5 v6 wr => ∃ i : Nat, i ≤ m.length ∧ v6 = .int .i64 i ∧ (∃ (A2 : Option Addr) (c2 : Nat), v5 = .slice A2 (rowR (((m.take i).filter (fun p => decide (p.1 = X))).map (·.2))).length c2 ∧ KRow wr A2 (rowR (((m.take i).filter (fun p => decide (p.1 = X))).map (·.2)))) ∧ Below Z.heap.size Z wr) (fun _ v6 _ => m.length - (RowKit.intOf v6).toNat)
  case atStart => exact ⟨0, Nat.zero_le _, rfl, ⟨none, 0, rfl, fun j hj => absurd hj (by simp [rowR])⟩, Below.refl _ _⟩
  case round =>
    obtain ⟨i, hi, rfl, ⟨A8, c8, rfl, hkr⟩, hB⟩ := hrel
    have kp := (hB.block _ zaZ).trans KA.out
    have g0 := blk_cell kp 0
    have g1 := blk_cell kp 1
    simp only [List.getElem?_toArray, List.getElem?_cons_zero, List.getElem?_cons_succ] at g0 g1
    have gz := blk_lt kp
    have gf := blk_free kp
    have HB := Lib.hid hB
    have hsB := hB.size
    have hfl : (rowR (((m.take i).filter (fun p => decide (p.1 = X))).map (·.2))).length ≤ i := Nat.le_trans (rowR_len _) (by rw [List.length_map]; exact Nat.le_trans (List.length_filter_le _ _) (by rw [List.length_take]; omega))
    have HKR := Lib.hid hkr
    clear hkr hB kp
    by_cases hlt : i < m.length
    · have ik : (i : Int) < m.length := by omega
      obtain ⟨b, o, he, hz, c0, c1, c2, c3⟩ := (PRow.get (HRZ.out.below HB.out) hlt)
      have HFT := Lib.hid (filter_take (fun p : Pr => decide (p.1 = X)) hlt)
      have ne1 := fun W => key_eql m[i].1 X W
      cases he
      by_cases h1 : m[i].1 = X
      · have hd1 : decide (m[i].1 = X) = true := decide_eq_true h1
        have hft : rowR (((m.take (i + 1)).filter (fun p => decide (p.1 = X))).map (·.2)) = putR (rowR (((m.take i).filter (fun p => decide (p.1 = X))).map (·.2))) m[i].2 := by
          rw [HFT.out, if_pos (by simp [h1]), List.map_append]
          unfold rowR
          rw [List.foldl_append]
          rfl
        simp only [hd1] at ne1
        have HFN := Lib.hid hft
        clear hft HFT hd1 h1
        generalize m[i] = p at *
        generalize rowR (((m.take i).filter (fun p => decide (p.1 = X))).map (·.2)) = cur at *
        go_wp2_with fail
        refine region_seq (S := fun w' => Below wr.heap.size wr w') rfl (by kernel_rfl) (by kernel_rfl) (by repeat (first | (with_reducible assumption) | (with_reducible exact Below.refl _ _) | (with_reducible refine Below.alloc ?_ (by first | omega | (simp; omega) | (simp; done) | (dsimp only; omega)) _) | (with_reducible refine Below.setCell ?_ (by first | omega | (simp; omega) | (simp; done) | (dsimp only; omega)) _) | (with_reducible refine Below.drew ?_) | (with_reducible refine Below.trans ?_ (Below.mono (by assumption) (by first | omega | (simp; omega) | (simp; done) | (dsimp only; omega)))))) (fun fin hfin => ?_)
        iterate 8
          first
            | (refine SeqL.yes (v := ?_) (A' := ?_) rfl (by rfl) ?_ ?_ ?_
               rotate_left 2
               · intro w' K hS hK
                 obtain ⟨hc, hf⟩ := bcell hS
                 have hz := hS.size
                 go_simp
                 first
                   | exact hK.out _ hS
                   | (go_at_call 27; (with_reducible refine (HC.out _).mono ?_); rintro e w1 ⟨rfl, hb1⟩; exact hK.out _ (hS.trans (hb1.mono hz)))
                   | trace_state
               · simp only [Act.put, List.setIfInBounds_toArray, List.set_cons_zero, List.set_cons_succ]; exact rfl)
            | (refine SeqL.no (A' := ?_) rfl (by rfl) ?_ ?_
               rotate_left
               · simp only [Act.put, List.setIfInBounds_toArray, List.set_cons_zero, List.set_cons_succ]; exact rfl)
        refine SeqL.nil (hfin.out _ ?_)
        clear hfin fin
        intro w1 hS1
        clear ne1 g0 g1
        go_upto_region 6 with fail
        have c0 := (hS1.cell (p := ⟨b, o + i * 4, none⟩) hz).trans c0
        have c1 := (hS1.cell (p := ⟨b, o + i * 4 + 1, none⟩) hz).trans c1
        have c2 := (hS1.cell (p := ⟨b, o + i * 4 + 2, none⟩) hz).trans c2
        have c3 := (hS1.cell (p := ⟨b, o + i * 4 + 3, none⟩) hz).trans c3
        have hkr := HKR.out.mono hS1
        have HBD := Lib.hid (HB.out.trans (hS1.mono hsB))
        have hsD := HBD.out.size
        clear hS1 hz HKR
        have HPT := Lib.hid (r26_Put cur p.2 A8 c8 w1 hkr (by omega))
        clear hkr
        go_wp2_with fail
        go_at_call 28
        refine HPT.out.mono ?_
        rintro e w2 ⟨⟨A3, c3', rfl, hr3⟩, hb2⟩
        have HR3 := Lib.hid hr3
        have HB2 := Lib.hid (HBD.out.trans (hb2.mono hsD))
        clear hr3 hb2 HPT c0 c1 c2 c3
        rw [← HFN.out] at HR3
        have HE := Lib.hid (congrArg List.length HFN.out)
        clear HFN
        generalize (putR cur p.2).length = nn at *
        go_wp2_with fail
        go_roundw
        case rel => exact ⟨i + 1, by omega, by go_num, ⟨A3, c3', by rw [HE.out], HR3.out⟩, HB2.out⟩
        case measure => simp [RowKit.intOf]; omega
      · have hd1 : decide (m[i].1 = X) = false := decide_eq_false h1
        have hft : rowR (((m.take (i + 1)).filter (fun p => decide (p.1 = X))).map (·.2)) = rowR (((m.take i).filter (fun p => decide (p.1 = X))).map (·.2)) := by
          rw [HFT.out, if_neg (by simp [h1]), List.append_nil]
        simp only [hd1] at ne1
        have HFN := Lib.hid hft
        clear hft HFT hd1 h1
        generalize m[i] = p at *
        have HE := Lib.hid (congrArg List.length HFN.out)
        have HK2 := Lib.hid (show ∀ w1, Below wr.heap.size wr w1 → KRow w1 A8 (rowR (((m.take (i + 1)).filter (fun p => decide (p.1 = X))).map (·.2))) from fun w1 h => by rw [HFN.out]; exact HKR.out.mono h)
        clear HFN HKR
        generalize (rowR (((m.take i).filter (fun p => decide (p.1 = X))).map (·.2))).length = nn at *
        go_wp2_with fail
        refine region_seq (S := fun w' => Below wr.heap.size wr w') rfl (by kernel_rfl) (by kernel_rfl) (by repeat (first | (with_reducible assumption) | (with_reducible exact Below.refl _ _) | (with_reducible refine Below.alloc ?_ (by first | omega | (simp; omega) | (simp; done) | (dsimp only; omega)) _) | (with_reducible refine Below.setCell ?_ (by first | omega | (simp; omega) | (simp; done) | (dsimp only; omega)) _) | (with_reducible refine Below.drew ?_) | (with_reducible refine Below.trans ?_ (Below.mono (by assumption) (by first | omega | (simp; omega) | (simp; done) | (dsimp only; omega)))))) (fun fin hfin => ?_)
        iterate 8
          first
            | (refine SeqL.yes (v := ?_) (A' := ?_) rfl (by rfl) ?_ ?_ ?_
               rotate_left 2
               · intro w' K hS hK
                 obtain ⟨hc, hf⟩ := bcell hS
                 have hz := hS.size
                 go_simp
                 first
                   | exact hK.out _ hS
                   | (go_at_call 27; (with_reducible refine (HC.out _).mono ?_); rintro e w1 ⟨rfl, hb1⟩; exact hK.out _ (hS.trans (hb1.mono hz)))
                   | trace_state
               · simp only [Act.put, List.setIfInBounds_toArray, List.set_cons_zero, List.set_cons_succ]; exact rfl)
            | (refine SeqL.no (A' := ?_) rfl (by rfl) ?_ ?_
               rotate_left
               · simp only [Act.put, List.setIfInBounds_toArray, List.set_cons_zero, List.set_cons_succ]; exact rfl)
        refine SeqL.nil (hfin.out _ ?_)
        clear hfin fin
        intro w1 hS1
        have hS2 := hS1
        clear ne1 g0 g1 c0 c1 c2 c3
        go_wp2_with fail
        go_roundw
        case rel => exact ⟨i + 1, by omega, by go_num, ⟨A8, c8, by rw [HE.out], HK2.out _ hS2⟩, HB.out.trans (hS2.mono hsB)⟩
        case measure => simp [RowKit.intOf]; omega
    · have ik : ¬ (i : Int) < m.length := by omega
      have hti : m.take i = m := List.take_of_length_le (by omega)
      have hrl : rowR (((m.take i).filter (fun p => decide (p.1 = X))).map (·.2)) = dm := by rw [hti, HD.out]
      rw [hrl] at HKR
      have HNL := Lib.hid (congrArg List.length hrl)
      clear hti g0 g1 gf hrl
      generalize (rowR (((m.take i).filter (fun p => decide (p.1 = X))).map (·.2))).length = nn at *
      go_wp2_with fail
      go_ret
      exact ⟨⟨A8, ⟨c8, by rw [HNL.out]; rfl⟩, HKR.out⟩, HX.out.trans (HB.out.mono hwZ)⟩

set_option maxRecDepth 100000 in
set_option maxHeartbeats 8000000 in
theorem r29_Of (m : List Pr) (x : Ky) (A : Option Addr) (ca : Nat) (w : World) (hr : PRow w A m) (hm : (m.length + 1) * 48 ≤ 140737488355328) :
    Calls Try.prog 13 #[.slice A m.length ca, .agg #[encStr x.n, .int .i64 x.d]] w fun e w' => (∃ (A2 : Option Addr) (c2 : Nat), e = .returned (.slice A2 (rowR (ofP m x)).length c2) ∧ KRow w' A2 (rowR (ofP m x))) ∧ Below w.heap.size w w' := by
  have HC := Lib.hid (r26_Clean x)
  have HD := Lib.hid (show rowR (ofP m x) = rowR ((m.filter (fun p => decide (p.2 = x.cl))).map (·.1)) from rfl)
  generalize x.cl = X at *
  generalize rowR (ofP m x) = dm at *
  have ka := al_new w (.cells #[encStr x.n, .int .i64 x.d] 24) rfl
  have hV : Below w.heap.size w (w.alloc (.cells #[encStr x.n, .int .i64 x.d] 24)) := (Below.refl _ w).alloc (Nat.le_refl _) _
  have hr1 := hr.below hV
  go_enter Try.func13, Try.ntmps13
  go_upto_block 0 with fail
  clear hr
  generalize w.alloc (.cells #[encStr x.n, .int .i64 x.d] 24) = Z at *
  have HX := Lib.hid hV
  have hwZ := hV.size
  have KA := Lib.hid ka
  have zaZ := blk_lt ka
  have HRZ := Lib.hid hr1
  clear hV hr1 ka
  go_wp2_with fail
  go_loopw [5, 6] (fun v5 v6 wr => ∃ i : Nat, i ≤ m.length ∧ v6 = .int .i64 i ∧ (∃ (A2 : Option Addr) (c2 : Nat), v5 = .slice A2 (rowR (((m.take i).filter (fun p => decide (p.2 = X))).map (·.1))).length c2 ∧ KRow wr A2 (rowR (((m.take i).filter (fun p => decide (p.2 = X))).map (·.1)))) ∧ Below Z.heap.size Z wr) (fun _ v6 _ => m.length - (RowKit.intOf v6).toNat)
  case atStart => exact ⟨0, Nat.zero_le _, rfl, ⟨none, 0, rfl, fun j hj => absurd hj (by simp [rowR])⟩, Below.refl _ _⟩
  case round =>
    obtain ⟨i, hi, rfl, ⟨A8, c8, rfl, hkr⟩, hB⟩ := hrel
    have kp := (hB.block _ zaZ).trans KA.out
    have g0 := blk_cell kp 0
    have g1 := blk_cell kp 1
    simp only [List.getElem?_toArray, List.getElem?_cons_zero, List.getElem?_cons_succ] at g0 g1
    have gz := blk_lt kp
    have gf := blk_free kp
    have HB := Lib.hid hB
    have hsB := hB.size
    have hfl : (rowR (((m.take i).filter (fun p => decide (p.2 = X))).map (·.1))).length ≤ i := Nat.le_trans (rowR_len _) (by rw [List.length_map]; exact Nat.le_trans (List.length_filter_le _ _) (by rw [List.length_take]; omega))
    have HKR := Lib.hid hkr
    clear hkr hB kp
    by_cases hlt : i < m.length
    · have ik : (i : Int) < m.length := by omega
      obtain ⟨b, o, he, hz, c0, c1, c2, c3⟩ := (PRow.get (HRZ.out.below HB.out) hlt)
      have HFT := Lib.hid (filter_take (fun p : Pr => decide (p.2 = X)) hlt)
      have ne1 := fun W => key_eql m[i].2 X W
      cases he
      by_cases h1 : m[i].2 = X
      · have hd1 : decide (m[i].2 = X) = true := decide_eq_true h1
        have hft : rowR (((m.take (i + 1)).filter (fun p => decide (p.2 = X))).map (·.1)) = putR (rowR (((m.take i).filter (fun p => decide (p.2 = X))).map (·.1))) m[i].1 := by
          rw [HFT.out, if_pos (by simp [h1]), List.map_append]
          unfold rowR
          rw [List.foldl_append]
          rfl
        simp only [hd1] at ne1
        have HFN := Lib.hid hft
        clear hft HFT hd1 h1
        generalize m[i] = p at *
        generalize rowR (((m.take i).filter (fun p => decide (p.2 = X))).map (·.1)) = cur at *
        go_wp2_with fail
        refine region_seq (S := fun w' => Below wr.heap.size wr w') rfl (by kernel_rfl) (by kernel_rfl) (by repeat (first | (with_reducible assumption) | (with_reducible exact Below.refl _ _) | (with_reducible refine Below.alloc ?_ (by first | omega | (simp; omega) | (simp; done) | (dsimp only; omega)) _) | (with_reducible refine Below.setCell ?_ (by first | omega | (simp; omega) | (simp; done) | (dsimp only; omega)) _) | (with_reducible refine Below.drew ?_) | (with_reducible refine Below.trans ?_ (Below.mono (by assumption) (by first | omega | (simp; omega) | (simp; done) | (dsimp only; omega)))))) (fun fin hfin => ?_)
        iterate 8
          first
            | (refine SeqL.yes (v := ?_) (A' := ?_) rfl (by rfl) ?_ ?_ ?_
               rotate_left 2
               · intro w' K hS hK
                 obtain ⟨hc, hf⟩ := bcell hS
                 have hz := hS.size
                 go_simp
                 first
                   | exact hK.out _ hS
                   | (go_at_call 27; (with_reducible refine (HC.out _).mono ?_); rintro e w1 ⟨rfl, hb1⟩; exact hK.out _ (hS.trans (hb1.mono hz)))
                   | trace_state
               · simp only [Act.put, List.setIfInBounds_toArray, List.set_cons_zero, List.set_cons_succ]; exact rfl)
            | (refine SeqL.no (A' := ?_) rfl (by rfl) ?_ ?_
               rotate_left
               · simp only [Act.put, List.setIfInBounds_toArray, List.set_cons_zero, List.set_cons_succ]; exact rfl)
        refine SeqL.nil (hfin.out _ ?_)
        clear hfin fin
        intro w1 hS1
        clear ne1 g0 g1
        go_upto_region 6 with fail
        have c0 := (hS1.cell (p := ⟨b, o + i * 4, none⟩) hz).trans c0
        have c1 := (hS1.cell (p := ⟨b, o + i * 4 + 1, none⟩) hz).trans c1
        have c2 := (hS1.cell (p := ⟨b, o + i * 4 + 2, none⟩) hz).trans c2
        have c3 := (hS1.cell (p := ⟨b, o + i * 4 + 3, none⟩) hz).trans c3
        have hkr := HKR.out.mono hS1
        have HBD := Lib.hid (HB.out.trans (hS1.mono hsB))
        have hsD := HBD.out.size
        clear hS1 hz HKR
        have HPT := Lib.hid (r26_Put cur p.1 A8 c8 w1 hkr (by omega))
        clear hkr
        go_wp2_with fail
        go_at_call 28
        refine HPT.out.mono ?_
        rintro e w2 ⟨⟨A3, c3', rfl, hr3⟩, hb2⟩
        have HR3 := Lib.hid hr3
        have HB2 := Lib.hid (HBD.out.trans (hb2.mono hsD))
        clear hr3 hb2 HPT c0 c1 c2 c3
        rw [← HFN.out] at HR3
        have HE := Lib.hid (congrArg List.length HFN.out)
        clear HFN
        generalize (putR cur p.1).length = nn at *
        go_wp2_with fail
        go_roundw
        case rel => exact ⟨i + 1, by omega, by go_num, ⟨A3, c3', by rw [HE.out], HR3.out⟩, HB2.out⟩
        case measure => simp [RowKit.intOf]; omega
      · have hd1 : decide (m[i].2 = X) = false := decide_eq_false h1
        have hft : rowR (((m.take (i + 1)).filter (fun p => decide (p.2 = X))).map (·.1)) = rowR (((m.take i).filter (fun p => decide (p.2 = X))).map (·.1)) := by
          rw [HFT.out, if_neg (by simp [h1]), List.append_nil]
        simp only [hd1] at ne1
        have HFN := Lib.hid hft
        clear hft HFT hd1 h1
        generalize m[i] = p at *
        have HE := Lib.hid (congrArg List.length HFN.out)
        have HK2 := Lib.hid (show ∀ w1, Below wr.heap.size wr w1 → KRow w1 A8 (rowR (((m.take (i + 1)).filter (fun p => decide (p.2 = X))).map (·.1))) from fun w1 h => by rw [HFN.out]; exact HKR.out.mono h)
        clear HFN HKR
        generalize (rowR (((m.take i).filter (fun p => decide (p.2 = X))).map (·.1))).length = nn at *
        go_wp2_with fail
        refine region_seq (S := fun w' => Below wr.heap.size wr w') rfl (by kernel_rfl) (by kernel_rfl) (by repeat (first | (with_reducible assumption) | (with_reducible exact Below.refl _ _) | (with_reducible refine Below.alloc ?_ (by first | omega | (simp; omega) | (simp; done) | (dsimp only; omega)) _) | (with_reducible refine Below.setCell ?_ (by first | omega | (simp; omega) | (simp; done) | (dsimp only; omega)) _) | (with_reducible refine Below.drew ?_) | (with_reducible refine Below.trans ?_ (Below.mono (by assumption) (by first | omega | (simp; omega) | (simp; done) | (dsimp only; omega)))))) (fun fin hfin => ?_)
        iterate 8
          first
            | (refine SeqL.yes (v := ?_) (A' := ?_) rfl (by rfl) ?_ ?_ ?_
               rotate_left 2
               · intro w' K hS hK
                 obtain ⟨hc, hf⟩ := bcell hS
                 have hz := hS.size
                 go_simp
                 first
                   | exact hK.out _ hS
                   | (go_at_call 27; (with_reducible refine (HC.out _).mono ?_); rintro e w1 ⟨rfl, hb1⟩; exact hK.out _ (hS.trans (hb1.mono hz)))
                   | trace_state
               · simp only [Act.put, List.setIfInBounds_toArray, List.set_cons_zero, List.set_cons_succ]; exact rfl)
            | (refine SeqL.no (A' := ?_) rfl (by rfl) ?_ ?_
               rotate_left
               · simp only [Act.put, List.setIfInBounds_toArray, List.set_cons_zero, List.set_cons_succ]; exact rfl)
        refine SeqL.nil (hfin.out _ ?_)
        clear hfin fin
        intro w1 hS1
        have hS2 := hS1
        clear ne1 g0 g1 c0 c1 c2 c3
        go_wp2_with fail
        go_roundw
        case rel => exact ⟨i + 1, by omega, by go_num, ⟨A8, c8, by rw [HE.out], HK2.out _ hS2⟩, HB.out.trans (hS2.mono hsB)⟩
        case measure => simp [RowKit.intOf]; omega
    · have ik : ¬ (i : Int) < m.length := by omega
      have hti : m.take i = m := List.take_of_length_le (by omega)
      have hrl : rowR (((m.take i).filter (fun p => decide (p.2 = X))).map (·.1)) = dm := by rw [hti, HD.out]
      rw [hrl] at HKR
      have HNL := Lib.hid (congrArg List.length hrl)
      clear hti g0 g1 gf hrl
      generalize (rowR (((m.take i).filter (fun p => decide (p.2 = X))).map (·.1))).length = nn at *
      go_wp2_with fail
      go_ret
      exact ⟨⟨A8, ⟨c8, by rw [HNL.out]; rfl⟩, HKR.out⟩, HX.out.trans (HB.out.mono hwZ)⟩
end Go.Proofs.Ytkmpkhbahmehmaa
