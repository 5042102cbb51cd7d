/- X-PARTIAL The document's own answer: a pair more: layer 29. -/
import Derived.Test.YtkmpkhbahmehmaaWebR
namespace Go.Proofs.Ytkmpkhbahmehmaa
open Go.RowKit Go.Lib

set_option maxRecDepth 100000 in
set_option maxHeartbeats 8000000 in
theorem r29_Add (m : List Pr) (x y : Ky) (A : Option Addr) (ca : Nat) (w : World) (hr : PRow w A m) (hm : (m.length + 1) * 48 ≤ 140737488355328) :
    Calls Try.prog 23 #[.slice A m.length ca, .agg #[encStr x.n, .int .i64 x.d], .agg #[encStr y.n, .int .i64 y.d]] w fun e w' => (∃ (A2 : Option Addr) (c2 : Nat), e = .returned (.slice A2 (addP m x y).length c2) ∧ PRow w' A2 (addP m x y) ∧ ∀ a, A2 = some a → w.heap.size ≤ a.block) ∧ Below w.heap.size w w' := by
  have HCX := Lib.hid (r26_Clean x)
  have HCY := Lib.hid (r26_Clean y)
  have HR := Lib.hid hr
  clear hr
  unfold addP
  generalize x.cl = X at *
  generalize y.cl = Y at *
  go_enter Try.func23, Try.ntmps23
  go_upto_region 1 with fail
  have ka := al2_0 w (.cells #[encStr x.n, .int .i64 x.d] 24) (.cells #[encStr y.n, .int .i64 y.d] 24)
  have kb := al2_1 w (.cells #[encStr x.n, .int .i64 x.d] 24) (.cells #[encStr y.n, .int .i64 y.d] 24)
  have hV : Below w.heap.size w ((w.alloc (.cells #[encStr x.n, .int .i64 x.d] 24)).alloc (.cells #[encStr y.n, .int .i64 y.d] 24)) := ((Below.refl _ w).alloc (Nat.le_refl _) _).alloc (by simp) _
  generalize (w.alloc (.cells #[encStr x.n, .int .i64 x.d] 24)).alloc (.cells #[encStr y.n, .int .i64 y.d] 24) = V at *
  have a0 := blk_cell ka 0
  have a1 := blk_cell ka 1
  have b0 := blk_cell kb 0
  have b1 := blk_cell kb 1
  simp only [List.getElem?_toArray, List.getElem?_cons_zero, List.getElem?_cons_succ] at a0 a1 b0 b1
  have za := blk_lt ka
  have zb := blk_lt kb
  have HV := Lib.hid hV
  have hsV := hV.size
  clear ka kb hV
  refine region_seqg (W := V) [_, _, _, _, _, _] [_] rfl (by kernel_rfl) (by kernel_rfl) (by repeat (first | (with_reducible assumption) | (with_reducible exact Below.refl _ _) | (with_reducible refine Below.alloc ?_ (by first | omega | (simp; omega) | (simp; done) | (dsimp only; omega)) _) | (with_reducible refine Below.setCell ?_ (by first | omega | (simp; omega) | (simp; done) | (dsimp only; omega)) _) | (with_reducible refine Below.drew ?_) | (with_reducible refine Below.trans ?_ (Below.mono (by assumption) (by first | omega | (simp; omega) | (simp; done) | (dsimp only; omega)))))) (fun fin hfin => ?_)
  iterate 5
    first
      | (refine SeqG.yes (v := ?_) (A' := ?_) rfl (fun γ => by rfl) ?_ ?_ ?_
         rotate_left 2
         · intro γ w' K hS hK
           obtain ⟨hc, hf⟩ := bcell hS
           have hz := hS.size
           go_simp
           first
             | exact hK.out _ (Below.refl _ _)
             | (go_at_call 27; (with_reducible refine (HCX.out _).mono ?_); rintro e w1 ⟨rfl, hb1⟩; exact hK.out _ hb1)
             | (go_at_call 27; (with_reducible refine (HCY.out _).mono ?_); rintro e w1 ⟨rfl, hb1⟩; exact hK.out _ hb1)
             | trace_state
         · intro γ; simp only [Act.put, List.setIfInBounds_toArray, List.set_cons_zero, List.set_cons_succ]; exact rfl)
      | (refine SeqG.no (A' := ?_) rfl (fun γ => by rfl) ?_ ?_
         rotate_left
         · intro γ; simp only [Act.put, List.setIfInBounds_toArray, List.set_cons_zero, List.set_cons_succ]; exact rfl)
  refine SeqG.make (k := 5) (A' := ?_) (fun g => .pointer (some ⟨g 0, 0, none⟩)) (RCell #[.string ⟨#[]⟩, .int .i64 0, .string ⟨#[]⟩, .int .i64 0] 53) rfl (fun γ => by rfl) (RCell.stable _ _) ?_ ?_ ?_
  rotate_left
  · intro γ w' K hS _ hK
    have hm := RCell.made (#[.string ⟨#[]⟩, .int .i64 0, .string ⟨#[]⟩, .int .i64 0]) (53) w'
    have HK := Lib.hid (hK.out (fun _ => w'.heap.size) (w'.alloc (.cells #[.string ⟨#[]⟩, .int .i64 0, .string ⟨#[]⟩, .int .i64 0] 53)) ((Below.refl _ _).alloc (Nat.le_refl _) _) hm); clear hK hm
    go_simp
    exact HK.out
  · intro γ; simp only [Act.put, List.setIfInBounds_toArray, List.set_cons_zero, List.set_cons_succ]; exact rfl
  refine SeqG.nil (hfin.out _ _ ?_)
  clear hfin fin
  intro γ lo hi w1 hB1 hF hD
  replace hF := listF1 hF
  dsimp only at hF
  clear hD
  obtain ⟨_, _, y7, o7, p7, h7⟩ := hF
  have w7 : V.heap.size ≤ γ 5 0 := by omega
  have x7 : γ 5 0 < w1.heap.size := by omega
  clear o7 p7 y7
  generalize γ 5 0 = b7 at *
  have g7 := blk_cell h7
  have f7 := blk_free h7
  have K7 := Lib.hid h7
  clear h7
  refine TailL.cons (fun K hK => ?_)
  go_simp
  refine hK.out _ _ ?_
  clear hK K
  refine TailL.nil ?_
  have HW1 := Lib.hid (HV.out.trans (hB1.mono hsV))
  have hs1 := hB1.size
  have hX : Below w.heap.size w ((((w1.setCell ⟨b7, 0, none⟩ (.string ⟨X.n.toArray⟩)).setCell ⟨b7, 1, none⟩ (.int .i64 X.d)).setCell ⟨b7, 2, none⟩ (.string ⟨Y.n.toArray⟩)).setCell ⟨b7, 3, none⟩ (.int .i64 Y.d)) := (((HW1.out.setCell (by show w.heap.size ≤ b7; omega) _).setCell (by show w.heap.size ≤ b7; omega) _).setCell (by show w.heap.size ≤ b7; omega) _).setCell (by show w.heap.size ≤ b7; omega) _
  have k7 := blk_set4 (v0 := .string ⟨X.n.toArray⟩) (v1 := .int .i64 X.d) (v2 := .string ⟨Y.n.toArray⟩) (v3 := .int .i64 Y.d) K7.out
  clear g7 f7 K7 hB1 a0 a1 b0 b1 za zb HV hsV HW1 HCX HCY
  generalize (((w1.setCell ⟨b7, 0, none⟩ (.string ⟨X.n.toArray⟩)).setCell ⟨b7, 1, none⟩ (.int .i64 X.d)).setCell ⟨b7, 2, none⟩ (.string ⟨Y.n.toArray⟩)).setCell ⟨b7, 3, none⟩ (.int .i64 Y.d) = Z at *
  have h7Z := blk_lt k7
  have hwZ := hX.size
  have HX := Lib.hid hX
  have K7 := Lib.hid k7
  have HRZ := Lib.hid (HR.out.below hX)
  clear hX k7 HR
  go_wp2_with fail
  go_loopw [8, 9] (fun v8 v9 wr => ∃ i : Nat, i ≤ m.length ∧ v9 = .int .i64 i ∧ OwnP wr Z.heap.size v8 ((m.take i).filter (fun p => decide (p ≠ (X, Y)))) ∧ Below Z.heap.size Z wr) (fun _ v9 _ => m.length - (RowKit.intOf v9).toNat)
  case atStart => exact ⟨0, Nat.zero_le _, rfl, OwnG.nil _ _, Below.refl _ _⟩
  case round =>
    obtain ⟨i, hi, rfl, hown, hB⟩ := hrel
    have kp := (hB.block _ h7Z).trans K7.out
    have g0 := blk_cell kp 0
    have g1 := blk_cell kp 1
    have g2 := blk_cell kp 2
    have g3 := blk_cell kp 3
    simp only [List.getElem?_toArray, List.getElem?_cons_zero, List.getElem?_cons_succ] at g0 g1 g2 g3
    have gz := blk_lt kp
    have gf := blk_free kp
    have HB := Lib.hid hB
    have hsB := hB.size
    have hfl : ((m.take i).filter (fun p => decide (p ≠ (X, Y)))).length ≤ i := Nat.le_trans (List.length_filter_le _ _) (by rw [List.length_take]; omega)
    obtain ⟨A8, c8, e8, -, -, -⟩ := hown.row encP_len
    have HOW := Lib.hid hown
    clear hown hB
    subst e8
    by_cases hlt : i < m.length
    · have ik : (i : Int) < m.length := by omega
      obtain ⟨b, o, he, hz, c0, c1, c2, c3⟩ := (PRow.get (HRZ.out.below HB.out) hlt)
      have HFT := Lib.hid (filter_take (fun p => decide (p ≠ (X, Y))) hlt)
      have ne0 := fun W => pair_neq m[i] (X, Y) W
      cases he
      have HPQ := Lib.hid (show m[i] = m[i] from rfl)
      by_cases hpq : m[i] = (X, Y)
      · have hd : decide (m[i] = (X, Y)) = true := decide_eq_true hpq
        have hft : (m.take (i + 1)).filter (fun p => decide (p ≠ (X, Y))) = (m.take i).filter (fun p => decide (p ≠ (X, Y))) := by
          rw [HFT.out, if_neg (by simp [hpq]), List.append_nil]
        simp only [hd, Bool.not_true] at ne0
        have HFN := Lib.hid hft
        clear hft HFT hd hpq HPQ kp
        generalize m[i] = p at *
        have ne1 : ∀ W, (binOp BinOp.neq 53 (.agg #[.string ⟨p.1.n.toArray⟩, .int .i64 p.1.d, .string ⟨p.2.n.toArray⟩, .int .i64 p.2.d]) (.agg #[.string ⟨X.n.toArray⟩, .int .i64 X.d, .string ⟨Y.n.toArray⟩, .int .i64 Y.d])).run Try.prog W = .ok (.bool false) W := ne0
        go_wp2_with fail
        go_region
        clear ne0 ne1 c0 c1 c2 c3 g0 g1 g2 g3
        go_wp2_with fail
        go_roundw
        case rel => exact ⟨i + 1, by omega, by go_num, by rw [HFN.out]; exact HOW.out.mono (Below.refl _ wr).drew, HB.out.drew⟩
        case measure => simp [RowKit.intOf]; omega
      · have hd : decide (m[i] = (X, Y)) = false := decide_eq_false hpq
        have hft : (m.take (i + 1)).filter (fun p => decide (p ≠ (X, Y))) = (m.take i).filter (fun p => decide (p ≠ (X, Y))) ++ [m[i]] := by
          rw [HFT.out, if_pos (by simp [hpq])]
        simp only [hd, Bool.not_false] at ne0
        have HFN := Lib.hid hft
        clear hft HFT hd hpq HPQ kp
        generalize m[i] = p at *
        have ne1 : ∀ W, (binOp BinOp.neq 53 (.agg #[.string ⟨p.1.n.toArray⟩, .int .i64 p.1.d, .string ⟨p.2.n.toArray⟩, .int .i64 p.2.d]) (.agg #[.string ⟨X.n.toArray⟩, .int .i64 X.d, .string ⟨Y.n.toArray⟩, .int .i64 Y.d])).run Try.prog W = .ok (.bool true) W := ne0
        go_wp2_with fail
        go_region
        clear ne0 ne1 g0 g1 g2 g3
        go_upto_region 7 with fail
        have hD : Below wr.heap.size wr wr.drew := (Below.refl _ wr).drew
        have c0' : wr.drew.cell? ⟨b, o + i * 4, none⟩ = some (encStr p.1.n) := c0
        have c1' : wr.drew.cell? ⟨b, o + i * 4 + 1, none⟩ = some (.int .i64 p.1.d) := c1
        have c2' : wr.drew.cell? ⟨b, o + i * 4 + 2, none⟩ = some (encStr p.2.n) := c2
        have c3' : wr.drew.cell? ⟨b, o + i * 4 + 3, none⟩ = some (.int .i64 p.2.d) := c3
        have how := HOW.out.mono hD
        have HBD := Lib.hid (HB.out.trans (hD.mono hsB))
        have hsD := HBD.out.size
        clear hD c0 c1 c2 c3 hz
        generalize wr.drew = D at *
        generalize (m.take i).filter (fun p => decide (p ≠ (X, Y))) = fl at *
        go_wp2_with (at_builtin; refine wpList_append_g pair_type encP_len encP_one rfl _ _ rfl Z.heap.size _ fl [p] rfl (how.mono ((Below.refl _ D).alloc (Nat.le_refl _) _)) D.heap.size 1 rfl (GRow.new (al_new D _ rfl) rfl) ?c1 ?c2 ?c3 ?_)
        case c1 => simp; omega
        case c2 => unfold maxLen; simp only [List.length_cons, List.length_nil]; omega
        case c3 => rw [al_size]; omega
        · intro v' w' hown' hgrow
          have HO := Lib.hid hown'
          have hB4 : Below Z.heap.size Z w' := Below.grown (HBD.out.alloc hsD (.cells #[.string ⟨p.1.n.toArray⟩, .int .i64 p.1.d, .string ⟨p.2.n.toArray⟩, .int .i64 p.2.d] 53)) hgrow (by rw [al_size]; omega) (fun j e => (how.lt j e).1)
          clear hown' hgrow how c0' c1' c2' c3'
          go_wp2_with fail
          go_roundw
          case rel => exact ⟨i + 1, by omega, by go_num, by rw [HFN.out]; exact HO.out, hB4⟩
          case measure => simp [RowKit.intOf]; omega
    · have ik : ¬ (i : Int) < m.length := by omega
      have hti : m.take i = m := List.take_of_length_le (by omega)
      rw [hti] at hfl HOW ⊢
      clear hti
      have how := HOW.out
      have hml : i ≤ m.length := hi
      generalize hfe : m.filter (fun p => decide (p ≠ (X, Y))) = fl at *
      have HFE := Lib.hid hfe
      clear hfe
      go_wp2_with (at_builtin; refine wpList_append_g pair_type encP_len encP_one rfl _ _ rfl Z.heap.size _ fl [(X, Y)] rfl (how.mono ((Below.refl _ wr).alloc (Nat.le_refl _) _)) wr.heap.size 1 rfl (GRow.new (al_new wr _ rfl) rfl) ?c1 ?c2 ?c3 ?_)
      case c1 => omega
      case c2 => unfold maxLen; omega
      case c3 => omega
      · intro v' w' hown' hgrow
        have hB4 : Below Z.heap.size Z w' := Below.grown (HB.out.alloc hsB (.cells #[.string ⟨X.n.toArray⟩, .int .i64 X.d, .string ⟨Y.n.toArray⟩, .int .i64 Y.d] 53)) hgrow (by rw [al_size]; omega) (fun j e => (how.lt j e).1)
        obtain ⟨A9, c9, rfl, hr9, hb9, -⟩ := hown'.row encP_len
        have HR9 := Lib.hid hr9
        have HB9 := Lib.hid hb9
        clear hown' hgrow how hr9 hb9 g0 g1 g2 g3
        go_wp2_with fail
        go_ret
        exact ⟨⟨A9, c9, by rw [HFE.out]; rfl, by rw [HFE.out]; exact HR9.out, fun a e => Nat.le_trans hwZ (HB9.out a e).1⟩, HX.out.trans (hB4.mono hwZ)⟩
end Go.Proofs.Ytkmpkhbahmehmaa
