/- X-PARTIAL The reference's Put and Has at greater rows: layer 26. -/
import Derived.Test.YtkmpkhbahmehmaaKeyX
import Derived.Deep.DeepAppendWide
namespace Go.Proofs.Ytkmpkhbahmehmaa
open Go.RowKit Go.Lib

theorem wide24 {n : Nat} (h : n ≤ 9382499223534) : (n + n / 4 + 192) * 24 ≤ 281474976710656 := by
  have h1 : n / 4 ≤ 2345624805883 := by omega
  have h2 : n + n / 4 + 192 ≤ 11728124029609 := by omega
  exact Nat.le_trans (Nat.mul_le_mul_right 24 h2) (by decide)

set_option maxRecDepth 100000 in
set_option maxHeartbeats 8000000 in
theorem r26_PutW (l : List Ky) (k : Ky) (A : Option Addr) (ca : Nat) (w : World) (hr : KRow w A l) (hm : l.length + 1 ≤ 9382499223534) :
    Calls Try.prog 28 #[.slice A l.length ca, .agg #[encStr k.n, .int .i64 k.d]] w fun e w' => (∃ (A2 : Option Addr) (c2 : Nat), e = .returned (.slice A2 (putR l k).length c2) ∧ KRow w' A2 (putR l k)) ∧ Below w.heap.size w w' := by
  obtain ⟨i0, gi, gz0, gz1, gz2⟩ := info_parts info_key
  have HC := Lib.hid (r26_Clean k)
  have HL := Lib.hid (fun x => r26_Less x k.cl)
  generalize hP : putR l k = R
  have HP := Lib.hid (show R = l.takeWhile (·.less k.cl) ++ [k.cl] ++ (l.dropWhile (·.less k.cl)).filter (fun x => decide (x ≠ k.cl)) from hP.symm)
  clear hP
  generalize k.cl = q at *
  have k0 : (w.alloc (.cells #[encStr k.n, .int .i64 k.d] 24)).heap[w.heap.size]? = some (.cells #[encStr k.n, .int .i64 k.d] 24) := al_new w _ rfl
  have hb0 : Below w.heap.size w (w.alloc (.cells #[encStr k.n, .int .i64 k.d] 24)) := (Below.refl _ w).alloc (Nat.le_refl _) _
  go_enter Try.func28, Try.ntmps28
  go_wp2_with fail
  go_at_call 27
  refine (HC.out _).mono ?_
  rintro e w1 ⟨rfl, hb1⟩
  have k1 := (hb1.block w.heap.size (blk_lt k0)).trans k0
  have hB1 := hb0.trans (hb1.mono hb0.size)
  have g1 := blk_cell k1
  have f1 := blk_free k1
  have z1 := blk_lt k1
  clear hb1 k0 hb0 HC
  go_upto_block 0 with fail
  have k2 : ((w1.setCell ⟨w.heap.size, 0, none⟩ (encStr q.n)).setCell ⟨w.heap.size, 1, none⟩ (.int .i64 q.d)).heap[w.heap.size]? = some (.cells #[encStr q.n, .int .i64 q.d] 24) := by
    have h1 := heap_setCell_same w1 w.heap.size 0 _ _ (encStr q.n) k1
    have h2 := heap_setCell_same _ w.heap.size 1 _ _ (.int .i64 q.d) h1
    exact h2
  have hB2 : Below w.heap.size w ((w1.setCell ⟨w.heap.size, 0, none⟩ (encStr q.n)).setCell ⟨w.heap.size, 1, none⟩ (.int .i64 q.d)) := (hB1.setCell (Nat.le_refl _) _).setCell (Nat.le_refl _) _
  change Code.wp _ _ _ _ ((w1.setCell ⟨w.heap.size, 0, none⟩ (encStr q.n)).setCell ⟨w.heap.size, 1, none⟩ (.int .i64 q.d))
  generalize (w1.setCell ⟨w.heap.size, 0, none⟩ (encStr q.n)).setCell ⟨w.heap.size, 1, none⟩ (.int .i64 q.d) = W2 at *
  have q0 : W2.cell? ⟨w.heap.size, 0, none⟩ = some (encStr q.n) := by simp [World.cell?, k2]
  have q1 : W2.cell? ⟨w.heap.size, 1, none⟩ = some (.int .i64 q.d) := by simp [World.cell?, k2]
  have zb : w.heap.size + 1 ≤ W2.heap.size := blk_lt k2
  clear k1 hB1 g1 f1 z1 k2
  go_cut [5, 6] from 11 to 31 (fun s5 s6 wx => ∃ i : Nat, i ≤ l.length ∧ OwnKv wx (w.heap.size + 1) s5 (l.take i) ∧ l.takeWhile (·.less q) = l.take i ∧ l.dropWhile (·.less q) = l.drop i ∧ Below (w.heap.size + 1) W2 wx)
  case first =>
    clear HP
    go_wp2_with fail
    go_loopw [5, 6] (fun v5 v6 wr => ∃ i : Nat, i ≤ l.length ∧ v6 = .int .i64 i ∧ OwnKv wr (w.heap.size + 1) v5 (l.take i) ∧ (∀ x ∈ l.take i, x.less q = true) ∧ Below (w.heap.size + 1) W2 wr) (fun _ v6 _ => l.length - (RowKit.intOf v6).toNat)
    case atStart => exact ⟨0, Nat.zero_le _, rfl, OwnKv.nil _ _, fun x hx => absurd hx (by simp), Below.refl _ _⟩
    case round =>
      obtain ⟨i, hi, rfl, hown, hall, hBw⟩ := hrel
      have hBl : Below w.heap.size w wr := hB2.trans (hBw.mono (by omega))
      have b0 := (hBw.cell (p := ⟨w.heap.size, 0, none⟩) (by show w.heap.size < _; omega)).trans q0
      have b1 := (hBw.cell (p := ⟨w.heap.size, 1, none⟩) (by show w.heap.size < _; omega)).trans q1
      have zw : w.heap.size < wr.heap.size := Nat.lt_of_lt_of_le zb hBw.size
      by_cases hlt : i < l.length
      · have ik : (i : Int) < l.length := by omega
        obtain ⟨b, o, he, hz, c0, c1⟩ := (hr.mono hBl).get hlt
        have HAL := Lib.hid hall
        have HLL := Lib.hid (HL.out l[i])
        have HTK := Lib.hid (List.take_succ_eq_append_getElem hlt)
        have HME := Lib.hid (fun (h : l[i].less q = true) => show ∀ x ∈ l.take (i + 1), x.less q = true from fun x hx => by
          rw [HTK.out] at hx
          rcases List.mem_append.1 hx with hx | hx
          · exact HAL.out x hx
          · rw [List.mem_singleton] at hx; subst hx; exact h)
        have HFA := Lib.hid (fun (h : l[i].less q = false) => while_at (p := (·.less q)) hi hall (fun _ => h))
        have HOW := Lib.hid hown
        cases he
        clear hall hr
        generalize l[i] = x at *
        generalize hless : x.less q = lb at *
        cases lb
        · have HW := HFA.out rfl
          go_wp2_with fail
          refine region_seq (S := fun w' => Below wr.heap.size wr w') rfl (by kernel_rfl) (by kernel_rfl) (by repeat (first | (with_reducible assumption) | (with_reducible exact Below.refl _ _) | (with_reducible refine Below.alloc ?_ (by first | omega | (simp; omega) | (simp; done) | (dsimp only; omega)) _) | (with_reducible refine Below.setCell ?_ (by first | omega | (simp; omega) | (simp; done) | (dsimp only; omega)) _) | (with_reducible refine Below.drew ?_) | (with_reducible refine Below.trans ?_ (Below.mono (by assumption) (by first | omega | (simp; omega) | (simp; done) | (dsimp only; omega)))))) (fun fin hfin => ?_)
          iterate 12
            first
              | (refine SeqL.yes (v := ?_) (A' := ?_) rfl (by rfl) ?_ ?_ ?_
                 rotate_left 2
                 · intro w' K hS hK
                   obtain ⟨hc, hf⟩ := bcell hS
                   have hz := hS.size
                   go_simp
                   first
                     | exact hK.out _ hS
                     | (go_at_call 33; (with_reducible refine (HLL.out _).mono ?_); rintro e w1 ⟨rfl, hb1⟩; exact hK.out _ (hS.trans (hb1.mono hz)))
                     | trace_state
                 · simp only [Act.put, List.setIfInBounds_toArray, List.set_cons_zero, List.set_cons_succ]; exact rfl)
              | (refine SeqL.no (A' := ?_) rfl (by rfl) ?_ ?_
                 rotate_left
                 · simp only [Act.put, List.setIfInBounds_toArray, List.set_cons_zero, List.set_cons_succ]; exact rfl)
          refine SeqL.nil (hfin.out _ ?_)
          clear hfin fin
          intro w1 hS1
          go_wp2_with fail
          go_meet
          exact ⟨i, hi, HOW.out.mono hS1, HW.1, HW.2, hBw.trans (hS1.mono (by omega))⟩
        · go_wp2_with fail
          refine region_seq (S := fun w' => Below wr.heap.size wr w') rfl (by kernel_rfl) (by kernel_rfl) (by repeat (first | (with_reducible assumption) | (with_reducible exact Below.refl _ _) | (with_reducible refine Below.alloc ?_ (by first | omega | (simp; omega) | (simp; done) | (dsimp only; omega)) _) | (with_reducible refine Below.setCell ?_ (by first | omega | (simp; omega) | (simp; done) | (dsimp only; omega)) _) | (with_reducible refine Below.drew ?_) | (with_reducible refine Below.trans ?_ (Below.mono (by assumption) (by first | omega | (simp; omega) | (simp; done) | (dsimp only; omega)))))) (fun fin hfin => ?_)
          iterate 12
            first
              | (refine SeqL.yes (v := ?_) (A' := ?_) rfl (by rfl) ?_ ?_ ?_
                 rotate_left 2
                 · intro w' K hS hK
                   obtain ⟨hc, hf⟩ := bcell hS
                   have hz := hS.size
                   go_simp
                   first
                     | exact hK.out _ hS
                     | (go_at_call 33; (with_reducible refine (HLL.out _).mono ?_); rintro e w1 ⟨rfl, hb1⟩; exact hK.out _ (hS.trans (hb1.mono hz)))
                     | trace_state
                 · simp only [Act.put, List.setIfInBounds_toArray, List.set_cons_zero, List.set_cons_succ]; exact rfl)
              | (refine SeqL.no (A' := ?_) rfl (by rfl) ?_ ?_
                 rotate_left
                 · simp only [Act.put, List.setIfInBounds_toArray, List.set_cons_zero, List.set_cons_succ]; exact rfl)
          refine SeqL.nil (hfin.out _ ?_)
          clear hfin fin
          intro w1 hS1
          have d0 := (hS1.cell (p := ⟨b, o + i * 2, none⟩) hz).trans c0
          have d1 := (hS1.cell (p := ⟨b, o + i * 2 + 1, none⟩) hz).trans c1
          have hown1 := HOW.out.mono hS1
          have hB5 : Below (w.heap.size + 1) W2 w1 := hBw.trans (hS1.mono (by omega))
          have hbz := Nat.lt_of_lt_of_le hz hS1.size
          have hz5 := hB5.size
          clear c0 c1 hown hS1 hBw hBl HLL HFA
          go_wp2_with (at_builtin; refine wpList_append_own_wide _ rfl _ _ 30 rfl (w.heap.size + 1) 24 i0 _ 2 24 Try.underlying30 gi gz0 gz1 gz2 rfl (by decide) _ _ _ rfl (hown1.mono ((Below.refl _ w1).alloc (Nat.le_refl _) _)) ⟨w1.heap.size, 0, none⟩ 1 1 [encStr x.n, .int .i64 x.d] rfl rfl ?c1 ?c2 ?c3 ?c4 ?c5 ?_)
          case c1 =>
            intro p u hp
            match p, hp with
            | 0, hp => simp at hp; subst hp; simp [Addr.add, go_sem]
            | 1, hp => simp at hp; subst hp; simp [Addr.add, go_sem]
            | p + 2, hp => simp at hp
          case c2 => intro u hu; simp at hu; rcases hu with rfl | rfl <;> rfl
          case c3 => unfold maxLen; rw [List.length_take]; omega
          case c4 => exact wide24 (by rw [List.length_take]; omega)
          case c5 => simp; omega
          · intro v' w' hown' hgrow _
            have HO2 := Lib.hid (OwnKv.snoc (by rw [List.length_take]; omega) hown')
            have hB6 : Below (w.heap.size + 1) W2 w' := Below.grown (hB5.alloc (by omega) (.cells #[encStr x.n, .int .i64 x.d] 24)) hgrow (by simp; omega) (fun j e => (hown1.lt j e).1)
            clear hown' hgrow hown1 hB5
            go_wp2_with fail
            go_roundw
            case rel => exact ⟨i + 1, by omega, by go_num, by rw [HTK.out]; exact HO2.out, HME.out trivial, hB6⟩
            case measure => simp [RowKit.intOf]; omega
      · have ik : ¬ (i : Int) < l.length := by omega
        have HW := Lib.hid (while_at (p := (·.less q)) hi hall (fun h => absurd h hlt))
        have HOW := Lib.hid hown
        clear hall hr hown
        go_wp2_with fail
        refine region_seq (S := fun w' => Below wr.heap.size wr w') rfl (by kernel_rfl) (by kernel_rfl) (by repeat (first | (with_reducible assumption) | (with_reducible exact Below.refl _ _) | (with_reducible refine Below.alloc ?_ (by first | omega | (simp; omega) | (simp; done) | (dsimp only; omega)) _) | (with_reducible refine Below.setCell ?_ (by first | omega | (simp; omega) | (simp; done) | (dsimp only; omega)) _) | (with_reducible refine Below.drew ?_) | (with_reducible refine Below.trans ?_ (Below.mono (by assumption) (by first | omega | (simp; omega) | (simp; done) | (dsimp only; omega)))))) (fun fin hfin => ?_)
        iterate 12
          first
            | (refine SeqL.yes (v := ?_) (A' := ?_) rfl (by rfl) ?_ ?_ ?_
               rotate_left 2
               · intro w' K hS hK
                 obtain ⟨hc, hf⟩ := bcell hS
                 have hz := hS.size
                 go_simp
                 first
                   | exact hK.out _ hS
                   | trace_state
               · simp only [Act.put, List.setIfInBounds_toArray, List.set_cons_zero, List.set_cons_succ]; exact rfl)
            | (refine SeqL.no (A' := ?_) rfl (by rfl) ?_ ?_
               rotate_left
               · simp only [Act.put, List.setIfInBounds_toArray, List.set_cons_zero, List.set_cons_succ]; exact rfl)
        refine SeqL.nil (hfin.out _ ?_)
        clear hfin fin
        intro w1 hS1
        go_wp2_with fail
        go_meet
        exact ⟨i, hi, HOW.out.mono hS1, HW.out.1, HW.out.2, hBw.trans (hS1.mono (by omega))⟩
  case rest =>
    obtain ⟨i, hi, hown, h1, h2, hBw⟩ := hcut
    have hti : (l.take i).length = i := by rw [List.length_take]; omega
    have hR : R = l.take i ++ [q] ++ (l.drop i).filter (fun x => decide (x ≠ q)) := by rw [HP.out, h1, h2]
    have HR := Lib.hid hR
    have hBl : Below w.heap.size w wc := hB2.trans (hBw.mono (by omega))
    have b0 := (hBw.cell (p := ⟨w.heap.size, 0, none⟩) (by show w.heap.size < _; omega)).trans q0
    have b1 := (hBw.cell (p := ⟨w.heap.size, 1, none⟩) (by show w.heap.size < _; omega)).trans q1
    have zw : w.heap.size < wc.heap.size := Nat.lt_of_lt_of_le zb hBw.size
    have hz5 := hBw.size
    obtain ⟨A5, c5, e5, -⟩ := hown.row
    rw [hti] at e5
    subst e5
    clear h1 h2 hR HP HL
    go_wp2_with (at_builtin; refine wpList_append_own_wide _ rfl _ _ 30 rfl (w.heap.size + 1) 24 i0 _ 2 24 Try.underlying30 gi gz0 gz1 gz2 rfl (by decide) _ _ _ rfl (hown.mono ((Below.refl _ wc).alloc (Nat.le_refl _) _)) ⟨wc.heap.size, 0, none⟩ 1 1 [encStr q.n, .int .i64 q.d] rfl rfl ?c1 ?c2 ?c3 ?c4 ?c5 ?_)
    case c1 =>
      intro p' u hp
      match p', hp with
      | 0, hp => simp at hp; subst hp; simp [Addr.add, go_sem]
      | 1, hp => simp at hp; subst hp; simp [Addr.add, go_sem]
      | p' + 2, hp => simp at hp
    case c2 => intro u hu; simp at hu; rcases hu with rfl | rfl <;> rfl
    case c3 => unfold maxLen; omega
    case c4 => exact wide24 (by omega)
    case c5 => simp; omega
    · intro v' w' hown' hgrow _
      have HO2 := Lib.hid (OwnKv.snoc hti hown')
      have hB6 : Below (w.heap.size + 1) W2 w' := Below.grown (hBw.alloc (by omega) (.cells #[encStr q.n, .int .i64 q.d] 24)) hgrow (by simp; omega) (fun j e => (hown.lt j e).1)
      clear hown' hgrow hown hBw hBl b0 b1 zw hz5
      go_wp2_with fail
      go_loopw [5, 8] (fun v5 v8 wr => ∃ p : Nat, i + p ≤ l.length ∧ v8 = .int .i64 ((i + p : Nat) : Int) ∧ OwnKv wr (w.heap.size + 1) v5 (l.take i ++ [q] ++ ((l.drop i).take p).filter (fun x => decide (x ≠ q))) ∧ Below (w.heap.size + 1) W2 wr) (fun _ v8 _ => l.length - (RowKit.intOf v8).toNat)
      case atStart => exact ⟨0, by omega, rfl, by simpa using HO2.out, hB6⟩
      case round =>
        obtain ⟨p, hp, rfl, hown, hBw⟩ := hrel
        have hBl : Below w.heap.size w wr := hB2.trans (hBw.mono (by omega))
        have b0 := (hBw.cell (p := ⟨w.heap.size, 0, none⟩) (by show w.heap.size < _; omega)).trans q0
        have b1 := (hBw.cell (p := ⟨w.heap.size, 1, none⟩) (by show w.heap.size < _; omega)).trans q1
        have zw : w.heap.size < wr.heap.size := Nat.lt_of_lt_of_le zb hBw.size
        have hz5 := hBw.size
        by_cases hlt : i + p < l.length
        · have ik : ((i + p : Nat) : Int) < l.length := by omega
          obtain ⟨b, o, he, hz, c0, c1⟩ := (hr.mono hBl).get hlt
          have hdl : p < (l.drop i).length := by rw [List.length_drop]; omega
          have hdx : (l.drop i)[p] = l[i + p] := List.getElem_drop ..
          have htk := List.take_succ_eq_append_getElem hdl
          rw [hdx] at htk
          have HTK := Lib.hid htk
          have hfl : (((l.drop i).take p).filter (fun x => decide (x ≠ q))).length ≤ p := by
            have h1 := List.length_filter_le (fun x => decide (x ≠ q)) ((l.drop i).take p)
            rw [List.length_take, List.length_drop] at h1
            omega
          have HOW := Lib.hid hown
          cases he
          clear htk hdl hdx hr
          generalize l[i + p] = x at *
          by_cases hx : x = q
          · have HT := Lib.hid (show ((l.drop i).take (p + 1)).filter (fun x => decide (x ≠ q)) = ((l.drop i).take p).filter (fun x => decide (x ≠ q)) by
              rw [HTK.out, List.filter_append, List.filter_cons, if_neg (by simpa using hx), List.filter_nil, List.append_nil])
            rw [hx] at c0 c1
            clear HTK hown hx
            go_wp2_with fail
            go_region
            go_wp2_with fail
            go_roundw
            case rel => exact ⟨p + 1, by omega, by go_num, by rw [HT.out]; exact HOW.out, hBw.drew⟩
            case measure => simp [RowKit.intOf]; omega
          · have HT := Lib.hid (show l.take i ++ [q] ++ ((l.drop i).take (p + 1)).filter (fun x => decide (x ≠ q)) = l.take i ++ [q] ++ ((l.drop i).take p).filter (fun x => decide (x ≠ q)) ++ [x] by
              rw [HTK.out, List.filter_append, List.filter_cons, if_pos (by simpa using hx), List.filter_nil, ← List.append_assoc])
            have hne := key_ne hx
            have hol : (l.take i ++ [q] ++ ((l.drop i).take p).filter (fun x => decide (x ≠ q))).length ≤ i + 1 + p := by
              rw [List.length_append, List.length_append, List.length_singleton, hti]; omega
            clear HTK hown hx hfl
            generalize l.take i ++ [q] ++ ((l.drop i).take p).filter (fun x => decide (x ≠ q)) = out at *
            obtain ⟨A6, c6, e6, -⟩ := HOW.out.row
            subst e6
            have hownd : OwnKv wr.drew (w.heap.size + 1) (.slice A6 out.length c6) out := HOW.out
            generalize hnl : out.length = nl at *
            have hBd : Below (w.heap.size + 1) W2 wr.drew := hBw.drew
            rcases hne with e1 | ⟨e1, e2⟩
            · go_wp2_with fail
              go_region
              go_wp2_with (at_builtin; refine wpList_append_own_wide _ rfl _ _ 30 rfl (w.heap.size + 1) 24 i0 _ 2 24 Try.underlying30 gi gz0 gz1 gz2 rfl (by decide) _ _ _ rfl (hownd.mono ((Below.refl _ wr.drew).alloc (Nat.le_refl _) _)) ⟨wr.drew.heap.size, 0, none⟩ 1 1 [encStr x.n, .int .i64 x.d] rfl rfl ?c1 ?c2 ?c3 ?c4 ?c5 ?_)
              case c1 =>
                intro p' u hp
                match p', hp with
                | 0, hp => simp at hp; subst hp; simp [Addr.add, go_sem]
                | 1, hp => simp at hp; subst hp; simp [Addr.add, go_sem]
                | p' + 2, hp => simp at hp
              case c2 => intro u hu; simp at hu; rcases hu with rfl | rfl <;> rfl
              case c3 => unfold maxLen; rw [hnl]; omega
              case c4 => exact wide24 (by omega)
              case c5 => simp; omega
              · intro v' w' hown' hgrow _
                have HO2 := Lib.hid (OwnKv.snoc hnl hown')
                have hB6 : Below (w.heap.size + 1) W2 w' := Below.grown (hBd.alloc (by simp; omega) (.cells #[encStr x.n, .int .i64 x.d] 24)) hgrow (by simp; omega) (fun j e => (hownd.lt j e).1)
                clear hown' hgrow hownd hBd
                go_wp2_with fail
                go_roundw
                case rel => exact ⟨p + 1, by omega, by go_num, by rw [HT.out]; exact HO2.out, hB6⟩
                case measure => simp [RowKit.intOf]; omega
            · go_wp2_with fail
              go_region
              go_wp2_with (at_builtin; refine wpList_append_own_wide _ rfl _ _ 30 rfl (w.heap.size + 1) 24 i0 _ 2 24 Try.underlying30 gi gz0 gz1 gz2 rfl (by decide) _ _ _ rfl (hownd.mono ((Below.refl _ wr.drew).alloc (Nat.le_refl _) _)) ⟨wr.drew.heap.size, 0, none⟩ 1 1 [encStr x.n, .int .i64 x.d] rfl rfl ?c1 ?c2 ?c3 ?c4 ?c5 ?_)
              case c1 =>
                intro p' u hp
                match p', hp with
                | 0, hp => simp at hp; subst hp; simp [Addr.add, go_sem]
                | 1, hp => simp at hp; subst hp; simp [Addr.add, go_sem]
                | p' + 2, hp => simp at hp
              case c2 => intro u hu; simp at hu; rcases hu with rfl | rfl <;> rfl
              case c3 => unfold maxLen; rw [hnl]; omega
              case c4 => exact wide24 (by omega)
              case c5 => simp; omega
              · intro v' w' hown' hgrow _
                have HO2 := Lib.hid (OwnKv.snoc hnl hown')
                have hB6 : Below (w.heap.size + 1) W2 w' := Below.grown (hBd.alloc (by simp; omega) (.cells #[encStr x.n, .int .i64 x.d] 24)) hgrow (by simp; omega) (fun j e => (hownd.lt j e).1)
                clear hown' hgrow hownd hBd
                go_wp2_with fail
                go_roundw
                case rel => exact ⟨p + 1, by omega, by go_num, by rw [HT.out]; exact HO2.out, hB6⟩
                case measure => simp [RowKit.intOf]; omega
        · have ik : ¬ ((i + p : Nat) : Int) < l.length := by omega
          have hpe : p = (l.drop i).length := by rw [List.length_drop]; omega
          rw [hpe, List.take_of_length_le (Nat.le_refl _), ← HR.out] at hown
          obtain ⟨A7, c7, e7, hrow7⟩ := hown.row
          subst e7
          clear hown hpe hr
          have HK := Lib.hid (And.intro hrow7 hBl)
          clear hrow7
          go_wp2_with fail
          go_ret
          exact ⟨⟨A7, ⟨c7, rfl⟩, HK.out.1⟩, HK.out.2⟩
end Go.Proofs.Ytkmpkhbahmehmaa
