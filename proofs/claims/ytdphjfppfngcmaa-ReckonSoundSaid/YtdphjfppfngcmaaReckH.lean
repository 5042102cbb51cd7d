/- What the document's own around of layer 4 returns. -/
import Derived.Test.YtdphjfppfngcmaaReckC
import Derived.Test.YtdphjfppfngcmaaAlloc
namespace Go.Proofs.Ytdphjfppfngcmaa
open Go.RowKit

theorem minL_self (x : Int) (r : List Int) : minL (x :: r) x = minL r x := by unfold minL; rw [List.foldl_cons, if_neg (by omega)]
theorem maxL_self (x : Int) (r : List Int) : maxL (x :: r) x = maxL r x := by unfold maxL; rw [List.foldl_cons, if_neg (by omega)]

def AroRel (l : List Int) (x : Int) (b3 b4 : Nat) (W : World) (v5 : Value) (wx : World) : Prop :=
  ∃ (k : Nat) (mn mx : Int), k ≤ l.length ∧ v5 = .int .i64 k ∧ mn = minL (l.take k) x ∧ mx = maxL (l.take k) x ∧ I128 mn ∧ I128 mx ∧
    wx.heap[b3]? = some (.cells #[.int .i64 (hiW mn), .int .u64 (loW mn)] 31) ∧ wx.heap[b4]? = some (.cells #[.int .i64 (hiW mx), .int .u64 (loW mx)] 31) ∧ Below W.heap.size W wx

def AroStart (x : Int) (W : World) (s3 s4 : Value) (wx : World) : Prop :=
  ∃ b3 b4 : Nat, s3 = .pointer (some ⟨b3, 0, none⟩) ∧ s4 = .pointer (some ⟨b4, 0, none⟩) ∧ b3 ≠ b4 ∧ W.heap.size ≤ b3 ∧ W.heap.size ≤ b4 ∧
    wx.heap[b3]? = some (.cells #[.int .i64 (hiW x), .int .u64 (loW x)] 31) ∧ wx.heap[b4]? = some (.cells #[.int .i64 (hiW x), .int .u64 (loW x)] 31) ∧ Below W.heap.size W wx

theorem AroRel.step {l : List Int} {x mn mx : Int} {k : Nat} (hk : k < l.length) (h1 : mn = minL (l.take k) x) (h2 : mx = maxL (l.take k) x) :
    minL (l.take (k + 1)) x = (if l[k] < mn then l[k] else mn) ∧ maxL (l.take (k + 1)) x = (if mx < l[k] then l[k] else mx) := by
  rw [take_snoc2 l k hk, minL_snoc, maxL_snoc, ← h1, ← h2]
  exact ⟨rfl, rfl⟩

set_option maxRecDepth 100000 in
set_option maxHeartbeats 4000000 in
theorem r4_around (l : List Int) (A : Option Addr) (c : Nat) (w : World) (hm : l.length ≤ 9223372036854775807) (hr : WRow w A l) (hall : ∀ x ∈ l, I128 x) :
    Calls Try.prog 30 #[.slice A l.length c] w fun e w' => e = .returned (.agg #[.bool (betS l).s, .int .i64 (betS l).lo, .int .i64 (betS l).hi]) ∧ Below w.heap.size w w' := by
  cases l with
  | nil =>
    have E : betS [] = ⟨false, 0, 0⟩ := rfl
    rw [E]
    go_enter Try.func30, Try.ntmps30
    go_wp2
    refine bodyPost_ret (by simp [results, Try.results30, go_sem, *] <;> rfl) rfl ⟨rfl, (by repeat (first | (with_reducible assumption) | (with_reducible exact Below.refl _ _) | (with_reducible refine Below.alloc ?_ (by first | omega | (simp; omega) | (simp; done) | (dsimp only; omega)) _) | (with_reducible refine Below.setCell ?_ (by first | omega | (simp; omega) | (simp; done) | (dsimp only; omega)) _) | (with_reducible refine Below.drew ?_) | (with_reducible refine Below.trans ?_ (Below.mono (by assumption) (by first | omega | (simp; omega) | (simp; done) | (dsimp only; omega))))))⟩
  | cons x r =>
    have E : betS (x :: r) = wrapS (minL (x :: r) x) (maxL (x :: r) x) := by rw [minL_self, maxL_self]; rfl
    rw [E]; clear E
    have hx : I128 x := hall x (by simp)
    obtain ⟨b0, o0, eA, e0, e1, hb0⟩ := hr.cell (k := 0) (by simp)
    simp only [Nat.zero_mul, Nat.add_zero, List.getElem_cons_zero] at e0 e1
    have hpos : 0 < (x :: r).length := by simp
    have HC : Hid (∀ p q w, I128 p → I128 q → Calls Try.prog 42 #[.agg #[.int .i64 (hiW p), .int .u64 (loW p)], .agg #[.int .i64 (hiW q), .int .u64 (loW q)]] w fun e w' => e = .returned (.int .i64 (cmpI p q)) ∧ Below w.heap.size w w') := Lib.hid (fun p q w hp hq => by
      have := r_cmp (hiW p) (loW p) (hiW q) (loW q) (I64_hi hp) (U64.lo _) (I64_hi hq) (U64.lo _) w
      rwa [wv_hilo, wv_hilo] at this)
    have HALL := Lib.hid hall
    clear hall
    generalize hl : x :: r = l at *
    clear hl r
    have k0 : ((l.length : Int) == 0) = false := by rw [beq_eq_false_iff_ne]; omega
    subst eA
    go_enter Try.func30, Try.ntmps30
    go_upto_region 1 with fail
    generalize hW : (w.alloc (.cells #[.bool false, .int .i64 0, .int .i64 0] 23)) = W
    have q0_0 : W.cell? ⟨w.heap.size, 0, none⟩ = some (.bool false) := by rw [← hW]; simp [go_sem]
    have q0_1 : W.cell? ⟨w.heap.size, 1, none⟩ = some (.int .i64 0) := by rw [← hW]; simp [go_sem]
    have q0_2 : W.cell? ⟨w.heap.size, 2, none⟩ = some (.int .i64 0) := by rw [← hW]; simp [go_sem]
    have f0 : ∀ o, W.frozen? ⟨w.heap.size, o, none⟩ = false := by intro o; rw [← hW]; simp [go_sem]
    have z0 : w.heap.size < W.heap.size := by rw [← hW]; first | (simp; done) | (simp; omega)
    have HW : Below w.heap.size w W := by rw [← hW]; exact (by repeat (first | (with_reducible assumption) | (with_reducible exact Below.refl _ _) | (with_reducible refine Below.alloc ?_ (by first | omega | (simp; omega) | (simp; done) | (dsimp only; omega)) _) | (with_reducible refine Below.setCell ?_ (by first | omega | (simp; omega) | (simp; done) | (dsimp only; omega)) _) | (with_reducible refine Below.drew ?_) | (with_reducible refine Below.trans ?_ (Below.mono (by assumption) (by first | omega | (simp; omega) | (simp; done) | (dsimp only; omega))))))
    clear hW
    have hne : b0 ≠ w.heap.size := by omega
    replace e0 := (HW.cell (p := ⟨b0, o0, none⟩) hb0).trans e0
    replace e1 := (HW.cell (p := ⟨b0, o0 + 1, none⟩) hb0).trans e1
    have zb0 : b0 < W.heap.size := Nat.lt_of_lt_of_le hb0 HW.size
    go_upto_region 3 with fail
    go_cut [3, 4] (fun s3 s4 wx => AroStart x W s3 s4 wx)
    case first =>
      go_region
      all_goals
        go_wp2_with fail
        go_meet
        refine ⟨_, _, rfl, rfl, by omega, by omega, by omega, ?_, ?_, (by repeat (first | (with_reducible assumption) | (with_reducible exact Below.refl _ _) | (with_reducible refine Below.alloc ?_ (by first | omega | (simp; omega) | (simp; done) | (dsimp only; omega)) _) | (with_reducible refine Below.setCell ?_ (by first | omega | (simp; omega) | (simp; done) | (dsimp only; omega)) _) | (with_reducible refine Below.drew ?_) | (with_reducible refine Below.trans ?_ (Below.mono (by assumption) (by first | omega | (simp; omega) | (simp; done) | (dsimp only; omega))))))⟩
        all_goals first
          | exact al2_0 _ _ _
          | exact al2_1 _ _ _
    case rest =>
      obtain ⟨b3, b4, rfl, rfl, hne34, w3, w4, p3, p4, hB⟩ := hcut
      have hne43 := Ne.symm hne34
      go_wp2
      go_loopw [5] (fun v5 wx => AroRel l x b3 b4 W v5 wx) (fun vi _ => l.length - (intOf vi).toNat)
      case atStart => exact ⟨0, x, x, Nat.zero_le _, rfl, rfl, rfl, hx, hx, p3, p4, hB⟩
      case round =>
        clear p3 p4 hB
        obtain ⟨k, mn, mx, hk, rfl, emn, emx, hmn, hmx, p3, p4, hB⟩ := hrel
        by_cases hlt : k < l.length
        · have hxk := HALL.out l[k] (List.getElem_mem hlt)
          obtain ⟨bb, oo, eA, y0, y1, hbb⟩ := hr.cell hlt
          obtain ⟨rfl, rfl⟩ : b0 = bb ∧ o0 = oo := by
            have := congrArg (fun a : Option Addr => a.map (fun x => (x.block, x.off))) eA
            simpa using this
          have HST := Lib.hid (AroRel.step hlt emn emx)
          generalize l[k] = xk at *
          clear eA emn emx
          have hBs := hB.size
          have hWs := HW.size
          have HBB := (HW.trans (hB.mono HW.size))
          replace y0 := (HBB.cell (p := ⟨b0, o0 + k * 2, none⟩) hbb).trans y0
          replace y1 := (HBB.cell (p := ⟨b0, o0 + k * 2 + 1, none⟩) hbb).trans y1
          have z3 := blk_lt p3
          have z4 := blk_lt p4
          have f3 := blk_free p3
          have t3_0 := blk_cell p3 0
          have t3_1 := blk_cell p3 1
          simp only [List.getElem?_toArray, List.getElem?_cons_zero, List.getElem?_cons_succ] at t3_0 t3_1
          have zb : b0 < wr.heap.size := by omega
          have H1 := Lib.hid (fun w => HC.out xk mn w hxk hmn)
          clear HBB
          go_wp2
          refine region_seq (S := fun w' => Below wr.heap.size wr w') rfl (by kernel_rfl) (by kernel_rfl) (by repeat (first | (with_reducible assumption) | (with_reducible exact Below.refl _ _) | (with_reducible refine Below.alloc ?_ (by first | omega | (simp; omega) | (simp; done) | (dsimp only; omega)) _) | (with_reducible refine Below.setCell ?_ (by first | omega | (simp; omega) | (simp; done) | (dsimp only; omega)) _) | (with_reducible refine Below.drew ?_) | (with_reducible refine Below.trans ?_ (Below.mono (by assumption) (by first | omega | (simp; omega) | (simp; done) | (dsimp only; omega)))))) (fun fin hfin => ?_)
          iterate 7
            first
              | (refine SeqL.yes (v := ?_) (A' := ?_) rfl (by rfl) ?_ ?_ ?_
                 rotate_left 2
                 · intro w' K hS hK
                   obtain ⟨hc, hf⟩ := bcell hS
                   have hz := hS.size
                   go_simp
                   first
                     | exact hK.out _ hS
                     | (go_at_call 42; (with_reducible refine (H1.out _).mono ?_); rintro e w1 ⟨rfl, hb1⟩; exact hK.out _ (hS.trans (hb1.mono hz)))
                     | trace_state
                 · simp only [Act.put, List.setIfInBounds_toArray, List.set_cons_zero, List.set_cons_succ]; exact rfl)
              | (refine SeqL.no (A' := ?_) rfl (by rfl) ?_ ?_
                 rotate_left
                 · simp only [Act.put, List.setIfInBounds_toArray, List.set_cons_zero, List.set_cons_succ]; exact rfl)
          refine SeqL.nil (hfin.out _ ?_)
          clear hfin fin
          intro w1 hS1
          obtain ⟨hc1, hf1⟩ := bcell hS1
          have hz1 := hS1.size
          by_cases c1 : xk < mn
          · have ec : cmpI xk mn = -1 := by unfold cmpI; rw [if_neg (by omega), if_pos (by omega)]
            rw [ec]
            go_wp2
            generalize hX : (w1.setCell ⟨b3, 0, none⟩ (.int .i64 (hiW xk))).setCell ⟨b3, 1, none⟩ (.int .u64 (loW xk)) = X
            have HX : Below W.heap.size wr X := by rw [← hX]; exact (by repeat (first | (with_reducible assumption) | (with_reducible exact Below.refl _ _) | (with_reducible refine Below.alloc ?_ (by first | omega | (simp; omega) | (simp; done) | (dsimp only; omega)) _) | (with_reducible refine Below.setCell ?_ (by first | omega | (simp; omega) | (simp; done) | (dsimp only; omega)) _) | (with_reducible refine Below.drew ?_) | (with_reducible refine Below.trans ?_ (Below.mono (by assumption) (by first | omega | (simp; omega) | (simp; done) | (dsimp only; omega))))))
            have p3' : X.heap[b3]? = some (.cells #[.int .i64 (hiW xk), .int .u64 (loW xk)] 31) := by
              rw [← hX]; refine blk_set2 (c0 := .int .i64 (hiW mn)) (c1 := .int .u64 (loW mn)) ?_; rw [hS1.block _ z3]; exact p3
            have p4' : X.heap[b4]? = some (.cells #[.int .i64 (hiW mx), .int .u64 (loW mx)] 31) := by
              rw [← hX]
              iterate 2 (refine (Below.heap_setCell _ _ _ _ (by dsimp only; omega)).trans ?_)
              rw [hS1.block _ z4]; exact p4
            clear hX
            replace p3 := p3'
            replace p4 := p4'
            clear p3' p4' hS1 hc1 hf1 hz1 t3_0 t3_1 f3
            replace y0 := (HX.cell (p := ⟨b0, o0 + k * 2, none⟩) zb0).trans y0
            replace y1 := (HX.cell (p := ⟨b0, o0 + k * 2 + 1, none⟩) zb0).trans y1
            have hXs := HX.size
            have zX3 := blk_lt p3
            have zX4 := blk_lt p4
            have fX4 := blk_free p4
            have t4_0 := blk_cell p4 0
            have t4_1 := blk_cell p4 1
            simp only [List.getElem?_toArray, List.getElem?_cons_zero, List.getElem?_cons_succ] at t4_0 t4_1
            have xz : b0 < X.heap.size := by omega
            have H2 := Lib.hid (fun w => HC.out xk mx w hxk hmx)
            refine region_seq (S := fun w' => Below X.heap.size X w') rfl (by kernel_rfl) (by kernel_rfl) (by repeat (first | (with_reducible assumption) | (with_reducible exact Below.refl _ _) | (with_reducible refine Below.alloc ?_ (by first | omega | (simp; omega) | (simp; done) | (dsimp only; omega)) _) | (with_reducible refine Below.setCell ?_ (by first | omega | (simp; omega) | (simp; done) | (dsimp only; omega)) _) | (with_reducible refine Below.drew ?_) | (with_reducible refine Below.trans ?_ (Below.mono (by assumption) (by first | omega | (simp; omega) | (simp; done) | (dsimp only; omega)))))) (fun fin hfin => ?_)
            iterate 7
              first
                | (refine SeqL.yes (v := ?_) (A' := ?_) rfl (by rfl) ?_ ?_ ?_
                   rotate_left 2
                   · intro w' K hS hK
                     obtain ⟨hc, hf⟩ := bcell hS
                     have hz := hS.size
                     go_simp
                     first
                       | exact hK.out _ hS
                       | (go_at_call 42; (with_reducible refine (H2.out _).mono ?_); rintro e w1 ⟨rfl, hb1⟩; exact hK.out _ (hS.trans (hb1.mono hz)))
                       | trace_state
                   · simp only [Act.put, List.setIfInBounds_toArray, List.set_cons_zero, List.set_cons_succ]; exact rfl)
                | (refine SeqL.no (A' := ?_) rfl (by rfl) ?_ ?_
                   rotate_left
                   · simp only [Act.put, List.setIfInBounds_toArray, List.set_cons_zero, List.set_cons_succ]; exact rfl)
            refine SeqL.nil (hfin.out _ ?_)
            clear hfin fin
            intro w1 hS1
            obtain ⟨hc1, hf1⟩ := bcell hS1
            have hz1 := hS1.size
            by_cases c2 : mx < xk
            · have ec : cmpI xk mx = 1 := by unfold cmpI; rw [if_neg (by omega), if_neg (by omega)]
              rw [ec]
              go_wp2
              have r3 : ((w1.setCell ⟨b4, 0, none⟩ (.int .i64 (hiW xk))).setCell ⟨b4, 1, none⟩ (.int .u64 (loW xk))).heap[b3]? = some (.cells #[.int .i64 (hiW xk), .int .u64 (loW xk)] 31) := by
                iterate 2 (refine (Below.heap_setCell _ _ _ _ (by dsimp only; omega)).trans ?_)
                rw [hS1.block _ (blk_lt p3)]; exact p3
              have r4 : ((w1.setCell ⟨b4, 0, none⟩ (.int .i64 (hiW xk))).setCell ⟨b4, 1, none⟩ (.int .u64 (loW xk))).heap[b4]? = some (.cells #[.int .i64 (hiW xk), .int .u64 (loW xk)] 31) := by
                refine blk_set2 (c0 := .int .i64 (hiW mx)) (c1 := .int .u64 (loW mx)) ?_
                rw [hS1.block _ (blk_lt p4)]; exact p4
              go_roundw
              case rel => exact ⟨k + 1, xk, xk, by omega, by go_num, by rw [HST.out.1]; exact (if_pos c1).symm, by rw [HST.out.2]; exact (if_pos c2).symm, hxk, hxk, r3, r4, (by repeat (first | (with_reducible assumption) | (with_reducible exact Below.refl _ _) | (with_reducible refine Below.alloc ?_ (by first | omega | (simp; omega) | (simp; done) | (dsimp only; omega)) _) | (with_reducible refine Below.setCell ?_ (by first | omega | (simp; omega) | (simp; done) | (dsimp only; omega)) _) | (with_reducible refine Below.drew ?_) | (with_reducible refine Below.trans ?_ (Below.mono (by assumption) (by first | omega | (simp; omega) | (simp; done) | (dsimp only; omega))))))⟩
              case measure => simp [intOf]; omega
            · have ec : ¬ 0 < cmpI xk mx := by unfold cmpI; split <;> (try split) <;> omega
              generalize cmpI xk mx = cm at *
              go_wp2
              have r3 : w1.heap[b3]? = some (.cells #[.int .i64 (hiW xk), .int .u64 (loW xk)] 31) := by rw [hS1.block _ (blk_lt p3)]; exact p3
              have r4 : w1.heap[b4]? = some (.cells #[.int .i64 (hiW mx), .int .u64 (loW mx)] 31) := by rw [hS1.block _ (blk_lt p4)]; exact p4
              go_roundw
              case rel => exact ⟨k + 1, xk, mx, by omega, by go_num, by rw [HST.out.1]; exact (if_pos c1).symm, by rw [HST.out.2]; exact (if_neg (by omega)).symm, hxk, hmx, r3, r4, (by repeat (first | (with_reducible assumption) | (with_reducible exact Below.refl _ _) | (with_reducible refine Below.alloc ?_ (by first | omega | (simp; omega) | (simp; done) | (dsimp only; omega)) _) | (with_reducible refine Below.setCell ?_ (by first | omega | (simp; omega) | (simp; done) | (dsimp only; omega)) _) | (with_reducible refine Below.drew ?_) | (with_reducible refine Below.trans ?_ (Below.mono (by assumption) (by first | omega | (simp; omega) | (simp; done) | (dsimp only; omega))))))⟩
              case measure => simp [intOf]; omega
          · have ec : ¬ cmpI xk mn < 0 := by unfold cmpI; split <;> (try split) <;> omega
            generalize cmpI xk mn = cm0 at *
            go_wp2
            obtain ⟨X, rfl⟩ : ∃ X : World, X = w1 := ⟨_, rfl⟩
            have HX : Below W.heap.size wr X := hS1.mono hBs
            have p3' : X.heap[b3]? = some (.cells #[.int .i64 (hiW mn), .int .u64 (loW mn)] 31) := by rw [hS1.block _ z3]; exact p3
            have p4' : X.heap[b4]? = some (.cells #[.int .i64 (hiW mx), .int .u64 (loW mx)] 31) := by rw [hS1.block _ z4]; exact p4
            replace p3 := p3'
            replace p4 := p4'
            clear p3' p4' hS1 hc1 hf1 hz1 t3_0 t3_1 f3
            replace y0 := (HX.cell (p := ⟨b0, o0 + k * 2, none⟩) zb0).trans y0
            replace y1 := (HX.cell (p := ⟨b0, o0 + k * 2 + 1, none⟩) zb0).trans y1
            have hXs := HX.size
            have zX3 := blk_lt p3
            have zX4 := blk_lt p4
            have fX4 := blk_free p4
            have t4_0 := blk_cell p4 0
            have t4_1 := blk_cell p4 1
            simp only [List.getElem?_toArray, List.getElem?_cons_zero, List.getElem?_cons_succ] at t4_0 t4_1
            have xz : b0 < X.heap.size := by omega
            have H2 := Lib.hid (fun w => HC.out xk mx w hxk hmx)
            refine region_seq (S := fun w' => Below X.heap.size X w') rfl (by kernel_rfl) (by kernel_rfl) (by repeat (first | (with_reducible assumption) | (with_reducible exact Below.refl _ _) | (with_reducible refine Below.alloc ?_ (by first | omega | (simp; omega) | (simp; done) | (dsimp only; omega)) _) | (with_reducible refine Below.setCell ?_ (by first | omega | (simp; omega) | (simp; done) | (dsimp only; omega)) _) | (with_reducible refine Below.drew ?_) | (with_reducible refine Below.trans ?_ (Below.mono (by assumption) (by first | omega | (simp; omega) | (simp; done) | (dsimp only; omega)))))) (fun fin hfin => ?_)
            iterate 7
              first
                | (refine SeqL.yes (v := ?_) (A' := ?_) rfl (by rfl) ?_ ?_ ?_
                   rotate_left 2
                   · intro w' K hS hK
                     obtain ⟨hc, hf⟩ := bcell hS
                     have hz := hS.size
                     go_simp
                     first
                       | exact hK.out _ hS
                       | (go_at_call 42; (with_reducible refine (H2.out _).mono ?_); rintro e w1 ⟨rfl, hb1⟩; exact hK.out _ (hS.trans (hb1.mono hz)))
                       | trace_state
                   · simp only [Act.put, List.setIfInBounds_toArray, List.set_cons_zero, List.set_cons_succ]; exact rfl)
                | (refine SeqL.no (A' := ?_) rfl (by rfl) ?_ ?_
                   rotate_left
                   · simp only [Act.put, List.setIfInBounds_toArray, List.set_cons_zero, List.set_cons_succ]; exact rfl)
            refine SeqL.nil (hfin.out _ ?_)
            clear hfin fin
            intro w1 hS1
            obtain ⟨hc1, hf1⟩ := bcell hS1
            have hz1 := hS1.size
            by_cases c2 : mx < xk
            · have ec : cmpI xk mx = 1 := by unfold cmpI; rw [if_neg (by omega), if_neg (by omega)]
              rw [ec]
              go_wp2
              have r3 : ((w1.setCell ⟨b4, 0, none⟩ (.int .i64 (hiW xk))).setCell ⟨b4, 1, none⟩ (.int .u64 (loW xk))).heap[b3]? = some (.cells #[.int .i64 (hiW mn), .int .u64 (loW mn)] 31) := by
                iterate 2 (refine (Below.heap_setCell _ _ _ _ (by dsimp only; omega)).trans ?_)
                rw [hS1.block _ (blk_lt p3)]; exact p3
              have r4 : ((w1.setCell ⟨b4, 0, none⟩ (.int .i64 (hiW xk))).setCell ⟨b4, 1, none⟩ (.int .u64 (loW xk))).heap[b4]? = some (.cells #[.int .i64 (hiW xk), .int .u64 (loW xk)] 31) := by
                refine blk_set2 (c0 := .int .i64 (hiW mx)) (c1 := .int .u64 (loW mx)) ?_
                rw [hS1.block _ (blk_lt p4)]; exact p4
              go_roundw
              case rel => exact ⟨k + 1, mn, xk, by omega, by go_num, by rw [HST.out.1]; exact (if_neg (by omega)).symm, by rw [HST.out.2]; exact (if_pos c2).symm, hmn, hxk, r3, r4, (by repeat (first | (with_reducible assumption) | (with_reducible exact Below.refl _ _) | (with_reducible refine Below.alloc ?_ (by first | omega | (simp; omega) | (simp; done) | (dsimp only; omega)) _) | (with_reducible refine Below.setCell ?_ (by first | omega | (simp; omega) | (simp; done) | (dsimp only; omega)) _) | (with_reducible refine Below.drew ?_) | (with_reducible refine Below.trans ?_ (Below.mono (by assumption) (by first | omega | (simp; omega) | (simp; done) | (dsimp only; omega))))))⟩
              case measure => simp [intOf]; omega
            · have ec : ¬ 0 < cmpI xk mx := by unfold cmpI; split <;> (try split) <;> omega
              generalize cmpI xk mx = cm at *
              go_wp2
              have r3 : w1.heap[b3]? = some (.cells #[.int .i64 (hiW mn), .int .u64 (loW mn)] 31) := by rw [hS1.block _ (blk_lt p3)]; exact p3
              have r4 : w1.heap[b4]? = some (.cells #[.int .i64 (hiW mx), .int .u64 (loW mx)] 31) := by rw [hS1.block _ (blk_lt p4)]; exact p4
              go_roundw
              case rel => exact ⟨k + 1, mn, mx, by omega, by go_num, by rw [HST.out.1]; exact (if_neg (by omega)).symm, by rw [HST.out.2]; exact (if_neg (by omega)).symm, hmn, hmx, r3, r4, (by repeat (first | (with_reducible assumption) | (with_reducible exact Below.refl _ _) | (with_reducible refine Below.alloc ?_ (by first | omega | (simp; omega) | (simp; done) | (dsimp only; omega)) _) | (with_reducible refine Below.setCell ?_ (by first | omega | (simp; omega) | (simp; done) | (dsimp only; omega)) _) | (with_reducible refine Below.drew ?_) | (with_reducible refine Below.trans ?_ (Below.mono (by assumption) (by first | omega | (simp; omega) | (simp; done) | (dsimp only; omega))))))⟩
              case measure => simp [intOf]; omega
        · obtain rfl : k = l.length := by omega
          rw [List.take_length] at emn emx
          have HR := Lib.hid (r4_wrap mn mx hmn hmx)
          have EMN := Lib.hid emn
          have EMX := Lib.hid emx
          have z3 := blk_lt p3
          have z4 := blk_lt p4
          have t3_0 := blk_cell p3 0
          have t3_1 := blk_cell p3 1
          have t4_0 := blk_cell p4 0
          have t4_1 := blk_cell p4 1
          simp only [List.getElem?_toArray, List.getElem?_cons_zero, List.getElem?_cons_succ] at t3_0 t3_1 t4_0 t4_1
          have f0' : ∀ o, wr.frozen? ⟨w.heap.size, o, none⟩ = false := fun o => (hB.frozen (p := ⟨w.heap.size, o, none⟩) z0).trans (f0 o)
          have HW2 := HW.trans (hB.mono HW.size)
          replace q0_0 := (hB.cell (p := ⟨w.heap.size, 0, none⟩) z0).trans q0_0
          replace q0_1 := (hB.cell (p := ⟨w.heap.size, 1, none⟩) z0).trans q0_1
          replace q0_2 := (hB.cell (p := ⟨w.heap.size, 2, none⟩) z0).trans q0_2
          replace z0 := Nat.lt_of_lt_of_le z0 hB.size
          clear hB HW f0 emn emx p3 p4 e0 e1
          go_wp2_with (go_at_call 15; (with_reducible refine (HR.out _).mono ?_); rintro e w1 ⟨rfl, hb1⟩; obtain ⟨hc1, hf1⟩ := bcell hb1; have hz1 := hb1.size; (try simp at hz1); (try have hy1 := Nat.lt_of_succ_le hz1); (try have hv1 := Nat.lt_of_succ_lt hy1); (try have hw10 : w.heap.size < w1.heap.size := by omega); (try have hw11 : w.heap.size + 1 < w1.heap.size := by omega); (try have hw12 : w.heap.size + 1 + 1 < w1.heap.size := by omega); (try have hw13 : w.heap.size + 1 + 1 + 1 < w1.heap.size := by omega))
          refine bodyPost_ret (by simp [results, Try.results30, go_sem, *] <;> rfl) rfl ⟨by rw [EMN.out, EMX.out], (by repeat (first | (with_reducible assumption) | (with_reducible exact Below.refl _ _) | (with_reducible refine Below.alloc ?_ (by first | omega | (simp; omega) | (simp; done) | (dsimp only; omega)) _) | (with_reducible refine Below.setCell ?_ (by first | omega | (simp; omega) | (simp; done) | (dsimp only; omega)) _) | (with_reducible refine Below.drew ?_) | (with_reducible refine Below.trans ?_ (Below.mono (by assumption) (by first | omega | (simp; omega) | (simp; done) | (dsimp only; omega))))))⟩
end Go.Proofs.Ytdphjfppfngcmaa
