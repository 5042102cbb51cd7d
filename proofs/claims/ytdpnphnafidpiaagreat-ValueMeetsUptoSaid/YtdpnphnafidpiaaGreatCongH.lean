/- X-PARTIAL What the document's own Has and Leq of congruences return: layer 5. -/
import Derived.Test.YtdpnphnafidpiaaGreatCongD
namespace Go.Proofs.YtdpnphnafidpiaaGreat
open Go.RowKit

def Cg.hasC (c : Cg) (n : Int) : Bool := c.s && (if c.m = 0 then n == c.r else modI n c.m == c.r)

def Cg.has (c : Cg) (n : Int) : Bool := Cg.hasC c.clean n

def Cg.leqC (x y : Cg) : Bool := !x.s || (y.s && (if y.m = 0 then x.m == 0 && x.r == y.r else (x.m.tmod y.m == 0) && y.has x.r))

def Cg.leq (a b : Cg) : Bool := Cg.leqC a.clean b.clean

set_option maxRecDepth 100000 in
set_option maxHeartbeats 1000000 in
theorem r5_has (c : Cg) (n : Int) (hc : c.ok) (w : World) :
    Calls Tryz.prog 46 #[.agg #[.bool c.s, .int .i64 c.m, .int .i64 c.r], .int .i64 n] w fun e w' => e = .returned (.bool (c.has n)) ∧ Below w.heap.size w w' := by
  have HC := Lib.hid (r5_clean c hc.1)
  have oc := Cg.clean_ok hc
  have e : c.has n = Cg.hasC c.clean n := rfl
  rw [e]; clear e
  generalize c.clean = x at *
  cases hs : x.s
  · have E : Cg.hasC x n = false := by unfold Cg.hasC; rw [hs]; rfl
    rw [E]; rw [hs] at HC; clear E
    go_enter Tryz.func46, Tryz.ntmps46
    go_wp2_with (go_at_call 18; (with_reducible refine (HC.out _).mono ?_); rintro e w1 ⟨rfl, hb1⟩; obtain ⟨hc1, hf1⟩ := bcell hb1; have hz1 := hb1.size; (try simp at hz1); (try have hy1 := Nat.lt_of_succ_le hz1); (try have hv1 := Nat.lt_of_succ_lt hy1); (try have hw10 : w.heap.size < w1.heap.size := by omega); (try have hw11 : w.heap.size + 1 < w1.heap.size := by omega); (try have hw12 : w.heap.size + 1 + 1 < w1.heap.size := by omega); (try have hw13 : w.heap.size + 1 + 1 + 1 < w1.heap.size := by omega))
    go_ret
    exact ⟨rfl, (by repeat (first | (with_reducible assumption) | (with_reducible exact Below.refl _ _) | (with_reducible refine Below.alloc ?_ (by first | omega | (simp; omega) | (simp; done) | (dsimp only; omega)) _) | (with_reducible refine Below.setCell ?_ (by first | omega | (simp; omega) | (simp; done) | (dsimp only; omega)) _) | (with_reducible refine Below.drew ?_) | (with_reducible refine Below.trans ?_ (Below.mono (by assumption) (by first | omega | (simp; omega) | (simp; done) | (dsimp only; omega))))))⟩
  · rw [hs] at HC
    by_cases h0 : x.m = 0
    · have E : Cg.hasC x n = (n == x.r) := by unfold Cg.hasC; rw [hs, if_pos h0]; rfl
      rw [E]; clear E
      rw [h0] at HC
      cases hn : n == x.r
      all_goals
        go_enter Tryz.func46, Tryz.ntmps46
        go_wp2_with (go_at_call 18; (with_reducible refine (HC.out _).mono ?_); rintro e w1 ⟨rfl, hb1⟩; obtain ⟨hc1, hf1⟩ := bcell hb1; have hz1 := hb1.size; (try simp at hz1); (try have hy1 := Nat.lt_of_succ_le hz1); (try have hv1 := Nat.lt_of_succ_lt hy1); (try have hw10 : w.heap.size < w1.heap.size := by omega); (try have hw11 : w.heap.size + 1 < w1.heap.size := by omega); (try have hw12 : w.heap.size + 1 + 1 < w1.heap.size := by omega); (try have hw13 : w.heap.size + 1 + 1 + 1 < w1.heap.size := by omega))
        go_ret
        exact ⟨ret_bool (by simp), (by repeat (first | (with_reducible assumption) | (with_reducible exact Below.refl _ _) | (with_reducible refine Below.alloc ?_ (by first | omega | (simp; omega) | (simp; done) | (dsimp only; omega)) _) | (with_reducible refine Below.setCell ?_ (by first | omega | (simp; omega) | (simp; done) | (dsimp only; omega)) _) | (with_reducible refine Below.drew ?_) | (with_reducible refine Below.trans ?_ (Below.mono (by assumption) (by first | omega | (simp; omega) | (simp; done) | (dsimp only; omega))))))⟩
    · have E : Cg.hasC x n = (modI n x.m == x.r) := by unfold Cg.hasC; rw [hs, if_neg h0]; rfl
      rw [E]; clear E
      have k0 : (x.m == 0) = false := by simpa using h0
      have HM := Lib.hid (r5_rest n x.m oc.1.1 (by have := oc.2; omega))
      generalize modI n x.m = t at *
      go_enter Tryz.func46, Tryz.ntmps46
      have hh0 := al_new w (.cells #[.bool c.s, .int .i64 c.m, .int .i64 c.r] 25) rfl
      have zh : w.heap.size < (w.alloc (.cells #[.bool c.s, .int .i64 c.m, .int .i64 c.r] 25)).heap.size := by rw [al_size]; omega
      go_wp2_with (go_at_call 18; (with_reducible refine (HC.out _).mono ?_); rintro e w1 ⟨rfl, hb1⟩; obtain ⟨hc1, hf1⟩ := bcell hb1; have hz1 := hb1.size; (try simp at hz1); (try have hy1 := Nat.lt_of_succ_le hz1); (try have hv1 := Nat.lt_of_succ_lt hy1); (try have hw10 : w.heap.size < w1.heap.size := by omega); (try have hw11 : w.heap.size + 1 < w1.heap.size := by omega); (try have hw12 : w.heap.size + 1 + 1 < w1.heap.size := by omega); (try have hw13 : w.heap.size + 1 + 1 + 1 < w1.heap.size := by omega))
      have p0 : ((w1.setCell ⟨w.heap.size, 0, none⟩ (.bool true)).setCell ⟨w.heap.size, 1, none⟩ (.int .i64 x.m) |>.setCell ⟨w.heap.size, 2, none⟩ (.int .i64 x.r)).heap[w.heap.size]? = some (.cells #[.bool true, .int .i64 x.m, .int .i64 x.r] 25) := by
        refine blk_set3 (c0 := .bool c.s) (c1 := .int .i64 c.m) (c2 := .int .i64 c.r) ?_
        rw [hb1.block _ zh]; exact hh0
      have HX : Below w.heap.size w ((w1.setCell ⟨w.heap.size, 0, none⟩ (.bool true)).setCell ⟨w.heap.size, 1, none⟩ (.int .i64 x.m) |>.setCell ⟨w.heap.size, 2, none⟩ (.int .i64 x.r)) := (by repeat (first | (with_reducible assumption) | (with_reducible exact Below.refl _ _) | (with_reducible refine Below.alloc ?_ (by first | omega | (simp; omega) | (simp; done) | (dsimp only; omega)) _) | (with_reducible refine Below.setCell ?_ (by first | omega | (simp; omega) | (simp; done) | (dsimp only; omega)) _) | (with_reducible refine Below.drew ?_) | (with_reducible refine Below.trans ?_ (Below.mono (by assumption) (by first | omega | (simp; omega) | (simp; done) | (dsimp only; omega))))))
      generalize ((w1.setCell ⟨w.heap.size, 0, none⟩ (.bool true)).setCell ⟨w.heap.size, 1, none⟩ (.int .i64 x.m) |>.setCell ⟨w.heap.size, 2, none⟩ (.int .i64 x.r)) = X at *
      have q0_0 := blk_cell p0 0
      have q0_1 := blk_cell p0 1
      have q0_2 := blk_cell p0 2
      simp only [List.getElem?_toArray, List.getElem?_cons_zero, List.getElem?_cons_succ] at q0_0 q0_1 q0_2
      have z0 := blk_lt p0
      have f0 := blk_free p0
      clear p0 hh0 zh hb1 hc1 hf1 HC
      refine region_seq (S := fun w' => Below X.heap.size X w') rfl (by kernel_rfl) (by kernel_rfl) (by repeat (first | (with_reducible assumption) | (with_reducible exact Below.refl _ _) | (with_reducible refine Below.alloc ?_ (by first | omega | (simp; omega) | (simp; done) | (dsimp only; omega)) _) | (with_reducible refine Below.setCell ?_ (by first | omega | (simp; omega) | (simp; done) | (dsimp only; omega)) _) | (with_reducible refine Below.drew ?_) | (with_reducible refine Below.trans ?_ (Below.mono (by assumption) (by first | omega | (simp; omega) | (simp; done) | (dsimp only; omega)))))) (fun fin hfin => ?_)
      iterate 8
        first
          | (refine SeqL.yes (v := ?_) (A' := ?_) rfl (by rfl) ?_ ?_ ?_
             rotate_left 2
             · intro w' K hS hK
               obtain ⟨hc, hf⟩ := bcell hS
               have hz := hS.size
               go_simp
               first
                 | exact hK.out _ hS
                 | (go_at_call 53; (with_reducible refine (HM.out _).mono ?_); rintro e w1 ⟨rfl, rfl⟩; exact hK.out _ hS)
                 | trace_state
             · simp only [Act.put, List.setIfInBounds_toArray, List.set_cons_zero, List.set_cons_succ]; exact rfl)
          | (refine SeqL.no (A' := ?_) rfl (by rfl) ?_ ?_
             rotate_left
             · simp only [Act.put, List.setIfInBounds_toArray, List.set_cons_zero, List.set_cons_succ]; exact rfl)
      refine SeqL.nil (hfin.out _ ?_)
      clear hfin fin
      intro w1 hS1
      go_wp2
      go_ret
      exact ⟨rfl, (by repeat (first | (with_reducible assumption) | (with_reducible exact Below.refl _ _) | (with_reducible refine Below.alloc ?_ (by first | omega | (simp; omega) | (simp; done) | (dsimp only; omega)) _) | (with_reducible refine Below.setCell ?_ (by first | omega | (simp; omega) | (simp; done) | (dsimp only; omega)) _) | (with_reducible refine Below.drew ?_) | (with_reducible refine Below.trans ?_ (Below.mono (by assumption) (by first | omega | (simp; omega) | (simp; done) | (dsimp only; omega))))))⟩

set_option maxRecDepth 100000 in
set_option maxHeartbeats 2000000 in
theorem r5_leq (a b : Cg) (ha : a.ok) (hb : b.ok) (w : World) :
    Calls Tryz.prog 79 #[.agg #[.bool a.s, .int .i64 a.m, .int .i64 a.r], .agg #[.bool b.s, .int .i64 b.m, .int .i64 b.r]] w fun e w' => e = .returned (.bool (a.leq b)) ∧ Below w.heap.size w w' := by
  have HA := Lib.hid (r5_clean a ha.1)
  have HB := Lib.hid (r5_clean b hb.1)
  have oa := Cg.clean_ok ha
  have ob := Cg.clean_ok hb
  have e : a.leq b = Cg.leqC a.clean b.clean := rfl
  rw [e]; clear e
  generalize a.clean = x at *
  generalize b.clean = y at *
  have e1 : x.s = false → Cg.leqC x y = true := fun h => by unfold Cg.leqC; rw [h]; rfl
  have e2 : x.s = true → y.s = false → Cg.leqC x y = false := fun h h' => by unfold Cg.leqC; rw [h, h']; rfl
  have e3 : x.s = true → y.s = true → Cg.leqC x y = if y.m = 0 then x.m == 0 && x.r == y.r else (x.m.tmod y.m == 0) && y.has x.r := fun h h' => by unfold Cg.leqC; rw [h, h']; rfl
  go_enter Tryz.func79, Tryz.ntmps79
  go_upto_region 1 with fail
  have hh0 := al2_0 w (.cells #[.bool a.s, .int .i64 a.m, .int .i64 a.r] 25) (.cells #[.bool b.s, .int .i64 b.m, .int .i64 b.r] 25)
  have hh1 := al2_1 w (.cells #[.bool a.s, .int .i64 a.m, .int .i64 a.r] 25) (.cells #[.bool b.s, .int .i64 b.m, .int .i64 b.r] 25)
  generalize hW : (w.alloc (.cells #[.bool a.s, .int .i64 a.m, .int .i64 a.r] 25)).alloc (.cells #[.bool b.s, .int .i64 b.m, .int .i64 b.r] 25) = W at *
  have HW : Below w.heap.size w W := by rw [← hW]; exact (by repeat (first | (with_reducible assumption) | (with_reducible exact Below.refl _ _) | (with_reducible refine Below.alloc ?_ (by first | omega | (simp; omega) | (simp; done) | (dsimp only; omega)) _) | (with_reducible refine Below.setCell ?_ (by first | omega | (simp; omega) | (simp; done) | (dsimp only; omega)) _) | (with_reducible refine Below.drew ?_) | (with_reducible refine Below.trans ?_ (Below.mono (by assumption) (by first | omega | (simp; omega) | (simp; done) | (dsimp only; omega))))))
  clear hW
  have q0_0 := blk_cell hh0 0
  have q0_1 := blk_cell hh0 1
  have q0_2 := blk_cell hh0 2
  have q1_0 := blk_cell hh1 0
  have q1_1 := blk_cell hh1 1
  have q1_2 := blk_cell hh1 2
  simp only [List.getElem?_toArray, List.getElem?_cons_zero, List.getElem?_cons_succ] at q0_0 q0_1 q0_2 q1_0 q1_1 q1_2
  have z0 := blk_lt hh0
  have z1 := blk_lt hh1
  have f0 := blk_free hh0
  have f1 := blk_free hh1
  have K0 := Lib.hid hh0; have K1 := Lib.hid hh1; clear hh0 hh1
  refine region_seqg (W := W) [_, _, _, _] [_, _] rfl (by kernel_rfl) (by kernel_rfl) (by repeat (first | (with_reducible assumption) | (with_reducible exact Below.refl _ _) | (with_reducible refine Below.alloc ?_ (by first | omega | (simp; omega) | (simp; done) | (dsimp only; omega)) _) | (with_reducible refine Below.setCell ?_ (by first | omega | (simp; omega) | (simp; done) | (dsimp only; omega)) _) | (with_reducible refine Below.drew ?_) | (with_reducible refine Below.trans ?_ (Below.mono (by assumption) (by first | omega | (simp; omega) | (simp; done) | (dsimp only; omega)))))) (fun fin hfin => ?_)
  iterate 4
    first
      | (refine SeqG.yes (v := ?_) (A' := ?_) rfl (fun γ => by rfl) ?_ ?_ ?_
         rotate_left 2
         · intro γ w' K hS hK
           obtain ⟨hc, hf⟩ := bcell hS
           have hz := hS.size
           go_simp
           first
             | exact hK.out _ (Below.refl _ _)
             | (go_at_call 18; (with_reducible refine (HA.out _).mono ?_); rintro e w1 ⟨rfl, hb1⟩; exact hK.out _ hb1)
             | (go_at_call 18; (with_reducible refine (HB.out _).mono ?_); rintro e w1 ⟨rfl, hb1⟩; exact hK.out _ hb1)
             | trace_state
         · intro γ; simp only [Act.put, List.setIfInBounds_toArray, List.set_cons_zero, List.set_cons_succ]; exact rfl)
      | (refine SeqG.no (A' := ?_) rfl (fun γ => by rfl) ?_ ?_
         rotate_left
         · intro γ; simp only [Act.put, List.setIfInBounds_toArray, List.set_cons_zero, List.set_cons_succ]; exact rfl)
  refine SeqG.nil (hfin.out _ _ ?_)
  clear hfin fin
  intro γ lo hi w1 hB1 hF hD
  clear hD
  obtain ⟨hc, hf⟩ := bcell hB1
  have hz := hB1.size
  refine TailL.cons (fun K hK => ?_)
  go_simp
  refine hK.out _ _ ?_
  clear hK K
  refine TailL.cons (fun K hK => ?_)
  go_simp
  refine hK.out _ _ ?_
  clear hK K
  refine TailL.nil ?_
  generalize hX : (((((w1.setCell ⟨w.heap.size, 0, none⟩ (.bool x.s)).setCell ⟨w.heap.size, 1, none⟩ (.int .i64 x.m)).setCell ⟨w.heap.size, 2, none⟩ (.int .i64 x.r)).setCell ⟨w.heap.size + 1, 0, none⟩ (.bool y.s)).setCell ⟨w.heap.size + 1, 1, none⟩ (.int .i64 y.m)).setCell ⟨w.heap.size + 1, 2, none⟩ (.int .i64 y.r) = X
  have HX : Below w.heap.size w X := by rw [← hX]; exact (by repeat (first | (with_reducible assumption) | (with_reducible exact Below.refl _ _) | (with_reducible refine Below.alloc ?_ (by first | omega | (simp; omega) | (simp; done) | (dsimp only; omega)) _) | (with_reducible refine Below.setCell ?_ (by first | omega | (simp; omega) | (simp; done) | (dsimp only; omega)) _) | (with_reducible refine Below.drew ?_) | (with_reducible refine Below.trans ?_ (Below.mono (by assumption) (by first | omega | (simp; omega) | (simp; done) | (dsimp only; omega))))))
  have p0 : X.heap[w.heap.size]? = some (.cells #[.bool x.s, .int .i64 x.m, .int .i64 x.r] 25) := by
    rw [← hX]
    iterate 3 (refine (Below.heap_setCell _ _ _ _ (by dsimp only; omega)).trans ?_)
    refine blk_set3 (c0 := .bool a.s) (c1 := .int .i64 a.m) (c2 := .int .i64 a.r) ?_
    rw [hB1.block _ z0]; exact K0.out
  have p1 : X.heap[w.heap.size + 1]? = some (.cells #[.bool y.s, .int .i64 y.m, .int .i64 y.r] 25) := by
    rw [← hX]
    refine blk_set3 (c0 := .bool b.s) (c1 := .int .i64 b.m) (c2 := .int .i64 b.r) ?_
    iterate 3 (refine (Below.heap_setCell _ _ _ _ (by dsimp only; omega)).trans ?_)
    rw [hB1.block _ z1]; exact K1.out
  clear hX hc hf hz K0 K1 q0_0 q0_1 q0_2 q1_0 q1_1 q1_2 z0 z1 f0 f1 hB1 HW
  have q0_0 := blk_cell p0 0
  have q0_1 := blk_cell p0 1
  have q0_2 := blk_cell p0 2
  have q1_0 := blk_cell p1 0
  have q1_1 := blk_cell p1 1
  have q1_2 := blk_cell p1 2
  simp only [List.getElem?_toArray, List.getElem?_cons_zero, List.getElem?_cons_succ] at q0_0 q0_1 q0_2 q1_0 q1_1 q1_2
  have z0 := blk_lt p0
  have z1 := blk_lt p1
  clear p0 p1
  have hdr : ∀ w : World, w.drew.heap.size = w.heap.size := fun _ => rfl
  cases hs : x.s
  · have E := Lib.hid (e1 hs); clear e1 e2 e3
    rw [hs] at q0_0
    go_wp2
    go_ret
    exact ⟨ret_bool (by rw [E.out]), (by repeat (first | (with_reducible assumption) | (with_reducible exact Below.refl _ _) | (with_reducible refine Below.alloc ?_ (by first | omega | (simp; omega) | (simp; done) | (dsimp only; omega)) _) | (with_reducible refine Below.setCell ?_ (by first | omega | (simp; omega) | (simp; done) | (dsimp only; omega)) _) | (with_reducible refine Below.drew ?_) | (with_reducible refine Below.trans ?_ (Below.mono (by assumption) (by first | omega | (simp; omega) | (simp; done) | (dsimp only; omega))))))⟩
  · cases hs' : y.s
    · have E := Lib.hid (e2 hs hs'); clear e1 e2 e3
      rw [hs] at q0_0
      rw [hs'] at q1_0
      go_wp2
      go_ret
      exact ⟨ret_bool (by rw [E.out]), (by repeat (first | (with_reducible assumption) | (with_reducible exact Below.refl _ _) | (with_reducible refine Below.alloc ?_ (by first | omega | (simp; omega) | (simp; done) | (dsimp only; omega)) _) | (with_reducible refine Below.setCell ?_ (by first | omega | (simp; omega) | (simp; done) | (dsimp only; omega)) _) | (with_reducible refine Below.drew ?_) | (with_reducible refine Below.trans ?_ (Below.mono (by assumption) (by first | omega | (simp; omega) | (simp; done) | (dsimp only; omega))))))⟩
    · have E := Lib.hid (e3 hs hs'); clear e1 e2 e3
      rw [hs] at q0_0
      rw [hs'] at q1_0
      by_cases h0 : y.m = 0
      · have k0 : (y.m == 0) = true := by simpa using h0
        have E' := E.out
        rw [if_pos h0] at E'
        replace E := Lib.hid E'
        clear E' h0
        cases h1 : (x.m == 0)
        · go_wp2
          go_ret
          exact ⟨ret_bool (by rw [E.out, h1]; rfl), (by repeat (first | (with_reducible assumption) | (with_reducible exact Below.refl _ _) | (with_reducible refine Below.alloc ?_ (by first | omega | (simp; omega) | (simp; done) | (dsimp only; omega)) _) | (with_reducible refine Below.setCell ?_ (by first | omega | (simp; omega) | (simp; done) | (dsimp only; omega)) _) | (with_reducible refine Below.drew ?_) | (with_reducible refine Below.trans ?_ (Below.mono (by assumption) (by first | omega | (simp; omega) | (simp; done) | (dsimp only; omega))))))⟩
        · cases h2 : (x.r == y.r)
          all_goals
            go_wp2
            go_ret
            exact ⟨ret_bool (by rw [E.out, h1, h2]; rfl), (by repeat (first | (with_reducible assumption) | (with_reducible exact Below.refl _ _) | (with_reducible refine Below.alloc ?_ (by first | omega | (simp; omega) | (simp; done) | (dsimp only; omega)) _) | (with_reducible refine Below.setCell ?_ (by first | omega | (simp; omega) | (simp; done) | (dsimp only; omega)) _) | (with_reducible refine Below.drew ?_) | (with_reducible refine Below.trans ?_ (Below.mono (by assumption) (by first | omega | (simp; omega) | (simp; done) | (dsimp only; omega))))))⟩
      · have k0 : (y.m == 0) = false := by simpa using h0
        have k1 : ¬ y.m = 0 := h0
        have hb' := tmod_bd (n := x.m) (show 0 < y.m by have := ob.2; omega)
        have hy := ob.1.1
        unfold I64 at hy
        have hw : IntKind.i64.wrap (x.m.tmod y.m) = x.m.tmod y.m := IntWalk.i64_in _ (by omega)
        have E' := E.out
        rw [if_neg h0] at E'
        replace E := Lib.hid E'
        clear E'
        have HH : Hid (∀ w, Calls Tryz.prog 46 #[.agg #[.bool true, .int .i64 y.m, .int .i64 y.r], .int .i64 x.r] w fun e w' => e = .returned (.bool (y.has x.r)) ∧ Below w.heap.size w w') := Lib.hid (by have := r5_has y x.r ob.1; rw [hs'] at this; exact this)
        generalize y.has x.r = h at *
        cases h1 : (x.m.tmod y.m == 0)
        · have h2 : ¬ x.m % y.m = 0 := fun h => by
            have := Int.tmod_eq_zero_of_dvd (Int.dvd_of_emod_eq_zero h)
            simp [this] at h1
          go_wp2
          go_ret
          exact ⟨ret_bool (by rw [E.out, h1]; rfl), (by repeat (first | (with_reducible assumption) | (with_reducible exact Below.refl _ _) | (with_reducible refine Below.alloc ?_ (by first | omega | (simp; omega) | (simp; done) | (dsimp only; omega)) _) | (with_reducible refine Below.setCell ?_ (by first | omega | (simp; omega) | (simp; done) | (dsimp only; omega)) _) | (with_reducible refine Below.drew ?_) | (with_reducible refine Below.trans ?_ (Below.mono (by assumption) (by first | omega | (simp; omega) | (simp; done) | (dsimp only; omega))))))⟩
        · have h2 : x.m % y.m = 0 := Int.emod_eq_zero_of_dvd (Int.dvd_of_tmod_eq_zero (by simpa using h1))
          go_wp2_with (go_at_call 46; (with_reducible refine (HH.out _).mono ?_); rintro e w1 ⟨rfl, hb1⟩; obtain ⟨hc1, hf1⟩ := bcell hb1; have hz1 := hb1.size; (try simp at hz1); (try have hy1 := Nat.lt_of_succ_le hz1); (try have hv1 := Nat.lt_of_succ_lt hy1); (try have hw10 : w.heap.size < w1.heap.size := by omega); (try have hw11 : w.heap.size + 1 < w1.heap.size := by omega); (try have hw12 : w.heap.size + 1 + 1 < w1.heap.size := by omega); (try have hw13 : w.heap.size + 1 + 1 + 1 < w1.heap.size := by omega))
          go_ret
          exact ⟨ret_bool (by rw [E.out, h1]; rfl), (by repeat (first | (with_reducible assumption) | (with_reducible exact Below.refl _ _) | (with_reducible refine Below.alloc ?_ (by first | omega | (simp; omega) | (simp; done) | (dsimp only; omega)) _) | (with_reducible refine Below.setCell ?_ (by first | omega | (simp; omega) | (simp; done) | (dsimp only; omega)) _) | (with_reducible refine Below.drew ?_) | (with_reducible refine Below.trans ?_ (Below.mono (by assumption) (by first | omega | (simp; omega) | (simp; done) | (dsimp only; omega))))))⟩

end Go.Proofs.YtdpnphnafidpiaaGreat
