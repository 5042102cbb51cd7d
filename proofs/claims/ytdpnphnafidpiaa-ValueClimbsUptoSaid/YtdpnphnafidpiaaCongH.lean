/- X-PARTIAL What the document's own Has and Leq of congruences return: layer 5. -/
import Derived.Test.YtdpnphnafidpiaaCongD
namespace Go.Proofs.Ytdpnphnafidpiaa
open Go.RowKit

def Cg.hasC (c : Cg) (n : Int) : Bool := c.s && (if c.m = 0 then n == c.r else modI n c.m == c.r)

def Cg.has (c : Cg) (n : Int) : Bool := Cg.hasC c.clean n

def Cg.leqC (x y : Cg) : Bool := !x.s || (y.s && (if y.m = 0 then x.m == 0 && x.r == y.r else (x.m.tmod y.m == 0) && y.has x.r))

def Cg.leq (a b : Cg) : Bool := Cg.leqC a.clean b.clean

set_option maxRecDepth 100000 in
set_option maxHeartbeats 1000000 in
theorem r5_has (c : Cg) (n : Int) (hc : c.ok) (w : World) :
    Calls Try.prog 36 #[.agg #[.bool c.s, .int .i64 c.m, .int .i64 c.r], .int .i64 n] w fun e w' => e = .returned (.bool (c.has n)) ∧ Below w.heap.size w w' := by
  have HC := Lib.hid (r5_clean c hc.1)
  have oc := Cg.clean_ok hc
  have e : c.has n = Cg.hasC c.clean n := rfl
  rw [e]; clear e
  generalize c.clean = x at *
  cases hs : x.s
  · have E : Cg.hasC x n = false := by unfold Cg.hasC; rw [hs]; rfl
    rw [E]; rw [hs] at HC; clear E
    go_enter Try.func36, Try.ntmps36
    go_wp2_with (go_at_call 57; (with_reducible refine (HC.out _).mono ?_); rintro e w1 ⟨rfl, hb1⟩; obtain ⟨hc1, hf1⟩ := bcell hb1; have hz1 := hb1.size; (try simp at hz1); (try have hy1 := Nat.lt_of_succ_le hz1); (try have hv1 := Nat.lt_of_succ_lt hy1); (try have hw10 : w.heap.size < w1.heap.size := by omega); (try have hw11 : w.heap.size + 1 < w1.heap.size := by omega); (try have hw12 : w.heap.size + 1 + 1 < w1.heap.size := by omega); (try have hw13 : w.heap.size + 1 + 1 + 1 < w1.heap.size := by omega))
    go_ret
    exact ⟨rfl, (by repeat (first | (with_reducible assumption) | (with_reducible exact Below.refl _ _) | (with_reducible refine Below.alloc ?_ (by first | omega | (simp; omega) | (simp; done) | (dsimp only; omega)) _) | (with_reducible refine Below.setCell ?_ (by first | omega | (simp; omega) | (simp; done) | (dsimp only; omega)) _) | (with_reducible refine Below.drew ?_) | (with_reducible refine Below.trans ?_ (Below.mono (by assumption) (by first | omega | (simp; omega) | (simp; done) | (dsimp only; omega))))))⟩
  · rw [hs] at HC
    by_cases h0 : x.m = 0
    · have E : Cg.hasC x n = (n == x.r) := by unfold Cg.hasC; rw [hs, if_pos h0]; rfl
      rw [E]; clear E
      rw [h0] at HC
      cases hn : n == x.r
      all_goals
        go_enter Try.func36, Try.ntmps36
        go_wp2_with (go_at_call 57; (with_reducible refine (HC.out _).mono ?_); rintro e w1 ⟨rfl, hb1⟩; obtain ⟨hc1, hf1⟩ := bcell hb1; have hz1 := hb1.size; (try simp at hz1); (try have hy1 := Nat.lt_of_succ_le hz1); (try have hv1 := Nat.lt_of_succ_lt hy1); (try have hw10 : w.heap.size < w1.heap.size := by omega); (try have hw11 : w.heap.size + 1 < w1.heap.size := by omega); (try have hw12 : w.heap.size + 1 + 1 < w1.heap.size := by omega); (try have hw13 : w.heap.size + 1 + 1 + 1 < w1.heap.size := by omega))
        go_ret
        exact ⟨ret_bool (by simp), (by repeat (first | (with_reducible assumption) | (with_reducible exact Below.refl _ _) | (with_reducible refine Below.alloc ?_ (by first | omega | (simp; omega) | (simp; done) | (dsimp only; omega)) _) | (with_reducible refine Below.setCell ?_ (by first | omega | (simp; omega) | (simp; done) | (dsimp only; omega)) _) | (with_reducible refine Below.drew ?_) | (with_reducible refine Below.trans ?_ (Below.mono (by assumption) (by first | omega | (simp; omega) | (simp; done) | (dsimp only; omega))))))⟩
    · have E : Cg.hasC x n = (modI n x.m == x.r) := by unfold Cg.hasC; rw [hs, if_neg h0]; rfl
      rw [E]; clear E
      have k0 : (x.m == 0) = false := by simpa using h0
      have HM := Lib.hid (r5_rest n x.m oc.1.1 (by have := oc.2; omega))
      generalize modI n x.m = t at *
      go_enter Try.func36, Try.ntmps36
      have hh0 := al_new w (.cells #[.bool c.s, .int .i64 c.m, .int .i64 c.r] 25) rfl
      have zh : w.heap.size < (w.alloc (.cells #[.bool c.s, .int .i64 c.m, .int .i64 c.r] 25)).heap.size := by rw [al_size]; omega
      go_wp2_with (go_at_call 57; (with_reducible refine (HC.out _).mono ?_); rintro e w1 ⟨rfl, hb1⟩; obtain ⟨hc1, hf1⟩ := bcell hb1; have hz1 := hb1.size; (try simp at hz1); (try have hy1 := Nat.lt_of_succ_le hz1); (try have hv1 := Nat.lt_of_succ_lt hy1); (try have hw10 : w.heap.size < w1.heap.size := by omega); (try have hw11 : w.heap.size + 1 < w1.heap.size := by omega); (try have hw12 : w.heap.size + 1 + 1 < w1.heap.size := by omega); (try have hw13 : w.heap.size + 1 + 1 + 1 < w1.heap.size := by omega))
      have p0 : ((w1.setCell ⟨w.heap.size, 0, none⟩ (.bool true)).setCell ⟨w.heap.size, 1, none⟩ (.int .i64 x.m) |>.setCell ⟨w.heap.size, 2, none⟩ (.int .i64 x.r)).heap[w.heap.size]? = some (.cells #[.bool true, .int .i64 x.m, .int .i64 x.r] 25) := by
        refine blk_set3 (c0 := .bool c.s) (c1 := .int .i64 c.m) (c2 := .int .i64 c.r) ?_
        rw [hb1.block _ zh]; exact hh0
      have HX : Below w.heap.size w ((w1.setCell ⟨w.heap.size, 0, none⟩ (.bool true)).setCell ⟨w.heap.size, 1, none⟩ (.int .i64 x.m) |>.setCell ⟨w.heap.size, 2, none⟩ (.int .i64 x.r)) := (by repeat (first | (with_reducible assumption) | (with_reducible exact Below.refl _ _) | (with_reducible refine Below.alloc ?_ (by first | omega | (simp; omega) | (simp; done) | (dsimp only; omega)) _) | (with_reducible refine Below.setCell ?_ (by first | omega | (simp; omega) | (simp; done) | (dsimp only; omega)) _) | (with_reducible refine Below.drew ?_) | (with_reducible refine Below.trans ?_ (Below.mono (by assumption) (by first | omega | (simp; omega) | (simp; done) | (dsimp only; omega))))))
      generalize ((w1.setCell ⟨w.heap.size, 0, none⟩ (.bool true)).setCell ⟨w.heap.size, 1, none⟩ (.int .i64 x.m) |>.setCell ⟨w.heap.size, 2, none⟩ (.int .i64 x.r)) = X at *
      have q0_0 := blk_cell p0 0
      have q0_1 := blk_cell p0 1
      have q0_2 := blk_cell p0 2
      simp only [List.getElem?_toArray, List.getElem?_cons_zero, List.getElem?_cons_succ] at q0_0 q0_1 q0_2
      have z0 := blk_lt p0
      have f0 := blk_free p0
      clear p0 hh0 zh hb1 hc1 hf1 HC
      refine region_seq (S := fun w' => Below X.heap.size X w') rfl (by kernel_rfl) (by kernel_rfl) (by repeat (first | (with_reducible assumption) | (with_reducible exact Below.refl _ _) | (with_reducible refine Below.alloc ?_ (by first | omega | (simp; omega) | (simp; done) | (dsimp only; omega)) _) | (with_reducible refine Below.setCell ?_ (by first | omega | (simp; omega) | (simp; done) | (dsimp only; omega)) _) | (with_reducible refine Below.drew ?_) | (with_reducible refine Below.trans ?_ (Below.mono (by assumption) (by first | omega | (simp; omega) | (simp; done) | (dsimp only; omega)))))) (fun fin hfin => ?_)
      iterate 8
        first
          | (refine SeqL.yes (v := ?_) (A' := ?_) rfl (by rfl) ?_ ?_ ?_
             rotate_left 2
             · intro w' K hS hK
               obtain ⟨hc, hf⟩ := bcell hS
               have hz := hS.size
               go_simp
               first
                 | exact hK.out _ hS
                 | (go_at_call 65; (with_reducible refine (HM.out _).mono ?_); rintro e w1 ⟨rfl, rfl⟩; exact hK.out _ hS)
                 | trace_state
             · simp only [Act.put, List.setIfInBounds_toArray, List.set_cons_zero, List.set_cons_succ]; exact rfl)
          | (refine SeqL.no (A' := ?_) rfl (by rfl) ?_ ?_
             rotate_left
             · simp only [Act.put, List.setIfInBounds_toArray, List.set_cons_zero, List.set_cons_succ]; exact rfl)
      refine SeqL.nil (hfin.out _ ?_)
      clear hfin fin
      intro w1 hS1
      go_wp2
      go_ret
      exact ⟨rfl, (by repeat (first | (with_reducible assumption) | (with_reducible exact Below.refl _ _) | (with_reducible refine Below.alloc ?_ (by first | omega | (simp; omega) | (simp; done) | (dsimp only; omega)) _) | (with_reducible refine Below.setCell ?_ (by first | omega | (simp; omega) | (simp; done) | (dsimp only; omega)) _) | (with_reducible refine Below.drew ?_) | (with_reducible refine Below.trans ?_ (Below.mono (by assumption) (by first | omega | (simp; omega) | (simp; done) | (dsimp only; omega))))))⟩

end Go.Proofs.Ytdpnphnafidpiaa
