/- X-PARTIAL What cong.Has, cong.Leq, cong.Same return. Layer 5. -/
import Derived.Test.YtdpnphnafidpiaaGreatCongI
namespace Go.Proofs.YtdpnphnafidpiaaGreat
open Go.RowKit

def divI (m n : Int) : Bool := if m = 0 then n == 0 else n.tmod m == 0

set_option maxRecDepth 100000 in
set_option maxHeartbeats 1000000 in
theorem cong_divides (m n : Int) (hm : I64 m) (h0 : 0 ≤ m) (w : World) :
    Calls Tryz.prog 91 #[.int .i64 m, .int .i64 n] w fun e w' => e = .returned (.bool (divI m n)) ∧ w = w' := by
  unfold I64 at hm
  by_cases hz : m = 0
  · subst hz
    have e : divI 0 n = (n == 0) := if_pos rfl
    rw [e]
    go_enter Tryz.func91, Tryz.ntmps91
    go_wp2
    go_ret
    exact ⟨rfl, rfl⟩
  · have e : divI m n = (n.tmod m == 0) := if_neg hz
    rw [e]; clear e
    have k0 : (m == 0) = false := by simpa using hz
    have hb' := tmod_bd (n := n) (show 0 < m by omega)
    have hw : IntKind.i64.wrap (n.tmod m) = n.tmod m := IntWalk.i64_in _ (by omega)
    cases h1 : (n.tmod m == 0)
    · have h2 : ¬ n % m = 0 := fun h => by
        have := Int.tmod_eq_zero_of_dvd (Int.dvd_of_emod_eq_zero h)
        simp [this] at h1
      go_enter Tryz.func91, Tryz.ntmps91
      go_wp2
      go_ret
      exact ⟨ret_bool (by simp), rfl⟩
    · have h2 : n % m = 0 := Int.emod_eq_zero_of_dvd (Int.dvd_of_tmod_eq_zero (by simpa using h1))
      go_enter Tryz.func91, Tryz.ntmps91
      go_wp2
      go_ret
      exact ⟨ret_bool (by simp), rfl⟩

theorem Cg.has_mod {c : Cg} (hs : c.s = true) (hm : ¬ c.m < 0) (n : Int) : c.has n = (modI n c.m == modI c.r c.m) := by
  unfold Cg.has Cg.hasC
  rw [Cg.clean_pos hs hm]
  dsimp only
  by_cases h0 : c.m = 0
  · rw [if_pos h0, h0, modI_zero, modI_zero]; rfl
  · rw [if_neg h0]; rfl

theorem Cg.has_neg {c : Cg} (hs : c.s = true) (hm : c.m < 0) (n : Int) : c.has n = true := by
  unfold Cg.has Cg.hasC
  rw [Cg.clean_neg hs hm]
  dsimp only
  rw [if_neg (by omega), modI_pos (by omega), modI_pos (by omega), Int.emod_one, Int.emod_one]; rfl

theorem Cg.has_no {c : Cg} (hs : c.s = false) (n : Int) : c.has n = false := by
  unfold Cg.has Cg.hasC
  rw [Cg.clean_no hs]; rfl

set_option maxRecDepth 100000 in
set_option maxHeartbeats 1000000 in
theorem cong_has (c : Cg) (n : Int) (hm : I64 c.m) (w : World) :
    Calls Tryz.prog 92 #[.agg #[.bool c.s, .int .i64 c.m, .int .i64 c.r], .int .i64 n] w fun e w' => e = .returned (.bool (c.has n)) ∧ Below w.heap.size w w' := by
  cases hs : c.s
  · rw [Cg.has_no hs]
    go_enter Tryz.func92, Tryz.ntmps92
    go_wp2
    go_ret
    exact ⟨rfl, (by repeat (first | (with_reducible assumption) | (with_reducible exact Below.refl _ _) | (with_reducible refine Below.alloc ?_ (by first | omega | (simp; omega) | (simp; done) | (dsimp only; omega)) _) | (with_reducible refine Below.setCell ?_ (by first | omega | (simp; omega) | (simp; done) | (dsimp only; omega)) _) | (with_reducible refine Below.drew ?_) | (with_reducible refine Below.trans ?_ (Below.mono (by assumption) (by first | omega | (simp; omega) | (simp; done) | (dsimp only; omega))))))⟩
  · by_cases h0 : c.m < 0
    · rw [Cg.has_neg hs h0]
      go_enter Tryz.func92, Tryz.ntmps92
      go_wp2
      go_ret
      exact ⟨rfl, (by repeat (first | (with_reducible assumption) | (with_reducible exact Below.refl _ _) | (with_reducible refine Below.alloc ?_ (by first | omega | (simp; omega) | (simp; done) | (dsimp only; omega)) _) | (with_reducible refine Below.setCell ?_ (by first | omega | (simp; omega) | (simp; done) | (dsimp only; omega)) _) | (with_reducible refine Below.drew ?_) | (with_reducible refine Below.trans ?_ (Below.mono (by assumption) (by first | omega | (simp; omega) | (simp; done) | (dsimp only; omega))))))⟩
    · rw [Cg.has_mod hs h0]
      have H1 := Lib.hid (cong_mod n c.m hm)
      have H2 := Lib.hid (cong_mod c.r c.m hm)
      generalize modI n c.m = x at *
      generalize modI c.r c.m = y at *
      have k0 : decide (c.m < 0) = false := by simpa using h0
      go_enter Tryz.func92, Tryz.ntmps92
      go_upto_region 1 with fail
      generalize hW : (w.alloc (.cells #[.bool true, .int .i64 c.m, .int .i64 c.r] 25)) = W
      have q0_0 : W.cell? ⟨w.heap.size, 0, none⟩ = some (.bool true) := by rw [← hW]; simp [go_sem]
      have q0_1 : W.cell? ⟨w.heap.size, 1, none⟩ = some (.int .i64 c.m) := by rw [← hW]; simp [go_sem]
      have q0_2 : W.cell? ⟨w.heap.size, 2, none⟩ = some (.int .i64 c.r) := by rw [← hW]; simp [go_sem]
      have z0 : w.heap.size < W.heap.size := by rw [← hW]; first | (simp; done) | (simp; omega)
      have HW : Below w.heap.size w W := by rw [← hW]; exact (by repeat (first | (with_reducible assumption) | (with_reducible exact Below.refl _ _) | (with_reducible refine Below.alloc ?_ (by first | omega | (simp; omega) | (simp; done) | (dsimp only; omega)) _) | (with_reducible refine Below.setCell ?_ (by first | omega | (simp; omega) | (simp; done) | (dsimp only; omega)) _) | (with_reducible refine Below.drew ?_) | (with_reducible refine Below.trans ?_ (Below.mono (by assumption) (by first | omega | (simp; omega) | (simp; done) | (dsimp only; omega))))))
      clear hW
      go_wp2
      refine region_seq (S := fun w' => Below W.heap.size W w') rfl (by kernel_rfl) (by kernel_rfl) (by repeat (first | (with_reducible assumption) | (with_reducible exact Below.refl _ _) | (with_reducible refine Below.alloc ?_ (by first | omega | (simp; omega) | (simp; done) | (dsimp only; omega)) _) | (with_reducible refine Below.setCell ?_ (by first | omega | (simp; omega) | (simp; done) | (dsimp only; omega)) _) | (with_reducible refine Below.drew ?_) | (with_reducible refine Below.trans ?_ (Below.mono (by assumption) (by first | omega | (simp; omega) | (simp; done) | (dsimp only; omega)))))) (fun fin hfin => ?_)
      iterate 11
        first
          | (refine SeqL.yes (v := ?_) (A' := ?_) rfl (by rfl) ?_ ?_ ?_
             rotate_left 2
             · intro w' K hS hK
               obtain ⟨hc, hf⟩ := bcell hS
               have hz := hS.size
               go_simp
               first
                 | exact hK.out _ hS
                 | (go_at_call 96; (with_reducible refine (H1.out _).mono ?_); rintro e w1 ⟨rfl, rfl⟩; exact hK.out _ hS)
                 | (go_at_call 96; (with_reducible refine (H2.out _).mono ?_); rintro e w1 ⟨rfl, rfl⟩; exact hK.out _ hS)
                 | trace_state
             · simp only [Act.put, List.setIfInBounds_toArray, List.set_cons_zero, List.set_cons_succ]; exact rfl)
          | (refine SeqL.no (A' := ?_) rfl (by rfl) ?_ ?_
             rotate_left
             · simp only [Act.put, List.setIfInBounds_toArray, List.set_cons_zero, List.set_cons_succ]; exact rfl)
      refine SeqL.nil (hfin.out _ ?_)
      clear hfin fin
      intro w1 hS1
      go_wp2
      go_ret
      exact ⟨rfl, (by repeat (first | (with_reducible assumption) | (with_reducible exact Below.refl _ _) | (with_reducible refine Below.alloc ?_ (by first | omega | (simp; omega) | (simp; done) | (dsimp only; omega)) _) | (with_reducible refine Below.setCell ?_ (by first | omega | (simp; omega) | (simp; done) | (dsimp only; omega)) _) | (with_reducible refine Below.drew ?_) | (with_reducible refine Below.trans ?_ (Below.mono (by assumption) (by first | omega | (simp; omega) | (simp; done) | (dsimp only; omega))))))⟩

theorem Cg.leqC_std {x y : Cg} (hy : y.std) (h1 : x.s = true) (h2 : y.s = true) : Cg.leqC x y = (divI y.m x.m && y.has x.r) := by
  unfold Cg.leqC divI
  rw [h1, h2]
  by_cases h0 : y.m = 0
  · rw [if_pos h0, if_pos h0]
    have : y.has x.r = (x.r == y.r) := by unfold Cg.has Cg.hasC; rw [Cg.std_clean hy, h2, if_pos h0]; rfl
    rw [this]; rfl
  · rw [if_neg h0, if_neg h0]; rfl

set_option maxRecDepth 100000 in
set_option maxHeartbeats 2000000 in
theorem cong_leq (a b : Cg) (ha : a.ok) (hb : b.ok) (w : World) :
    Calls Tryz.prog 49 #[.agg #[.bool a.s, .int .i64 a.m, .int .i64 a.r], .agg #[.bool b.s, .int .i64 b.m, .int .i64 b.r]] w fun e w' => e = .returned (.bool (a.leq b)) ∧ Below w.heap.size w w' := by
  have HA := Lib.hid (cong_clean a ha.1)
  have HB := Lib.hid (cong_clean b hb.1)
  have oa := Cg.clean_std ha
  have ob := Cg.clean_std hb
  have e : a.leq b = Cg.leqC a.clean b.clean := rfl
  rw [e]; clear e
  generalize a.clean = x at *
  generalize b.clean = y at *
  have e1 : x.s = false → Cg.leqC x y = true := fun h => by unfold Cg.leqC; rw [h]; rfl
  have e2 : x.s = true → y.s = false → Cg.leqC x y = false := fun h h' => by unfold Cg.leqC; rw [h, h']; rfl
  have e3 : x.s = true → y.s = true → Cg.leqC x y = (divI y.m x.m && y.has x.r) := fun h h' => Cg.leqC_std ob h h'
  go_enter Tryz.func49, Tryz.ntmps49
  go_upto_region 1 with fail
  have hh0 := al2_0 w (.cells #[.bool a.s, .int .i64 a.m, .int .i64 a.r] 25) (.cells #[.bool b.s, .int .i64 b.m, .int .i64 b.r] 25)
  have hh1 := al2_1 w (.cells #[.bool a.s, .int .i64 a.m, .int .i64 a.r] 25) (.cells #[.bool b.s, .int .i64 b.m, .int .i64 b.r] 25)
  generalize hW : (w.alloc (.cells #[.bool a.s, .int .i64 a.m, .int .i64 a.r] 25)).alloc (.cells #[.bool b.s, .int .i64 b.m, .int .i64 b.r] 25) = W at *
  have HW : Below w.heap.size w W := by rw [← hW]; exact (by repeat (first | (with_reducible assumption) | (with_reducible exact Below.refl _ _) | (with_reducible refine Below.alloc ?_ (by first | omega | (simp; omega) | (simp; done) | (dsimp only; omega)) _) | (with_reducible refine Below.setCell ?_ (by first | omega | (simp; omega) | (simp; done) | (dsimp only; omega)) _) | (with_reducible refine Below.drew ?_) | (with_reducible refine Below.trans ?_ (Below.mono (by assumption) (by first | omega | (simp; omega) | (simp; done) | (dsimp only; omega))))))
  clear hW
  have q0_0 := blk_cell hh0 0
  have q0_1 := blk_cell hh0 1
  have q0_2 := blk_cell hh0 2
  have q1_0 := blk_cell hh1 0
  have q1_1 := blk_cell hh1 1
  have q1_2 := blk_cell hh1 2
  simp only [List.getElem?_toArray, List.getElem?_cons_zero, List.getElem?_cons_succ] at q0_0 q0_1 q0_2 q1_0 q1_1 q1_2
  have z0 := blk_lt hh0
  have z1 := blk_lt hh1
  have f0 := blk_free hh0
  have f1 := blk_free hh1
  have K0 := Lib.hid hh0; have K1 := Lib.hid hh1; clear hh0 hh1
  refine region_seqg (W := W) [_, _, _, _] [_, _] rfl (by kernel_rfl) (by kernel_rfl) (by repeat (first | (with_reducible assumption) | (with_reducible exact Below.refl _ _) | (with_reducible refine Below.alloc ?_ (by first | omega | (simp; omega) | (simp; done) | (dsimp only; omega)) _) | (with_reducible refine Below.setCell ?_ (by first | omega | (simp; omega) | (simp; done) | (dsimp only; omega)) _) | (with_reducible refine Below.drew ?_) | (with_reducible refine Below.trans ?_ (Below.mono (by assumption) (by first | omega | (simp; omega) | (simp; done) | (dsimp only; omega)))))) (fun fin hfin => ?_)
  iterate 4
    first
      | (refine SeqG.yes (v := ?_) (A' := ?_) rfl (fun γ => by rfl) ?_ ?_ ?_
         rotate_left 2
         · intro γ w' K hS hK
           obtain ⟨hc, hf⟩ := bcell hS
           have hz := hS.size
           go_simp
           first
             | exact hK.out _ (Below.refl _ _)
             | (go_at_call 61; (with_reducible refine (HA.out _).mono ?_); rintro e w1 ⟨rfl, hb1⟩; exact hK.out _ hb1)
             | (go_at_call 61; (with_reducible refine (HB.out _).mono ?_); rintro e w1 ⟨rfl, hb1⟩; exact hK.out _ hb1)
             | trace_state
         · intro γ; simp only [Act.put, List.setIfInBounds_toArray, List.set_cons_zero, List.set_cons_succ]; exact rfl)
      | (refine SeqG.no (A' := ?_) rfl (fun γ => by rfl) ?_ ?_
         rotate_left
         · intro γ; simp only [Act.put, List.setIfInBounds_toArray, List.set_cons_zero, List.set_cons_succ]; exact rfl)
  refine SeqG.nil (hfin.out _ _ ?_)
  clear hfin fin
  intro γ lo hi w1 hB1 hF hD
  clear hD
  obtain ⟨hc, hf⟩ := bcell hB1
  have hz := hB1.size
  refine TailL.cons (fun K hK => ?_)
  go_simp
  refine hK.out _ _ ?_
  clear hK K
  refine TailL.cons (fun K hK => ?_)
  go_simp
  refine hK.out _ _ ?_
  clear hK K
  refine TailL.nil ?_
  generalize hX : (((((w1.setCell ⟨w.heap.size, 0, none⟩ (.bool x.s)).setCell ⟨w.heap.size, 1, none⟩ (.int .i64 x.m)).setCell ⟨w.heap.size, 2, none⟩ (.int .i64 x.r)).setCell ⟨w.heap.size + 1, 0, none⟩ (.bool y.s)).setCell ⟨w.heap.size + 1, 1, none⟩ (.int .i64 y.m)).setCell ⟨w.heap.size + 1, 2, none⟩ (.int .i64 y.r) = X
  have HX : Below w.heap.size w X := by rw [← hX]; exact (by repeat (first | (with_reducible assumption) | (with_reducible exact Below.refl _ _) | (with_reducible refine Below.alloc ?_ (by first | omega | (simp; omega) | (simp; done) | (dsimp only; omega)) _) | (with_reducible refine Below.setCell ?_ (by first | omega | (simp; omega) | (simp; done) | (dsimp only; omega)) _) | (with_reducible refine Below.drew ?_) | (with_reducible refine Below.trans ?_ (Below.mono (by assumption) (by first | omega | (simp; omega) | (simp; done) | (dsimp only; omega))))))
  have p0 : X.heap[w.heap.size]? = some (.cells #[.bool x.s, .int .i64 x.m, .int .i64 x.r] 25) := by
    rw [← hX]
    iterate 3 (refine (Below.heap_setCell _ _ _ _ (by dsimp only; omega)).trans ?_)
    refine blk_set3 (c0 := .bool a.s) (c1 := .int .i64 a.m) (c2 := .int .i64 a.r) ?_
    rw [hB1.block _ z0]; exact K0.out
  have p1 : X.heap[w.heap.size + 1]? = some (.cells #[.bool y.s, .int .i64 y.m, .int .i64 y.r] 25) := by
    rw [← hX]
    refine blk_set3 (c0 := .bool b.s) (c1 := .int .i64 b.m) (c2 := .int .i64 b.r) ?_
    iterate 3 (refine (Below.heap_setCell _ _ _ _ (by dsimp only; omega)).trans ?_)
    rw [hB1.block _ z1]; exact K1.out
  clear hX hc hf hz K0 K1 q0_0 q0_1 q0_2 q1_0 q1_1 q1_2 z0 z1 f0 f1 hB1 HW HA HB
  have q0_0 := blk_cell p0 0
  have q0_1 := blk_cell p0 1
  have q0_2 := blk_cell p0 2
  have q1_0 := blk_cell p1 0
  have q1_1 := blk_cell p1 1
  have q1_2 := blk_cell p1 2
  simp only [List.getElem?_toArray, List.getElem?_cons_zero, List.getElem?_cons_succ] at q0_0 q0_1 q0_2 q1_0 q1_1 q1_2
  have z0 := blk_lt p0
  have z1 := blk_lt p1
  clear p0 p1
  have hdr : ∀ w : World, w.drew.heap.size = w.heap.size := fun _ => rfl
  cases hs : x.s
  · have E := Lib.hid (e1 hs); clear e1 e2 e3
    rw [hs] at q0_0
    go_wp2
    go_ret
    exact ⟨ret_bool (by rw [E.out]), (by repeat (first | (with_reducible assumption) | (with_reducible exact Below.refl _ _) | (with_reducible refine Below.alloc ?_ (by first | omega | (simp; omega) | (simp; done) | (dsimp only; omega)) _) | (with_reducible refine Below.setCell ?_ (by first | omega | (simp; omega) | (simp; done) | (dsimp only; omega)) _) | (with_reducible refine Below.drew ?_) | (with_reducible refine Below.trans ?_ (Below.mono (by assumption) (by first | omega | (simp; omega) | (simp; done) | (dsimp only; omega))))))⟩
  · cases hs' : y.s
    · have E := Lib.hid (e2 hs hs'); clear e1 e2 e3
      rw [hs] at q0_0
      rw [hs'] at q1_0
      go_wp2
      go_ret
      exact ⟨ret_bool (by rw [E.out]), (by repeat (first | (with_reducible assumption) | (with_reducible exact Below.refl _ _) | (with_reducible refine Below.alloc ?_ (by first | omega | (simp; omega) | (simp; done) | (dsimp only; omega)) _) | (with_reducible refine Below.setCell ?_ (by first | omega | (simp; omega) | (simp; done) | (dsimp only; omega)) _) | (with_reducible refine Below.drew ?_) | (with_reducible refine Below.trans ?_ (Below.mono (by assumption) (by first | omega | (simp; omega) | (simp; done) | (dsimp only; omega))))))⟩
    · have E := Lib.hid (e3 hs hs'); clear e1 e2 e3
      rw [hs] at q0_0
      rw [hs'] at q1_0
      have HD := Lib.hid (cong_divides y.m x.m ob.1.1 ob.2.1)
      have HH : Hid (∀ w, Calls Tryz.prog 92 #[.agg #[.bool true, .int .i64 y.m, .int .i64 y.r], .int .i64 x.r] w fun e w' => e = .returned (.bool (y.has x.r)) ∧ Below w.heap.size w w') := Lib.hid (by have := cong_has y x.r ob.1.1; rw [hs'] at this; exact this)
      generalize y.has x.r = h at *
      generalize divI y.m x.m = d at *
      cases d
      all_goals
        go_wp2_with (first | (go_at_call 91; (with_reducible refine (HD.out _).mono ?_); rintro e w1 ⟨rfl, rfl⟩) | (go_at_call 92; (with_reducible refine (HH.out _).mono ?_); rintro e w1 ⟨rfl, hb1⟩; obtain ⟨hc1, hf1⟩ := bcell hb1; have hz1 := hb1.size; (try simp at hz1); (try have hy1 := Nat.lt_of_succ_le hz1); (try have hv1 := Nat.lt_of_succ_lt hy1); (try have hw10 : w.heap.size < w1.heap.size := by omega); (try have hw11 : w.heap.size + 1 < w1.heap.size := by omega); (try have hw12 : w.heap.size + 1 + 1 < w1.heap.size := by omega); (try have hw13 : w.heap.size + 1 + 1 + 1 < w1.heap.size := by omega)))
        go_ret
        exact ⟨ret_bool (by rw [E.out]; rfl), (by repeat (first | (with_reducible assumption) | (with_reducible exact Below.refl _ _) | (with_reducible refine Below.alloc ?_ (by first | omega | (simp; omega) | (simp; done) | (dsimp only; omega)) _) | (with_reducible refine Below.setCell ?_ (by first | omega | (simp; omega) | (simp; done) | (dsimp only; omega)) _) | (with_reducible refine Below.drew ?_) | (with_reducible refine Below.trans ?_ (Below.mono (by assumption) (by first | omega | (simp; omega) | (simp; done) | (dsimp only; omega))))))⟩

end Go.Proofs.YtdpnphnafidpiaaGreat
