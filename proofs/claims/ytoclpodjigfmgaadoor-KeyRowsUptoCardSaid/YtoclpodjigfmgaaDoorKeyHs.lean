/- X-PARTIAL key.Has: layer 26. -/
import Derived.Test.YtoclpodjigfmgaaDoorKeyBp
namespace Go.Proofs.YtoclpodjigfmgaaDoor
open Go.RowKit Go.Shelf

attribute [local go_sem] Oper.semAt_some

/-- Between two rounds. -/
def HasI (w : World) (k : Ky) (pre : List Ky) (W : World) : Prop :=
  (∀ x ∈ pre, x ≠ k.cl) ∧ (W.cell? ⟨w.heap.size, 0, none⟩ = some (encStr k.n) ∧ W.cell? ⟨w.heap.size, 1, none⟩ = some (.int .i64 k.d)) ∧
    (W.cell? ⟨w.heap.size + 1, 0, none⟩ = some (.bool false) ∧ W.frozen? ⟨w.heap.size + 1, 0, none⟩ = false) ∧ Below w.heap.size w W
/-- A round has left. -/
def HasX (w : World) (k : Ky) (c : Code) (pre : List Ky) (W : World) : Prop :=
  c = .ret ∧ k.cl ∈ pre ∧ W.cell? ⟨w.heap.size + 1, 0, none⟩ = some (.bool true) ∧ Below w.heap.size w W
theorem hasI_own (w : World) (k : Ky) (B : Nat) (hB : w.heap.size ≤ B) : OwnFrom B (HasI w k) := fun s X Y row h hg hr => by
  obtain ⟨h1, ⟨h2, h3⟩, ⟨h4, h5⟩, h6⟩ := h
  exact ⟨h1, ⟨cell_kept h2 hg (fun r e => (hr r e).2), cell_kept h3 hg (fun r e => (hr r e).2)⟩, ⟨cell_kept h4 hg (fun r e => (hr r e).2), (frozen_kept h4 hg (fun r e => (hr r e).2)).trans h5⟩, ownFrom_below (β := Unit) (w₀ := w) (Nat.le_refl _) hB () X Y row h6 hg hr⟩
theorem hasX_own (w : World) (k : Ky) (c : Code) (B : Nat) (hB : w.heap.size ≤ B) : OwnFrom B (HasX w k c) := fun s X Y row h hg hr => by
  obtain ⟨h1, h2, h3, h6⟩ := h
  exact ⟨h1, h2, cell_kept h3 hg (fun r e => (hr r e).2), ownFrom_below (β := Unit) (w₀ := w) (Nat.le_refl _) hB () X Y row h6 hg hr⟩

set_option maxRecDepth 100000 in
set_option maxHeartbeats 4000000 in
theorem key_Has (l : List Ky) (k : Ky) (A : Option Addr) (ca : Nat) (w : World) (hr : KRow w A l) (hm : l.length ≤ 140737488355328) :
    Calls Tryd.prog 10 #[.slice A l.length ca, .agg #[encStr k.n, .int .i64 k.d]] w fun e w' => e = .returned (.bool (l.any fun x => decide (x.cl = k.cl))) ∧ Below w.heap.size w w' := by
  refine callsIn_wide (n := 3) |>.1 ?_
  refine callsIn_of_wp_marks Tryd.func10 rfl trivial ?_ rfl
  simp only [Tryd.ntmps10, List.size_toArray, List.length_cons, List.length_nil, Nat.reduceAdd, Nat.reduceSub, Array.replicate_succ, Array.replicate_zero, List.push_toArray, List.append_toArray, List.nil_append, List.cons_append]
  gi_wp2_with (refine ⟨trivial, ?_⟩; gi_at_call 28; refine (callsIn_wide.2 (both_in A none l.length 0 ca 0 _)).mono ?_; rintro e w2 ⟨rfl, rfl⟩)
  obtain ⟨W0, hW0⟩ : ∃ W0, (((w.alloc (.cells #[encStr k.n, .int .i64 k.d] 24)).alloc (.cells #[.bool false] 4)).alloc (.cells #[.slice A l.length ca] 22)).alloc (.cells #[.slice none 0 0] 22) = W0 := ⟨_, rfl⟩
  have hs0 : W0.heap.size = w.heap.size + 4 := by rw [← hW0]; simp
  have hB0 : W0.heap[w.heap.size]? = some (.cells #[encStr k.n, .int .i64 k.d] 24 (0, 0)) := by
    rw [← hW0]; exact (((Below.heap_alloc _ _ _ (by simp)).trans (Below.heap_alloc _ _ _ (by simp))).trans (Below.heap_alloc _ _ _ (by simp))).trans (World.alloc_heap_new w _)
  have hB1 : W0.heap[w.heap.size + 1]? = some (.cells #[.bool false] 4 (0, 0)) := by
    rw [← hW0]; refine ((Below.heap_alloc _ _ _ (by simp)).trans (Below.heap_alloc _ _ _ (by simp))).trans ?_
    have := World.alloc_heap_new (w.alloc (.cells #[encStr k.n, .int .i64 k.d] 24)) (.cells #[.bool false] 4); rwa [World.size_alloc] at this
  have hB2 : W0.heap[w.heap.size + 2]? = some (.cells #[.slice A l.length ca] 22 (0, 0)) := by
    rw [← hW0]; refine (Below.heap_alloc _ _ _ (by simp)).trans ?_
    have := World.alloc_heap_new ((w.alloc (.cells #[encStr k.n, .int .i64 k.d] 24)).alloc (.cells #[.bool false] 4)) (.cells #[.slice A l.length ca] 22); rwa [World.size_alloc, World.size_alloc] at this
  have hB3 : W0.heap[w.heap.size + 3]? = some (.cells #[.slice none 0 0] 22 (0, 0)) := by
    rw [← hW0]
    have := World.alloc_heap_new (((w.alloc (.cells #[encStr k.n, .int .i64 k.d] 24)).alloc (.cells #[.bool false] 4)).alloc (.cells #[.slice A l.length ca] 22)) (.cells #[.slice none 0 0] 22); rwa [World.size_alloc, World.size_alloc, World.size_alloc] at this
  have hBW : Below w.heap.size w W0 := by
    rw [← hW0]
    exact ((((Below.refl _ w).alloc (Nat.le_refl _) _).alloc (by simp) _).alloc (by simp; omega) _).alloc (by simp; omega) _
  have hI0 : HasI w k [] W0 := ⟨fun x hx => absurd hx (by simp), ⟨by simp [World.cell?, hB0], by simp [World.cell?, hB0]⟩, ⟨by simp [World.cell?, hB1], by simp [World.frozen?, hB1]⟩, hBW⟩
  have hb2 : W0.cell? ⟨w.heap.size + 2, 0, none⟩ = some (.slice A l.length ca) := by simp [World.cell?, hB2]
  have hb3 : W0.cell? ⟨w.heap.size + 3, 0, none⟩ = some (.slice none 0 0) := by simp [World.cell?, hB3]
  rw [hW0]
  clear hW0 hB0 hB1 hB2 hB3
  refine wpIn_rangeFunc_ownH rfl (by omega) (gf := 45) (lb := #[.pointer (some ⟨w.heap.size + 1 + 1, 0, none⟩), .pointer (some ⟨w.heap.size + 1 + 1 + 1, 0, none⟩)]) rfl trivial (enters_of Tryd.func45 (by kernel_rfl) rfl)
    (both_stops_pre (w.heap.size + 1) (w.heap.size + 1) (w.heap.size + 2) (w.heap.size + 3) l [] A none ca 0 W0 (by omega) (by omega) ⟨by omega, by simp⟩ (by omega) (by omega) hb2 hb3 (hr.e hBW (by omega) (by omega)) (fun j hj => absurd hj (by simp)))
    (fun h k => h.trans k) (fun W l o o' _ h hc _ => kept_b W l o o' h hc) (Below.refl _ _) (fun _ => rfl)
    (HasI w k) (HasX w k) (hasI_own w k _ (by omega)) (fun c => hasX_own w k c _ (by omega)) hI0
    (fun x => JoinA w (fun b => { tmps := #[.slice A l.length ca, .agg #[encStr k.n, .int .i64 k.d], undef, .pointer (some ⟨w.heap.size, 0, none⟩), .pointer (some ⟨w.heap.size + 1, 0, none⟩), .pointer (some ⟨b, 0, none⟩), .slice A l.length ca, .func (.func 45) #[] #[.pointer (some ⟨w.heap.size + 1 + 1, 0, none⟩), .pointer (some ⟨w.heap.size + 1 + 1 + 1, 0, none⟩)], .agg #[encStr x.n, .int .i64 x.d], undef, undef, undef, undef], defers := [] }) x) (fun x a' => joinA_own w _ x a' _) ?assign ?body ?done ?stop
  case assign =>
    rintro l' pre x W K hI hK
    have hlt : w.heap.size + 1 < W.heap.size := by
      obtain ⟨_, _, ⟨h4, _⟩, _⟩ := hI
      obtain ⟨o, ho, -⟩ := cells_of_cell h4
      exact (Array.getElem?_eq_some_iff.1 ho).1
    gi_wp2
    exact hK _ _ ((KeepsOthers.alloc _ _).from _) (Kept.below ((Below.refl _ W).alloc (Nat.le_refl _) _)) (hasI_own w k w.heap.size (Nat.le_refl _) pre W _ none hI (below_grown ((Below.refl _ W).alloc (Nat.le_refl _) _)) (fun r e => by cases e)) ⟨W.heap.size, hlt, by simp, rfl, by simp [go_sem], by simp [go_sem]⟩
  case body =>
    rintro l' pre x a' W hl ⟨r, hr'⟩ ⟨i1, ⟨i2, i3⟩, ⟨i4, i5⟩, i6⟩ ⟨b, h1, h2, rfl, h3, h4⟩ hlt
    have HC := Lib.hid (key_Clean k)
    have HN := Lib.hid i1
    clear hb2 hb3 hI0 hr i1
    have hmx : Tryd.prog.follows .mixedOrders = true := by kernel_rfl
    have hz1 : w.heap.size + 1 < W.heap.size := by
      obtain ⟨o, ho, -⟩ := cells_of_cell i4
      exact (Array.getElem?_eq_some_iff.1 ho).1
    have HI := Lib.hid (show HasI w k pre W from ⟨HN.out, ⟨i2, i3⟩, ⟨i4, i5⟩, i6⟩)
    by_cases hx : x = k.cl
    · have HX := Lib.hid hx
      rw [← hx] at HC
      clear hx
      gi_wp2
      gi_region_with_o (refine ⟨trivial, ?_⟩; gi_at_call 16; refine (CallsIn.inRound l' (callsIn_wide.2 (HC.out _))).mono ?_; rintro e w1 ⟨rfl, hb⟩; have d3 := (hb.cell (p := ⟨b, 0, none⟩) h2).trans h3; have d4 := (hb.cell (p := ⟨b, 1, none⟩) h2).trans h4; have d5 := (hb.cell (p := ⟨w.heap.size + 1, 0, none⟩) hz1).trans i4; have d6 := (hb.frozen (p := ⟨w.heap.size + 1, 0, none⟩) hz1).trans i5)
      all_goals gi_wp2
      all_goals
        have hbw : Below W.heap.size W w1 := ((Below.refl _ W).drew).trans hb
        exact ⟨(KeepsFrom.of_grownBy (below_grown hbw) (fun j e => by cases e)).trans ((KeepsOthers.setCell _ _ _).from _), rfl, List.mem_append.2 (.inr (by rw [List.mem_singleton]; exact HX.out.symm)), World.cell?_setCell_same' w1 _ _ (by rw [d5]; rfl), (i6.trans (hbw.mono i6.size)).setCell (p := ⟨w.heap.size + 1, 0, none⟩) (Nat.le_succ _) _⟩
    · have HX := Lib.hid hx
      have hne := key_ne hx
      clear hx
      generalize hq : k.cl = q at *
      have HQ := Lib.hid hq
      clear hq
      rcases hne with e1 | ⟨e1, e2⟩
      · gi_wp2
        gi_region_with_o (refine ⟨trivial, ?_⟩; gi_at_call 16; refine (CallsIn.inRound l' (callsIn_wide.2 (HC.out _))).mono ?_; rintro e w1 ⟨rfl, hb⟩; have d3 := (hb.cell (p := ⟨b, 0, none⟩) h2).trans h3; have d4 := (hb.cell (p := ⟨b, 1, none⟩) h2).trans h4; have d5 := (hb.cell (p := ⟨w.heap.size + 1, 0, none⟩) hz1).trans i4; have d6 := (hb.frozen (p := ⟨w.heap.size + 1, 0, none⟩) hz1).trans i5)
        all_goals gi_wp2
        all_goals
          have hbw : Below W.heap.size W w1 := ((Below.refl _ W).drew).trans hb
          have hI := hasI_own w k w.heap.size (Nat.le_refl _) pre W w1 none HI.out (below_grown hbw) (fun r e => by cases e)
          refine ⟨KeepsFrom.of_grownBy (below_grown hbw) (fun j e => by cases e), Kept.below hbw, fun y hy => ?_, hI.2⟩
          rcases List.mem_append.1 hy with hy | hy
          · exact hI.1 y hy
          · rw [List.mem_singleton] at hy; rw [hy, HQ.out]; exact HX.out
      · gi_wp2
        gi_region_with_o (refine ⟨trivial, ?_⟩; gi_at_call 16; refine (CallsIn.inRound l' (callsIn_wide.2 (HC.out _))).mono ?_; rintro e w1 ⟨rfl, hb⟩; have d3 := (hb.cell (p := ⟨b, 0, none⟩) h2).trans h3; have d4 := (hb.cell (p := ⟨b, 1, none⟩) h2).trans h4; have d5 := (hb.cell (p := ⟨w.heap.size + 1, 0, none⟩) hz1).trans i4; have d6 := (hb.frozen (p := ⟨w.heap.size + 1, 0, none⟩) hz1).trans i5)
        all_goals gi_wp2
        all_goals
          have hbw : Below W.heap.size W w1 := ((Below.refl _ W).drew).trans hb
          have hI := hasI_own w k w.heap.size (Nat.le_refl _) pre W w1 none HI.out (below_grown hbw) (fun r e => by cases e)
          refine ⟨KeepsFrom.of_grownBy (below_grown hbw) (fun j e => by cases e), Kept.below hbw, fun y hy => ?_, hI.2⟩
          rcases List.mem_append.1 hy with hy | hy
          · exact hI.1 y hy
          · rw [List.mem_singleton] at hy; rw [hy, HQ.out]; exact HX.out
  case done =>
    rintro D ys W hD hys ⟨h1, ⟨h2, h3⟩, ⟨h4, h5⟩, h6⟩ hK
    have hany : (l.any fun x => decide (x.cl = k.cl)) = false := by
      rw [List.any_eq_false]
      intro x hx
      simpa using h1 x.cl (by rw [hys, List.append_nil]; exact List.mem_map.2 ⟨x, hx, rfl⟩)
    have HAN := Lib.hid hany
    clear hany h1 hb2 hb3 hI0 hr hys
    gi_wp2
    have hK' := (KeepsOthers.setCell W ⟨w.heap.size + 1, 0, none⟩ (.bool false)).same D _ hK rfl
    have hB' := h6.setCell (p := ⟨w.heap.size + 1, 0, none⟩) (Nat.le_succ _) (.bool false)
    refine ⟨by simp, .inl ⟨_, _, rfl, run_takeDeferred hK', ?_⟩⟩
    have hc5 := cell_kept (World.cell?_setCell_same' W ⟨w.heap.size + 1, 0, none⟩ (.bool false) (by rw [h4]; rfl)) (grownBy_putObj' _ D (.deferred none)) (fun r e => by cases e; exact ⟨_, hK', rfl⟩)
    refine ⟨.bool false, ?_, by rw [HAN.out], hB'.trans (belowK_b (w := w) (Nat.le_refl _) _ D _ _ (by omega) hK' rfl rfl)⟩
    simp [results, Tryd.f10, go_sem, hc5]
  case stop =>
    rintro D c pre W hD hpre ⟨rfl, hin, h3, h6⟩ hK
    have hany : (l.any fun x => decide (x.cl = k.cl)) = true := by
      rw [List.any_eq_true]
      have := hpre.subset hin
      rw [List.append_nil] at this
      obtain ⟨x, hx, e⟩ := List.mem_map.1 this
      exact ⟨x, hx, by simpa using e⟩
    have HAN := Lib.hid hany
    clear hany hin hpre hb2 hb3 hI0 hr
    gi_wp2
    refine ⟨by simp, .inl ⟨_, _, rfl, run_takeDeferred hK, ?_⟩⟩
    have hc5 := cell_kept h3 (grownBy_putObj' _ D (.deferred none)) (fun r e => by cases e; exact ⟨_, hK, rfl⟩)
    refine ⟨.bool true, ?_, by rw [HAN.out], h6.trans (belowK_b (w := w) (Nat.le_refl _) _ D _ _ (by omega) hK rfl rfl)⟩
    simp [results, Tryd.f10, go_sem, hc5]
end Go.Proofs.YtoclpodjigfmgaaDoor
