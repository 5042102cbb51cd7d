/- The law of layer 35 that says that the order of counts is no matter, walked. -/
import Derived.Test.YtphicgdllhmgdaaGaugeE
import Derived.Test.YtphicgdllhmgdaaAlloc
namespace Go.Proofs.Ytphicgdllhmgdaa
open Go.RowKit

/-- A gauge at p has these counts. -/
def GC (w : World) (p a b : Nat) : Prop := w.heap[p]? = some (.cells #[.complex .f64 (FL a) (FL b)] 74)
theorem GC.cell {w : World} {p a b : Nat} (h : GC w p a b) : w.cell? ⟨p, 0, none⟩ = some (.complex .f64 (FL a) (FL b)) := by
  have := blk_cell h 0
  simpa using this
theorem GC.lt {w : World} {p a b : Nat} (h : GC w p a b) : p < w.heap.size := blk_lt h
theorem GC.free {w : World} {p a b : Nat} (h : GC w p a b) : w.frozen? ⟨p, 0, none⟩ = false := blk_free h 0
theorem GC.below {W w : World} {p a b : Nat} (h : GC W p a b) (hB : Below W.heap.size W w) : GC w p a b := by
  unfold GC; rw [hB.block _ h.lt]; exact h
theorem GC.set {w : World} {p a b : Nat} (h : GC w p a b) (c d : Nat) : GC (w.setCell ⟨p, 0, none⟩ (.complex .f64 (FL c) (FL d))) p c d := blk_set1 h
theorem GC.set_ne {w : World} {p a b q : Nat} (h : GC w q a b) (hne : p ≠ q) (v : Value) : GC (w.setCell ⟨p, 0, none⟩ v) q a b := by
  unfold GC; exact (Below.heap_setCell _ _ _ _ (by dsimp only; omega)).trans h

def OrdRel (l : List St) (N : Nat) (w : World) (vi : Value) (wx : World) : Prop :=
  ∃ (k a b c d : Nat), k ≤ l.length ∧ vi = .int .i64 k ∧ a ≤ 4503599627370496 ∧ b ≤ 4503599627370496 ∧ c ≤ 4503599627370496 ∧ d ≤ 4503599627370496 ∧
    GC wx N a b ∧ GC wx (N + 1) c d ∧ GC wx (N + 1 + 1) a b ∧ GC wx (N + 1 + 1 + 1) c d ∧ Below N w wx

set_option maxRecDepth 100000 in
set_option maxHeartbeats 4000000 in
theorem law_gaugeOrder (l : List St) (A : Option Addr) (c : Nat) (m : List St) (B : Option Addr) (d : Nat) (w : World) (hm : l.length ≤ 9223372036854775807) (hr : TRow w A l) (hm2 : m.length ≤ 9223372036854775807) (hr2 : TRow w B m) :
    Calls Try.prog 13 #[.slice A l.length c, .slice B m.length d] w fun e w' => e = .returned (.bool true) ∧ Below w.heap.size w w' := by
  have HL := Lib.hid law35_lives
  go_enter Try.func13, Try.ntmps13
  go_wp2_with (go_at_call 44; (with_reducible refine (gauge_new _).mono ?_); rintro e w1 ⟨rfl, rfl⟩)
  go_loopw [9] (fun vi wx => OrdRel l w.heap.size w vi wx) (fun vi _ => l.length - (intOf vi).toNat)
  case atStart =>
    refine ⟨0, 0, 0, 0, 0, Nat.zero_le _, rfl, by omega, by omega, by omega, by omega, ?_, ?_, ?_, ?_, (by repeat (first | (with_reducible assumption) | (with_reducible exact Below.refl _ _) | (with_reducible refine Below.alloc ?_ (by first | omega | (simp; omega) | (simp; done) | (dsimp only; omega)) _) | (with_reducible refine Below.setCell ?_ (by first | omega | (simp; omega) | (simp; done) | (dsimp only; omega)) _) | (with_reducible refine Below.drew ?_) | (with_reducible refine Below.trans ?_ (Below.mono (by assumption) (by first | omega | (simp; omega) | (simp; done) | (dsimp only; omega))))))⟩
    all_goals
      unfold GC
      rw [show FL 0 = 0 from if_pos rfl]
    · exact (al_old _ _ (by simp only [al_size]; omega)).trans (al3_0 _ _ _ _)
    · exact (al_old _ _ (by simp only [al_size]; omega)).trans (al3_1 _ _ _ _)
    · exact (al_old _ _ (by simp only [al_size]; omega)).trans (al3_2 _ _ _ _)
    · exact al_new _ _ (by simp only [al_size])
  case round =>
    obtain ⟨k, a, b, c, d, hk, rfl, ha, hb, hc, hd, G0, G1, G2, G3, hB⟩ := hrel
    by_cases hlt : k < l.length
    · obtain ⟨bb, oo, rfl, e0, e1, e2, hbb⟩ := hr.cell hlt
      generalize l[k] = x at *
      have y0 := (hB.cell (p := ⟨bb, oo + k * 3, none⟩) hbb).trans e0
      have y1 := (hB.cell (p := ⟨bb, oo + k * 3 + 1, none⟩) hbb).trans e1
      have zb : bb < wr.heap.size := Nat.lt_trans hbb G0.lt
      clear e0 e1 e2
      have ca := capN_le (a + partN x.e)
      have cb := capN_le (b + partN x.k)
      have HT : Hid (∀ p w, GC w p a b → Calls Try.prog 47 #[.pointer (some ⟨p, 0, none⟩), .int .i64 x.e, .int .i64 x.k] w fun e w' => e = .returned (.tuple #[]) ∧ w' = w.setCell ⟨p, 0, none⟩ (.complex .f64 (FL (capN (a + partN x.e))) (FL (capN (b + partN x.k))))) :=
        Lib.hid (fun p w h => gauge_add p a b x.e x.k ha hb w h.cell h.free)
      generalize capN (a + partN x.e) = a1 at *
      generalize capN (b + partN x.k) = b1 at *
      go_wp2
      refine region_seqg (W := wr) [_, _, _, _, _, _, _, _, _, _, _] [_] rfl (by kernel_rfl) (by kernel_rfl) (by repeat (first | (with_reducible assumption) | (with_reducible exact Below.refl _ _) | (with_reducible refine Below.alloc ?_ (by first | omega | (simp; omega) | (simp; done) | (dsimp only; omega)) _) | (with_reducible refine Below.setCell ?_ (by first | omega | (simp; omega) | (simp; done) | (dsimp only; omega)) _) | (with_reducible refine Below.drew ?_) | (with_reducible refine Below.trans ?_ (Below.mono (by assumption) (by first | omega | (simp; omega) | (simp; done) | (dsimp only; omega)))))) (fun fin hfin => ?_)
      iterate 11
        first
          | (refine SeqG.yes (v := ?_) (A' := ?_) rfl (fun γ => by rfl) ?_ ?_ ?_
             rotate_left 2
             · intro γ w' K hS hK
               obtain ⟨hc, hf⟩ := bcell hS
               have hz := hS.size
               go_simp
               first
                 | exact hK.out _ (Below.refl _ _)
                 | trace_state
             · intro γ; simp only [Act.put, List.setIfInBounds_toArray, List.set_cons_zero, List.set_cons_succ]; exact rfl)
          | (refine SeqG.no (A' := ?_) rfl (fun γ => by rfl) ?_ ?_
             rotate_left
             · intro γ; simp only [Act.put, List.setIfInBounds_toArray, List.set_cons_zero, List.set_cons_succ]; exact rfl)
      refine SeqG.nil (hfin.out _ _ ?_)
      clear hfin fin
      intro γ lo hi w1 hB1 hF hD
      clear hD
      refine TailL.cons (fun K hK => ?_)
      go_simp
      go_at_call 47
      with_reducible refine (HT.out _ _ (G0.below hB1)).mono ?_
      rintro e w2 ⟨rfl, rfl⟩
      refine hK.out _ _ ?_
      clear hK K
      refine TailL.nil ?_
      generalize hX : w1.setCell ⟨w.heap.size, 0, none⟩ (.complex .f64 (FL a1) (FL b1)) = X
      have zz := G0.lt
      have HX : Below w.heap.size wr X := by rw [← hX]; exact (by repeat (first | (with_reducible assumption) | (with_reducible exact Below.refl _ _) | (with_reducible refine Below.alloc ?_ (by first | omega | (simp; omega) | (simp; done) | (dsimp only; omega)) _) | (with_reducible refine Below.setCell ?_ (by first | omega | (simp; omega) | (simp; done) | (dsimp only; omega)) _) | (with_reducible refine Below.drew ?_) | (with_reducible refine Below.trans ?_ (Below.mono (by assumption) (by first | omega | (simp; omega) | (simp; done) | (dsimp only; omega))))))
      replace G0 : GC X (w.heap.size) a1 b1 := by rw [← hX]; exact (G0.below hB1).set a1 b1
      replace G1 := (G1.below hB1).set_ne (p := w.heap.size) (by omega) (.complex .f64 (FL a1) (FL b1))
      rw [hX] at G1
      replace G2 := (G2.below hB1).set_ne (p := w.heap.size) (by omega) (.complex .f64 (FL a1) (FL b1))
      rw [hX] at G2
      replace G3 := (G3.below hB1).set_ne (p := w.heap.size) (by omega) (.complex .f64 (FL a1) (FL b1))
      rw [hX] at G3
      replace y0 := (HX.cell (p := ⟨bb, oo + k * 3, none⟩) hbb).trans y0
      replace y1 := (HX.cell (p := ⟨bb, oo + k * 3 + 1, none⟩) hbb).trans y1
      replace zb : bb < X.heap.size := Nat.lt_trans hbb G0.lt
      replace hB := hB.trans HX
      clear hX hF HX hB1 zz γ lo hi w1
      go_wp2
      refine region_seqg (W := X) [_, _, _, _, _, _, _, _, _, _, _] [_] rfl (by kernel_rfl) (by kernel_rfl) (by repeat (first | (with_reducible assumption) | (with_reducible exact Below.refl _ _) | (with_reducible refine Below.alloc ?_ (by first | omega | (simp; omega) | (simp; done) | (dsimp only; omega)) _) | (with_reducible refine Below.setCell ?_ (by first | omega | (simp; omega) | (simp; done) | (dsimp only; omega)) _) | (with_reducible refine Below.drew ?_) | (with_reducible refine Below.trans ?_ (Below.mono (by assumption) (by first | omega | (simp; omega) | (simp; done) | (dsimp only; omega)))))) (fun fin hfin => ?_)
      iterate 11
        first
          | (refine SeqG.yes (v := ?_) (A' := ?_) rfl (fun γ => by rfl) ?_ ?_ ?_
             rotate_left 2
             · intro γ w' K hS hK
               obtain ⟨hc, hf⟩ := bcell hS
               have hz := hS.size
               go_simp
               first
                 | exact hK.out _ (Below.refl _ _)
                 | trace_state
             · intro γ; simp only [Act.put, List.setIfInBounds_toArray, List.set_cons_zero, List.set_cons_succ]; exact rfl)
          | (refine SeqG.no (A' := ?_) rfl (fun γ => by rfl) ?_ ?_
             rotate_left
             · intro γ; simp only [Act.put, List.setIfInBounds_toArray, List.set_cons_zero, List.set_cons_succ]; exact rfl)
      refine SeqG.nil (hfin.out _ _ ?_)
      clear hfin fin
      intro γ lo hi w1 hB1 hF hD
      clear hD
      refine TailL.cons (fun K hK => ?_)
      go_simp
      go_at_call 47
      with_reducible refine (HT.out _ _ (G2.below hB1)).mono ?_
      rintro e w2 ⟨rfl, rfl⟩
      refine hK.out _ _ ?_
      clear hK K
      refine TailL.nil ?_
      generalize hX : w1.setCell ⟨w.heap.size + 1 + 1, 0, none⟩ (.complex .f64 (FL a1) (FL b1)) = Y
      have zz := G0.lt
      have HX : Below w.heap.size X Y := by rw [← hX]; exact (by repeat (first | (with_reducible assumption) | (with_reducible exact Below.refl _ _) | (with_reducible refine Below.alloc ?_ (by first | omega | (simp; omega) | (simp; done) | (dsimp only; omega)) _) | (with_reducible refine Below.setCell ?_ (by first | omega | (simp; omega) | (simp; done) | (dsimp only; omega)) _) | (with_reducible refine Below.drew ?_) | (with_reducible refine Below.trans ?_ (Below.mono (by assumption) (by first | omega | (simp; omega) | (simp; done) | (dsimp only; omega))))))
      replace G0 := (G0.below hB1).set_ne (p := w.heap.size + 1 + 1) (by omega) (.complex .f64 (FL a1) (FL b1))
      rw [hX] at G0
      replace G1 := (G1.below hB1).set_ne (p := w.heap.size + 1 + 1) (by omega) (.complex .f64 (FL a1) (FL b1))
      rw [hX] at G1
      replace G2 : GC Y (w.heap.size + 1 + 1) a1 b1 := by rw [← hX]; exact (G2.below hB1).set a1 b1
      replace G3 := (G3.below hB1).set_ne (p := w.heap.size + 1 + 1) (by omega) (.complex .f64 (FL a1) (FL b1))
      rw [hX] at G3
      replace y0 := (HX.cell (p := ⟨bb, oo + k * 3, none⟩) hbb).trans y0
      replace y1 := (HX.cell (p := ⟨bb, oo + k * 3 + 1, none⟩) hbb).trans y1
      replace zb : bb < Y.heap.size := Nat.lt_trans hbb G0.lt
      replace hB := hB.trans HX
      clear hX hF HX hB1 zz γ lo hi w1
      go_wp2
      go_roundw
      case rel => exact ⟨k + 1, a1, b1, c, d, by omega, by go_num, ca, cb, hc, hd, G0, G1, G2, G3, hB⟩
      case measure => simp [intOf]; omega
    · go_wp2
      go_loopw [10] (fun vi wx => OrdRel m w.heap.size w vi wx) (fun vi _ => m.length - (intOf vi).toNat)
      case atStart =>
        exact ⟨0, a, b, c, d, Nat.zero_le _, rfl, ha, hb, hc, hd, G0, G1, G2, G3, hB⟩
      case round =>
        clear G0 G1 G2 G3 hB ha hb hc hd
        obtain ⟨k, a, b, c, d, hk, rfl, ha, hb, hc, hd, G0, G1, G2, G3, hB⟩ := hrel
        by_cases hlt : k < m.length
        · obtain ⟨bb, oo, rfl, e0, e1, e2, hbb⟩ := hr2.cell hlt
          generalize m[k] = x at *
          have y0 := (hB.cell (p := ⟨bb, oo + k * 3, none⟩) hbb).trans e0
          have y1 := (hB.cell (p := ⟨bb, oo + k * 3 + 1, none⟩) hbb).trans e1
          have zb : bb < wr.heap.size := Nat.lt_trans hbb G0.lt
          clear e0 e1 e2
          have ca := capN_le (c + partN x.e)
          have cb := capN_le (d + partN x.k)
          have HT : Hid (∀ p w, GC w p c d → Calls Try.prog 47 #[.pointer (some ⟨p, 0, none⟩), .int .i64 x.e, .int .i64 x.k] w fun e w' => e = .returned (.tuple #[]) ∧ w' = w.setCell ⟨p, 0, none⟩ (.complex .f64 (FL (capN (c + partN x.e))) (FL (capN (d + partN x.k))))) :=
            Lib.hid (fun p w h => gauge_add p c d x.e x.k hc hd w h.cell h.free)
          generalize capN (c + partN x.e) = a1 at *
          generalize capN (d + partN x.k) = b1 at *
          go_wp2
          refine region_seqg (W := wr) [_, _, _, _, _, _, _, _, _, _, _] [_] rfl (by kernel_rfl) (by kernel_rfl) (by repeat (first | (with_reducible assumption) | (with_reducible exact Below.refl _ _) | (with_reducible refine Below.alloc ?_ (by first | omega | (simp; omega) | (simp; done) | (dsimp only; omega)) _) | (with_reducible refine Below.setCell ?_ (by first | omega | (simp; omega) | (simp; done) | (dsimp only; omega)) _) | (with_reducible refine Below.drew ?_) | (with_reducible refine Below.trans ?_ (Below.mono (by assumption) (by first | omega | (simp; omega) | (simp; done) | (dsimp only; omega)))))) (fun fin hfin => ?_)
          iterate 11
            first
              | (refine SeqG.yes (v := ?_) (A' := ?_) rfl (fun γ => by rfl) ?_ ?_ ?_
                 rotate_left 2
                 · intro γ w' K hS hK
                   obtain ⟨hc, hf⟩ := bcell hS
                   have hz := hS.size
                   go_simp
                   first
                     | exact hK.out _ (Below.refl _ _)
                     | trace_state
                 · intro γ; simp only [Act.put, List.setIfInBounds_toArray, List.set_cons_zero, List.set_cons_succ]; exact rfl)
              | (refine SeqG.no (A' := ?_) rfl (fun γ => by rfl) ?_ ?_
                 rotate_left
                 · intro γ; simp only [Act.put, List.setIfInBounds_toArray, List.set_cons_zero, List.set_cons_succ]; exact rfl)
          refine SeqG.nil (hfin.out _ _ ?_)
          clear hfin fin
          intro γ lo hi w1 hB1 hF hD
          clear hD
          refine TailL.cons (fun K hK => ?_)
          go_simp
          go_at_call 47
          with_reducible refine (HT.out _ _ (G1.below hB1)).mono ?_
          rintro e w2 ⟨rfl, rfl⟩
          refine hK.out _ _ ?_
          clear hK K
          refine TailL.nil ?_
          generalize hX : w1.setCell ⟨w.heap.size + 1, 0, none⟩ (.complex .f64 (FL a1) (FL b1)) = X
          have zz := G0.lt
          have HX : Below w.heap.size wr X := by rw [← hX]; exact (by repeat (first | (with_reducible assumption) | (with_reducible exact Below.refl _ _) | (with_reducible refine Below.alloc ?_ (by first | omega | (simp; omega) | (simp; done) | (dsimp only; omega)) _) | (with_reducible refine Below.setCell ?_ (by first | omega | (simp; omega) | (simp; done) | (dsimp only; omega)) _) | (with_reducible refine Below.drew ?_) | (with_reducible refine Below.trans ?_ (Below.mono (by assumption) (by first | omega | (simp; omega) | (simp; done) | (dsimp only; omega))))))
          replace G0 := (G0.below hB1).set_ne (p := w.heap.size + 1) (by omega) (.complex .f64 (FL a1) (FL b1))
          rw [hX] at G0
          replace G1 : GC X (w.heap.size + 1) a1 b1 := by rw [← hX]; exact (G1.below hB1).set a1 b1
          replace G2 := (G2.below hB1).set_ne (p := w.heap.size + 1) (by omega) (.complex .f64 (FL a1) (FL b1))
          rw [hX] at G2
          replace G3 := (G3.below hB1).set_ne (p := w.heap.size + 1) (by omega) (.complex .f64 (FL a1) (FL b1))
          rw [hX] at G3
          replace y0 := (HX.cell (p := ⟨bb, oo + k * 3, none⟩) hbb).trans y0
          replace y1 := (HX.cell (p := ⟨bb, oo + k * 3 + 1, none⟩) hbb).trans y1
          replace zb : bb < X.heap.size := Nat.lt_trans hbb G0.lt
          replace hB := hB.trans HX
          clear hX hF HX hB1 zz γ lo hi w1
          go_wp2
          refine region_seqg (W := X) [_, _, _, _, _, _, _, _, _, _, _] [_] rfl (by kernel_rfl) (by kernel_rfl) (by repeat (first | (with_reducible assumption) | (with_reducible exact Below.refl _ _) | (with_reducible refine Below.alloc ?_ (by first | omega | (simp; omega) | (simp; done) | (dsimp only; omega)) _) | (with_reducible refine Below.setCell ?_ (by first | omega | (simp; omega) | (simp; done) | (dsimp only; omega)) _) | (with_reducible refine Below.drew ?_) | (with_reducible refine Below.trans ?_ (Below.mono (by assumption) (by first | omega | (simp; omega) | (simp; done) | (dsimp only; omega)))))) (fun fin hfin => ?_)
          iterate 11
            first
              | (refine SeqG.yes (v := ?_) (A' := ?_) rfl (fun γ => by rfl) ?_ ?_ ?_
                 rotate_left 2
                 · intro γ w' K hS hK
                   obtain ⟨hc, hf⟩ := bcell hS
                   have hz := hS.size
                   go_simp
                   first
                     | exact hK.out _ (Below.refl _ _)
                     | trace_state
                 · intro γ; simp only [Act.put, List.setIfInBounds_toArray, List.set_cons_zero, List.set_cons_succ]; exact rfl)
              | (refine SeqG.no (A' := ?_) rfl (fun γ => by rfl) ?_ ?_
                 rotate_left
                 · intro γ; simp only [Act.put, List.setIfInBounds_toArray, List.set_cons_zero, List.set_cons_succ]; exact rfl)
          refine SeqG.nil (hfin.out _ _ ?_)
          clear hfin fin
          intro γ lo hi w1 hB1 hF hD
          clear hD
          refine TailL.cons (fun K hK => ?_)
          go_simp
          go_at_call 47
          with_reducible refine (HT.out _ _ (G3.below hB1)).mono ?_
          rintro e w2 ⟨rfl, rfl⟩
          refine hK.out _ _ ?_
          clear hK K
          refine TailL.nil ?_
          generalize hX : w1.setCell ⟨w.heap.size + 1 + 1 + 1, 0, none⟩ (.complex .f64 (FL a1) (FL b1)) = Y
          have zz := G0.lt
          have HX : Below w.heap.size X Y := by rw [← hX]; exact (by repeat (first | (with_reducible assumption) | (with_reducible exact Below.refl _ _) | (with_reducible refine Below.alloc ?_ (by first | omega | (simp; omega) | (simp; done) | (dsimp only; omega)) _) | (with_reducible refine Below.setCell ?_ (by first | omega | (simp; omega) | (simp; done) | (dsimp only; omega)) _) | (with_reducible refine Below.drew ?_) | (with_reducible refine Below.trans ?_ (Below.mono (by assumption) (by first | omega | (simp; omega) | (simp; done) | (dsimp only; omega))))))
          replace G0 := (G0.below hB1).set_ne (p := w.heap.size + 1 + 1 + 1) (by omega) (.complex .f64 (FL a1) (FL b1))
          rw [hX] at G0
          replace G1 := (G1.below hB1).set_ne (p := w.heap.size + 1 + 1 + 1) (by omega) (.complex .f64 (FL a1) (FL b1))
          rw [hX] at G1
          replace G2 := (G2.below hB1).set_ne (p := w.heap.size + 1 + 1 + 1) (by omega) (.complex .f64 (FL a1) (FL b1))
          rw [hX] at G2
          replace G3 : GC Y (w.heap.size + 1 + 1 + 1) a1 b1 := by rw [← hX]; exact (G3.below hB1).set a1 b1
          replace y0 := (HX.cell (p := ⟨bb, oo + k * 3, none⟩) hbb).trans y0
          replace y1 := (HX.cell (p := ⟨bb, oo + k * 3 + 1, none⟩) hbb).trans y1
          replace zb : bb < Y.heap.size := Nat.lt_trans hbb G0.lt
          replace hB := hB.trans HX
          clear hX hF HX hB1 zz γ lo hi w1
          go_wp2
          go_roundw
          case rel => exact ⟨k + 1, a, b, a1, b1, by omega, by go_num, ha, hb, ca, cb, G0, G1, G2, G3, hB⟩
          case measure => simp [intOf]; omega
        · have ca := capN_le (a + c)
          have cb := capN_le (b + d)
          have H1 := Lib.hid (gauge_join w.heap.size (w.heap.size + 1) a b c d ha hb hc hd wr G0.cell G1.cell G0.free)
          have h2 := fun (w' : World) (g : GC w' (w.heap.size + 1 + 1 + 1) c d) (g' : GC w' (w.heap.size + 1 + 1) a b) => gauge_join (w.heap.size + 1 + 1 + 1) (w.heap.size + 1 + 1) c d a b hc hd ha hb w' g.cell g'.cell g.free
          rw [Nat.add_comm c a, Nat.add_comm d b] at h2
          have H2 := Lib.hid h2; clear h2
          generalize capN (a + c) = a1 at *
          generalize capN (b + d) = b1 at *
          go_wp2_with (go_at_call 45; (with_reducible refine (H1.out).mono ?_); rintro e w2 ⟨rfl, rfl⟩)
          generalize hX : wr.setCell ⟨w.heap.size, 0, none⟩ (.complex .f64 (FL a1) (FL b1)) = X
          have zz := G0.lt
          have HX : Below w.heap.size wr X := by rw [← hX]; exact (by repeat (first | (with_reducible assumption) | (with_reducible exact Below.refl _ _) | (with_reducible refine Below.alloc ?_ (by first | omega | (simp; omega) | (simp; done) | (dsimp only; omega)) _) | (with_reducible refine Below.setCell ?_ (by first | omega | (simp; omega) | (simp; done) | (dsimp only; omega)) _) | (with_reducible refine Below.drew ?_) | (with_reducible refine Below.trans ?_ (Below.mono (by assumption) (by first | omega | (simp; omega) | (simp; done) | (dsimp only; omega))))))
          replace G0 : GC X (w.heap.size) a1 b1 := by rw [← hX]; exact G0.set a1 b1
          replace G2 := G2.set_ne (p := w.heap.size) (by omega) (.complex .f64 (FL a1) (FL b1))
          replace G3 := G3.set_ne (p := w.heap.size) (by omega) (.complex .f64 (FL a1) (FL b1))
          rw [hX] at G2 G3
          replace H2 := Lib.hid (H2.out X G3 G2)
          replace hB := hB.trans HX
          clear hX HX zz H1
          go_wp2_with (go_at_call 45; (with_reducible refine (H2.out).mono ?_); rintro e w2 ⟨rfl, rfl⟩)
          generalize hX : X.setCell ⟨w.heap.size + 1 + 1 + 1, 0, none⟩ (.complex .f64 (FL a1) (FL b1)) = Y
          have zz := G0.lt
          have HX : Below w.heap.size X Y := by rw [← hX]; exact (by repeat (first | (with_reducible assumption) | (with_reducible exact Below.refl _ _) | (with_reducible refine Below.alloc ?_ (by first | omega | (simp; omega) | (simp; done) | (dsimp only; omega)) _) | (with_reducible refine Below.setCell ?_ (by first | omega | (simp; omega) | (simp; done) | (dsimp only; omega)) _) | (with_reducible refine Below.drew ?_) | (with_reducible refine Below.trans ?_ (Below.mono (by assumption) (by first | omega | (simp; omega) | (simp; done) | (dsimp only; omega))))))
          replace G0 := G0.set_ne (p := w.heap.size + 1 + 1 + 1) (by omega) (.complex .f64 (FL a1) (FL b1))
          rw [hX] at G0
          replace G3 : GC Y (w.heap.size + 1 + 1 + 1) a1 b1 := by rw [← hX]; exact G3.set a1 b1
          replace hB := hB.trans HX
          clear hX HX zz H2
          have HP : Hid (∀ p (w : World), GC w p a1 b1 → Calls Try.prog 49 #[.pointer (some ⟨p, 0, none⟩)] w fun e w' => e = .returned (.tuple #[.int .i64 a1, .int .i64 b1]) ∧ Below w.heap.size w w') := Lib.hid (fun p w h => gauge_parts' p a1 b1 ca cb w h.cell)
          have HG : Hid (∀ p (w : World), GC w p a1 b1 → Calls Try.prog 50 #[.pointer (some ⟨p, 0, none⟩)] w fun e w' => e = .returned (.int .i64 (shareN a1 b1)) ∧ Below w.heap.size w w') := Lib.hid (fun p w h => gauge_share' p a1 b1 ca cb w h.cell)
          have hs := shareN_le a1 b1
          generalize shareN a1 b1 = sh at *
          have hs2 : (sh : Int) ≤ 1000 := by omega
          go_wp2_with (go_at_call 49; (with_reducible refine (HP.out _ _ G0).mono ?_); rintro e w2 ⟨rfl, hb2⟩)
          replace G3 := G3.below hb2
          replace G0 := G0.below hb2
          replace hB := hB.trans (hb2.mono (by have := G0.lt; have := hB.size; omega))
          clear hb2
          go_wp2_with (go_at_call 49; (with_reducible refine (HP.out _ _ G3).mono ?_); rintro e w3 ⟨rfl, hb2⟩)
          replace G0 := G0.below hb2
          replace hB := hB.trans (hb2.mono (by have := G0.lt; have := hB.size; omega))
          clear hb2 G3
          have hs0 : decide ((sh : Int) ≥ 0) = true := by simp
          have hs1 : decide ((sh : Int) ≤ 1000) = true := by simpa using hs2
          go_wp2_with (go_at_call 50; (with_reducible refine (HG.out _ _ G0).mono ?_); rintro e w4 ⟨rfl, hb4⟩)
          replace G0 := G0.below hb4
          replace hB := hB.trans (hb4.mono (by have := G0.lt; have := hB.size; omega))
          clear hb4
          go_wp2_with (go_at_call 50; (with_reducible refine (HG.out _ _ G0).mono ?_); rintro e w5 ⟨rfl, hb5⟩)
          replace G0 := G0.below hb5
          replace hB := hB.trans (hb5.mono (by have := G0.lt; have := hB.size; omega))
          clear hb5
          go_wp2_with (go_at_call 52; (with_reducible refine (HL.out _).mono ?_); rintro e w6 ⟨rfl, hb6⟩)
          replace hB := hB.trans (hb6.mono (by have := G0.lt; have := hB.size; omega))
          go_ret
          exact ⟨rfl, hB⟩
end Go.Proofs.Ytphicgdllhmgdaa
