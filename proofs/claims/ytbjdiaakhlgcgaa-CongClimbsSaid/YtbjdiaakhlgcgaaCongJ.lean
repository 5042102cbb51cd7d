/- The law of layer 5 that says that joining ends, walked. -/
import Derived.Test.YtbjdiaakhlgcgaaCRow
import Derived.Test.YtbjdiaakhlgcgaaCongG
namespace Go.Proofs.Ytbjdiaakhlgcgaa
open Go.RowKit

def JoinRel (l : List Cg) (N : Nat) (w : World) (vn vi : Value) (wx : World) : Prop :=
  ∃ (k n : Nat) (s : Cg), k ≤ l.length ∧ vi = .int .i64 k ∧ vn = .int .i64 n ∧ n + s.rank ≤ 65 ∧ s.std ∧ wx.heap[N]? = some (.cells #[.bool s.s, .int .i64 s.m, .int .i64 s.r] 45) ∧ Below N w wx

set_option maxRecDepth 100000 in
set_option maxHeartbeats 4000000 in
theorem law_congClimbs (l : List Cg) (A : Option Addr) (c : Nat) (w : World) (hm : l.length ≤ 9223372036854775807) (hr : CRow w A l) (hall : ∀ s ∈ l, s.ok) :
    Calls Try.prog 12 #[.slice A l.length c] w fun e w' => e = .returned (.bool true) ∧ Below w.heap.size w w' := by
  have HL := Lib.hid law05_lives
  have HJ : Hid (∀ (s x : Cg) (w' : World), s.ok → x.ok → Calls Try.prog 48 #[.agg #[.bool s.s, .int .i64 s.m, .int .i64 s.r], .agg #[.bool x.s, .int .i64 x.m, .int .i64 x.r]] w' fun e w'' => e = .returned (.agg #[.bool (s.join x).s, .int .i64 (s.join x).m, .int .i64 (s.join x).r]) ∧ Below w'.heap.size w' w'') := Lib.hid (fun s x w' h h' => cong_join s x h h' w')
  have HALL := Lib.hid hall
  clear hall
  go_enter Try.func12, Try.ntmps12
  go_wp2
  go_loopw [4, 5] (fun vn vi wx => JoinRel l w.heap.size w vn vi wx) (fun _ vi _ => l.length - (intOf vi).toNat)
  case atStart =>
    refine ⟨0, 0, Cg.zero, Nat.zero_le _, rfl, rfl, by decide, Cg.zero_std, ?_, (by repeat (first | (with_reducible assumption) | (with_reducible exact Below.refl _ _) | (with_reducible refine Below.alloc ?_ (by first | omega | (simp; omega) | (simp; done) | (dsimp only; omega)) _) | (with_reducible refine Below.setCell ?_ (by first | omega | (simp; omega) | (simp; done) | (dsimp only; omega)) _) | (with_reducible refine Below.drew ?_) | (with_reducible refine Below.trans ?_ (Below.mono (by assumption) (by first | omega | (simp; omega) | (simp; done) | (dsimp only; omega))))))⟩
    first
      | (show (w.heap.push _)[_]? = _; simp [Cg.zero]; done)
      | (refine blk_set3 (c0 := .bool false) (c1 := .int .i64 0) (c2 := .int .i64 0) ?_; show (w.heap.push _)[_]? = _; simp)
  case round =>
    obtain ⟨k, n, s, hk, rfl, rfl, hrk, hstd, hs, hB⟩ := hrel
    have q0_0 := blk_cell hs 0
    have q0_1 := blk_cell hs 1
    have q0_2 := blk_cell hs 2
    simp only [List.getElem?_toArray, List.getElem?_cons_zero, List.getElem?_cons_succ] at q0_0 q0_1 q0_2
    have f0 := blk_free hs
    have z0 := blk_lt hs
    have hzr : w.heap.size ≤ wr.heap.size := by omega
    have HS := Lib.hid hs
    have HST := Lib.hid hstd
    clear hs hstd
    by_cases hlt : k < l.length
    · have hxok := HALL.out l[k] (List.getElem_mem hlt)
      obtain ⟨bb, oo, rfl, e0, e1, e2, hbb⟩ := hr.cell hlt
      generalize l[k] = x at *
      have y0 := (hB.cell (p := ⟨bb, oo + k * 3, none⟩) hbb).trans e0
      have y1 := (hB.cell (p := ⟨bb, oo + k * 3 + 1, none⟩) hbb).trans e1
      have y2 := (hB.cell (p := ⟨bb, oo + k * 3 + 2, none⟩) hbb).trans e2
      have zb : bb < wr.heap.size := Nat.lt_trans hbb z0
      clear e0 e1 e2
      have H1 := Lib.hid (fun w => HJ.out s x w HST.out.1 hxok)
      have HF := Lib.hid (Cg.join_std HST.out hxok)
      have h2 := r5_leq s (s.join x) HST.out.1 HF.out.1.1
      rw [HF.out.2.1] at h2
      have h3 := r5_leq x (s.join x) hxok HF.out.1.1
      rw [HF.out.2.2.1] at h3
      have h4 := fun w => HJ.out x s w hxok HST.out.1
      rw [HF.out.2.2.2.1] at h4
      have H2 := Lib.hid h2
      have H3 := Lib.hid h3
      have H4 := Lib.hid h4
      clear h2 h3 h4 hxok
      generalize s.join x = t at *
      go_wp2
      refine region_seqg (W := wr) [_, _, _, _, _, _, _] [_] rfl (by kernel_rfl) (by kernel_rfl) (by repeat (first | (with_reducible assumption) | (with_reducible exact Below.refl _ _) | (with_reducible refine Below.alloc ?_ (by first | omega | (simp; omega) | (simp; done) | (dsimp only; omega)) _) | (with_reducible refine Below.setCell ?_ (by first | omega | (simp; omega) | (simp; done) | (dsimp only; omega)) _) | (with_reducible refine Below.drew ?_) | (with_reducible refine Below.trans ?_ (Below.mono (by assumption) (by first | omega | (simp; omega) | (simp; done) | (dsimp only; omega)))))) (fun fin hfin => ?_)
      iterate 6
        first
          | (refine SeqG.yes (v := ?_) (A' := ?_) rfl (fun γ => by rfl) ?_ ?_ ?_
             rotate_left 2
             · intro γ w' K hS hK
               obtain ⟨hc, hf⟩ := bcell hS
               have hz := hS.size
               go_simp
               first
                 | exact hK.out _ (Below.refl _ _)
                 | (go_at_call 48; (with_reducible refine (H1.out _).mono ?_); rintro e w1 ⟨rfl, hb1⟩; exact hK.out _ hb1)
                 | trace_state
             · intro γ; simp only [Act.put, List.setIfInBounds_toArray, List.set_cons_zero, List.set_cons_succ]; exact rfl)
          | (refine SeqG.no (A' := ?_) rfl (fun γ => by rfl) ?_ ?_
             rotate_left
             · intro γ; simp only [Act.put, List.setIfInBounds_toArray, List.set_cons_zero, List.set_cons_succ]; exact rfl)
      refine SeqG.make (k := 6) (A' := ?_) (fun g => .pointer (some ⟨g 0, 0, none⟩)) (RCell #[.bool false, .int .i64 0, .int .i64 0] 45) rfl (fun γ => by rfl) (RCell.stable _ _) ?_ ?_ ?_
      rotate_left
      · intro γ w' K hS _ hK
        have hm := RCell.made (#[.bool false, .int .i64 0, .int .i64 0]) (45) w'
        have HK := Lib.hid (hK.out (fun _ => w'.heap.size) (w'.alloc (.cells #[.bool false, .int .i64 0, .int .i64 0] 45)) ((Below.refl _ _).alloc (Nat.le_refl _) _) hm); clear hK hm
        go_simp
        exact HK.out
      · intro γ; simp only [Act.put, List.setIfInBounds_toArray, List.set_cons_zero, List.set_cons_succ]; exact rfl
      refine SeqG.nil (hfin.out _ _ ?_)
      clear hfin fin
      intro γ lo hi w1 hB1 hF hD
      replace hF := listF1 hF
      dsimp only at hF
      clear hD
      obtain ⟨_, _, y7, o7, p7, h7⟩ := hF
      have w7 : wr.heap.size ≤ γ 6 0 := by omega
      have x7 : γ 6 0 < w1.heap.size := by omega
      clear o7 p7 y7
      generalize γ 6 0 = b7 at *
      have g7 := blk_cell h7
      have f7 := blk_free h7
      have K7 := Lib.hid h7; clear h7
      refine TailL.cons (fun K hK => ?_)
      go_simp
      refine hK.out _ _ ?_
      clear hK K
      refine TailL.nil ?_
      generalize hX : ((w1.setCell ⟨b7, 0, none⟩ (.bool t.s)).setCell ⟨b7, 1, none⟩ (.int .i64 t.m)).setCell ⟨b7, 2, none⟩ (.int .i64 t.r) = X
      have HX : Below wr.heap.size wr X := by rw [← hX]; exact (by repeat (first | (with_reducible assumption) | (with_reducible exact Below.refl _ _) | (with_reducible refine Below.alloc ?_ (by first | omega | (simp; omega) | (simp; done) | (dsimp only; omega)) _) | (with_reducible refine Below.setCell ?_ (by first | omega | (simp; omega) | (simp; done) | (dsimp only; omega)) _) | (with_reducible refine Below.drew ?_) | (with_reducible refine Below.trans ?_ (Below.mono (by assumption) (by first | omega | (simp; omega) | (simp; done) | (dsimp only; omega))))))
      have q7 : X.heap[b7]? = some (.cells #[.bool t.s, .int .i64 t.m, .int .i64 t.r] 45) := by rw [← hX]; exact blk_set3 K7.out
      clear hX g7 f7 hB1
      have q7_0 := blk_cell q7 0
      have q7_1 := blk_cell q7 1
      have q7_2 := blk_cell q7 2
      simp only [List.getElem?_toArray, List.getElem?_cons_zero, List.getElem?_cons_succ] at q7_0 q7_1 q7_2
      have z7 := blk_lt q7
      have hne0 : b7 ≠ w.heap.size := by omega
      have q0 : X.heap[w.heap.size]? = some (.cells #[.bool s.s, .int .i64 s.m, .int .i64 s.r] 45) := by rw [HX.block _ z0]; exact HS.out
      have f0 := blk_free q0
      have HX2 : Below w.heap.size w X := hB.trans (HX.mono (by omega))
      replace y0 := (HX.cell (p := ⟨bb, oo + k * 3, none⟩) zb).trans y0
      replace y1 := (HX.cell (p := ⟨bb, oo + k * 3 + 1, none⟩) zb).trans y1
      replace y2 := (HX.cell (p := ⟨bb, oo + k * 3 + 2, none⟩) zb).trans y2
      replace zb := Nat.lt_of_lt_of_le zb HX.size
      replace z0 := blk_lt q0
      replace q0_0 := blk_cell q0 0
      replace q0_1 := blk_cell q0 1
      replace q0_2 := blk_cell q0 2
      simp only [List.getElem?_toArray, List.getElem?_cons_zero, List.getElem?_cons_succ] at q0_0 q0_1 q0_2
      have Q0 := Lib.hid q0
      clear q7 q0 HS HX hB K7 H1 w7 x7 hzr
      go_wp2
      refine region_seq (S := fun w' => Below X.heap.size X w') rfl (by kernel_rfl) (by kernel_rfl) (by repeat (first | (with_reducible assumption) | (with_reducible exact Below.refl _ _) | (with_reducible refine Below.alloc ?_ (by first | omega | (simp; omega) | (simp; done) | (dsimp only; omega)) _) | (with_reducible refine Below.setCell ?_ (by first | omega | (simp; omega) | (simp; done) | (dsimp only; omega)) _) | (with_reducible refine Below.drew ?_) | (with_reducible refine Below.trans ?_ (Below.mono (by assumption) (by first | omega | (simp; omega) | (simp; done) | (dsimp only; omega)))))) (fun fin hfin => ?_)
      iterate 23
        first
          | (refine SeqL.yes (v := ?_) (A' := ?_) rfl (by rfl) ?_ ?_ ?_
             rotate_left 2
             · intro w' K hS hK
               obtain ⟨hc, hf⟩ := bcell hS
               have hz := hS.size
               go_simp
               first
                 | exact hK.out _ hS
                 | (go_at_call 44; (with_reducible refine (H2.out _).mono ?_); rintro e w1 ⟨rfl, hb1⟩; exact hK.out _ (hS.trans (hb1.mono hz)))
                 | (go_at_call 44; (with_reducible refine (H3.out _).mono ?_); rintro e w1 ⟨rfl, hb1⟩; exact hK.out _ (hS.trans (hb1.mono hz)))
                 | (go_at_call 48; (with_reducible refine (H4.out _).mono ?_); rintro e w1 ⟨rfl, hb1⟩; exact hK.out _ (hS.trans (hb1.mono hz)))
                 | trace_state
             · simp only [Act.put, List.setIfInBounds_toArray, List.set_cons_zero, List.set_cons_succ]; exact rfl)
          | (refine SeqL.no (A' := ?_) rfl (by rfl) ?_ ?_
             rotate_left
             · simp only [Act.put, List.setIfInBounds_toArray, List.set_cons_zero, List.set_cons_succ]; exact rfl)
      refine SeqL.nil (hfin.out _ ?_)
      clear hfin fin
      intro w1 hS1
      have hz := hS1.size
      obtain ⟨hc1, hf1⟩ := bcell hS1
      have hn3 : (n : Int) ≤ 65 := by omega
      by_cases heq : t = s
      · subst heq
        go_wp2
        go_roundw
        case rel =>
          refine ⟨k + 1, n, t, by omega, by go_num, rfl, hrk, HST.out, ?_, (by repeat (first | (with_reducible assumption) | (with_reducible exact Below.refl _ _) | (with_reducible refine Below.alloc ?_ (by first | omega | (simp; omega) | (simp; done) | (dsimp only; omega)) _) | (with_reducible refine Below.setCell ?_ (by first | omega | (simp; omega) | (simp; done) | (dsimp only; omega)) _) | (with_reducible refine Below.drew ?_) | (with_reducible refine Below.trans ?_ (Below.mono (by assumption) (by first | omega | (simp; omega) | (simp; done) | (dsimp only; omega))))))⟩
          refine blk_set3 (c0 := .bool t.s) (c1 := .int .i64 t.m) (c2 := .int .i64 t.r) ?_
          rw [hS1.block _ z0]; exact Q0.out
        case measure => simp [intOf]; omega
      · have hrt := HF.out.2.2.2.2 heq
        have hw : ((t.s == s.s) = false) ∨ ((t.s == s.s) = true ∧ (t.m == s.m) = false) ∨ ((t.s == s.s) = true ∧ (t.m == s.m) = true ∧ (t.r == s.r) = false) := by
          by_cases h1 : t.s = s.s
          · by_cases h2 : t.m = s.m
            · exact Or.inr (Or.inr ⟨by simp [h1], by simp [h2], by simpa using fun h3 => heq (Cg.ext' h1 h2 h3)⟩)
            · exact Or.inr (Or.inl ⟨by simp [h1], by simpa using h2⟩)
          · exact Or.inl (by simpa using h1)
        rcases hw with k1 | ⟨k1, k2⟩ | ⟨k1, k2, k3⟩
        all_goals
          go_wp2
          go_roundw
          case rel =>
            refine ⟨k + 1, n + 1, t, by omega, by go_num, by go_num, by omega, HF.out.1, ?_, (by repeat (first | (with_reducible assumption) | (with_reducible exact Below.refl _ _) | (with_reducible refine Below.alloc ?_ (by first | omega | (simp; omega) | (simp; done) | (dsimp only; omega)) _) | (with_reducible refine Below.setCell ?_ (by first | omega | (simp; omega) | (simp; done) | (dsimp only; omega)) _) | (with_reducible refine Below.drew ?_) | (with_reducible refine Below.trans ?_ (Below.mono (by assumption) (by first | omega | (simp; omega) | (simp; done) | (dsimp only; omega))))))⟩
            refine blk_set3 (c0 := .bool s.s) (c1 := .int .i64 s.m) (c2 := .int .i64 s.r) ?_
            rw [hS1.block _ z0]; exact Q0.out
          case measure => simp [intOf]; omega
    · have hn3 : (n : Int) ≤ 65 := by omega
      have hnd : decide ((n : Int) ≤ 65) = true := by simp; omega
      go_wp2_with (go_at_call 41; (with_reducible refine (HL.out _).mono ?_); rintro e w1 ⟨rfl, hb1⟩; obtain ⟨hc1, hf1⟩ := bcell hb1; have hz1 := hb1.size; (try simp at hz1); (try have hy1 := Nat.lt_of_succ_le hz1); (try have hv1 := Nat.lt_of_succ_lt hy1); (try have hw10 : w.heap.size < w1.heap.size := by omega); (try have hw11 : w.heap.size + 1 < w1.heap.size := by omega); (try have hw12 : w.heap.size + 1 + 1 < w1.heap.size := by omega); (try have hw13 : w.heap.size + 1 + 1 + 1 < w1.heap.size := by omega))
      go_ret
      exact ⟨rfl, (by repeat (first | (with_reducible assumption) | (with_reducible exact Below.refl _ _) | (with_reducible refine Below.alloc ?_ (by first | omega | (simp; omega) | (simp; done) | (dsimp only; omega)) _) | (with_reducible refine Below.setCell ?_ (by first | omega | (simp; omega) | (simp; done) | (dsimp only; omega)) _) | (with_reducible refine Below.drew ?_) | (with_reducible refine Below.trans ?_ (Below.mono (by assumption) (by first | omega | (simp; omega) | (simp; done) | (dsimp only; omega))))))⟩
end Go.Proofs.Ytbjdiaakhlgcgaa
