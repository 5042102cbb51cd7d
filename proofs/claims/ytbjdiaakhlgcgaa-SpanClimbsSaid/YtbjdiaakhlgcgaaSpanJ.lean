/- The law of layer 3 that says that narrowing ends, walked. -/
import Derived.Test.YtbjdiaakhlgcgaaSpanI
import Derived.Test.YtbjdiaakhlgcgaaSRow
namespace Go.Proofs.Ytbjdiaakhlgcgaa
open Go.RowKit

/-- How often a span can still change by narrowing. -/
def Sp.rank (s : Sp) : Nat := if s.none = true then 0 else 1 + (if s.lo = -9223372036854775808 then 1 else 0) + (if s.hi = 9223372036854775807 then 1 else 0)
theorem Sp.rank_le (s : Sp) : s.rank ≤ 3 := by unfold Sp.rank; split <;> (try split) <;> (try split) <;> omega
theorem Sp.clean_some {a : Sp} (h : a.none = false) : a.clean = a := if_neg (by rw [h]; decide)
theorem Sp.clean_none {a : Sp} (h : a.none = true) : a.clean = Sp.zero := if_pos h
theorem Sp.clean_clean (a : Sp) : a.clean.clean = a.clean := by
  cases h : a.none
  · rw [Sp.clean_some h, Sp.clean_some h]
  · rw [Sp.clean_none h]; rfl
theorem Sp.of_clean (lo hi : Int) : (Sp.of lo hi).clean = Sp.of lo hi := Sp.clean_clean _
theorem Sp.narrow_clean {s : Sp} (x : Sp) (hs : s.clean = s) : (s.narrow x).clean = s.narrow x := by
  cases h : x.leq s
  · rw [Sp.narrow_1 h, hs, hs]
  · cases h' : x.none
    · rw [Sp.narrow_3 h h', Sp.of_clean]
    · rw [Sp.narrow_2 h h']; rfl
/-- Narrowing stays between. -/
theorem Sp.narrow_between {s : Sp} (x : Sp) (hs : s.clean = s) : (s.narrow x).leq s = true ∧ (x.leq s = true → x.leq (s.narrow x) = true) := by
  cases h : x.leq s
  · rw [Sp.narrow_1 h, hs]; exact ⟨Sp.leq_refl s, fun h => by cases h⟩
  · cases h' : x.none
    · have h0 := (Sp.leq_iff x s).1 h
      rw [h'] at h0
      simp only [Bool.false_eq_true, false_or] at h0
      obtain ⟨hsn, h1, h2⟩ := h0
      have hx := (Sp.none_iff x).1 h'
      rw [Sp.narrow_3 h h', Sp.of_f (by split <;> split <;> omega)]
      have hn : (Sp.mk true (if s.lo = -9223372036854775808 then x.lo else s.lo) (if s.hi = 9223372036854775807 then x.hi else s.hi)).none = false := by
        rw [Sp.none_iff]; refine ⟨rfl, ?_⟩; dsimp only; split <;> split <;> omega
      rw [Sp.leq_iff, Sp.leq_iff, hn, hsn]
      exact ⟨Or.inr ⟨rfl, by dsimp only; split <;> omega, by dsimp only; split <;> omega⟩, fun _ => Or.inr ⟨rfl, by dsimp only; split <;> omega, by dsimp only; split <;> omega⟩⟩
    · rw [Sp.narrow_2 h h']; exact ⟨rfl, fun _ => Sp.leq_none _ h'⟩
/-- Each change takes something of the rank. -/
theorem Sp.narrow_rank {s : Sp} (x : Sp) (hs : s.clean = s) (hne : s.narrow x ≠ s) : (s.narrow x).rank + 1 ≤ s.rank := by
  cases h : x.leq s
  · rw [Sp.narrow_1 h, hs] at hne; exact absurd rfl hne
  · cases h' : x.none
    · have h0 := (Sp.leq_iff x s).1 h
      rw [h'] at h0
      simp only [Bool.false_eq_true, false_or] at h0
      obtain ⟨hsn, h1, h2⟩ := h0
      have hx := (Sp.none_iff x).1 h'
      have hs1 := ((Sp.none_iff s).1 hsn).1
      have e : s.narrow x = ⟨true, if s.lo = -9223372036854775808 then x.lo else s.lo, if s.hi = 9223372036854775807 then x.hi else s.hi⟩ := by
        rw [Sp.narrow_3 h h', Sp.of_f (by split <;> split <;> omega)]
      have hn : (s.narrow x).none = false := by
        rw [e, Sp.none_iff]; refine ⟨rfl, ?_⟩; dsimp only; split <;> split <;> omega
      unfold Sp.rank
      rw [hn, hsn]
      simp only [Bool.false_eq_true, if_false]
      have hd : ¬ ((s.narrow x).lo = s.lo ∧ (s.narrow x).hi = s.hi) := fun ⟨h3, h4⟩ => hne (Sp.ext' (by rw [e, hs1]) h3 h4)
      rw [e] at hd ⊢
      dsimp only at hd ⊢
      by_cases c1 : s.lo = -9223372036854775808 <;> by_cases c2 : s.hi = 9223372036854775807
      · rw [if_pos c1, if_pos c2] at hd
        rw [if_pos c1, if_pos c2, if_pos c1, if_pos c2]
        split <;> split <;> omega
      · rw [if_pos c1, if_neg c2] at hd
        rw [if_pos c1, if_neg c2, if_pos c1, if_neg c2]
        split <;> omega
      · rw [if_neg c1, if_pos c2] at hd
        rw [if_neg c1, if_pos c2, if_neg c1, if_pos c2]
        split <;> omega
      · rw [if_neg c1, if_neg c2] at hd
        exact absurd ⟨rfl, rfl⟩ hd
    · have e : s.narrow x = ⟨false, 0, 0⟩ := Sp.narrow_2 h h'
      have hz : s.none = false := by
        cases hn : s.none
        · rfl
        · rw [Sp.clean_none hn] at hs
          exact absurd (e.trans hs) hne
      rw [e]
      unfold Sp.rank
      rw [hz]
      simp only [Bool.false_eq_true, if_false]
      rw [if_pos (show (Sp.mk false 0 0).none = true from rfl)]
      omega

def FallRel (l : List Sp) (N : Nat) (w : World) (vn vi : Value) (wx : World) : Prop :=
  ∃ (k n : Nat) (s : Sp), k ≤ l.length ∧ vi = .int .i64 k ∧ vn = .int .i64 n ∧ n + s.rank ≤ 3 ∧ s.clean = s ∧ wx.heap[N]? = some (.cells #[.bool s.s, .int .i64 s.lo, .int .i64 s.hi] 23) ∧ Below N w wx

set_option maxRecDepth 100000 in
set_option maxHeartbeats 4000000 in
theorem law_spanFalls (a : Sp) (l : List Sp) (A : Option Addr) (c : Nat) (w : World) (hm : l.length ≤ 9223372036854775807) (hr : SRow w A l) :
    Calls Try.prog 8 #[.agg #[.bool a.s, .int .i64 a.lo, .int .i64 a.hi], .slice A l.length c] w fun e w' => e = .returned (.bool true) ∧ Below w.heap.size w w' := by
  have HC := Lib.hid (span_clean a)
  have hca := Sp.clean_clean a
  have hra := Sp.rank_le a.clean
  have HL := Lib.hid law03_lives
  generalize a.clean = s0 at *
  have HA := Lib.hid hca
  clear hca
  go_enter Try.func8, Try.ntmps8
  go_wp2_with (go_at_call 29; (with_reducible refine (HC.out _).mono ?_); rintro e w1 ⟨rfl, hb1⟩; obtain ⟨hc1, hf1⟩ := bcell hb1; have hz1 := hb1.size; (try simp at hz1); (try have hy1 := Nat.lt_of_succ_le hz1); (try have hv1 := Nat.lt_of_succ_lt hy1); (try have hw10 : w.heap.size < w1.heap.size := by omega); (try have hw11 : w.heap.size + 1 < w1.heap.size := by omega); (try have hw12 : w.heap.size + 1 + 1 < w1.heap.size := by omega); (try have hw13 : w.heap.size + 1 + 1 + 1 < w1.heap.size := by omega))
  go_loopw [5, 6] (fun vn vi wx => FallRel l w.heap.size w vn vi wx) (fun _ vi _ => l.length - (intOf vi).toNat)
  case atStart =>
    refine ⟨0, 0, s0, Nat.zero_le _, rfl, rfl, by omega, HA.out, ?_, (by repeat (first | (with_reducible assumption) | (with_reducible exact Below.refl _ _) | (with_reducible refine Below.alloc ?_ (by first | omega | (simp; omega) | (simp; done) | (dsimp only; omega)) _) | (with_reducible refine Below.setCell ?_ (by first | omega | (simp; omega) | (simp; done) | (dsimp only; omega)) _) | (with_reducible refine Below.drew ?_) | (with_reducible refine Below.trans ?_ (Below.mono (by assumption) (by first | omega | (simp; omega) | (simp; done) | (dsimp only; omega))))))⟩
    refine blk_set3 (c0 := .bool a.s) (c1 := .int .i64 a.lo) (c2 := .int .i64 a.hi) ?_
    rw [hb1.block _ (by simp)]
    show (w.heap.push _)[_]? = _
    simp
  case round =>
    obtain ⟨k, n, s, hk, rfl, rfl, hrk, hcl, hs, hB⟩ := hrel
    have q0_0 := blk_cell hs 0
    have q0_1 := blk_cell hs 1
    have q0_2 := blk_cell hs 2
    simp only [List.getElem?_toArray, List.getElem?_cons_zero, List.getElem?_cons_succ] at q0_0 q0_1 q0_2
    have f0 := blk_free hs
    have z0 := blk_lt hs
    have HS := Lib.hid hs
    have HCL := Lib.hid hcl
    clear hs hcl HC hc1 hf1 hb1
    by_cases hlt : k < l.length
    · obtain ⟨bb, oo, rfl, e0, e1, e2, hbb⟩ := hr.cell hlt
      generalize l[k] = x at *
      have y0 := (hB.cell (p := ⟨bb, oo + k * 3, none⟩) hbb).trans e0
      have y1 := (hB.cell (p := ⟨bb, oo + k * 3 + 1, none⟩) hbb).trans e1
      have y2 := (hB.cell (p := ⟨bb, oo + k * 3 + 2, none⟩) hbb).trans e2
      have zb : bb < wr.heap.size := Nat.lt_trans hbb z0
      clear e0 e1 e2
      have H1 := Lib.hid (span_narrow s x)
      have hbt := Sp.narrow_between x HCL.out
      have hct := Sp.narrow_clean x HCL.out
      have hrt := Sp.narrow_rank x HCL.out
      have h2 := span_leq (s.narrow x) s
      rw [hbt.1] at h2
      have H2 := Lib.hid h2
      have h3 := span_leq x s
      have h4 := span_leq x (s.narrow x)
      have HP := Lib.hid hbt.2
      have HCT := Lib.hid hct
      have HRT := Lib.hid hrt
      clear hbt hct hrt h2
      generalize s.narrow x = t at *
      generalize x.leq s = p at *
      generalize x.leq t = q at *
      go_wp2
      refine region_seqg (W := wr) [_, _, _, _, _, _, _] [_] rfl (by kernel_rfl) (by kernel_rfl) (by repeat (first | (with_reducible assumption) | (with_reducible exact Below.refl _ _) | (with_reducible refine Below.alloc ?_ (by first | omega | (simp; omega) | (simp; done) | (dsimp only; omega)) _) | (with_reducible refine Below.setCell ?_ (by first | omega | (simp; omega) | (simp; done) | (dsimp only; omega)) _) | (with_reducible refine Below.drew ?_) | (with_reducible refine Below.trans ?_ (Below.mono (by assumption) (by first | omega | (simp; omega) | (simp; done) | (dsimp only; omega)))))) (fun fin hfin => ?_)
      iterate 6
        first
          | (refine SeqG.yes (v := ?_) (A' := ?_) rfl (fun γ => by rfl) ?_ ?_ ?_
             rotate_left 2
             · intro γ w' K hS hK
               obtain ⟨hc, hf⟩ := bcell hS
               have hz := hS.size
               go_simp
               first
                 | exact hK.out _ (Below.refl _ _)
                 | (go_at_call 32; (with_reducible refine (H1.out _).mono ?_); rintro e w1 ⟨rfl, hb1⟩; exact hK.out _ hb1)
                 | trace_state
             · intro γ; simp only [Act.put, List.setIfInBounds_toArray, List.set_cons_zero, List.set_cons_succ]; exact rfl)
          | (refine SeqG.no (A' := ?_) rfl (fun γ => by rfl) ?_ ?_
             rotate_left
             · intro γ; simp only [Act.put, List.setIfInBounds_toArray, List.set_cons_zero, List.set_cons_succ]; exact rfl)
      refine SeqG.make (k := 6) (A' := ?_) (fun g => .pointer (some ⟨g 0, 0, none⟩)) (RCell #[.bool false, .int .i64 0, .int .i64 0] 23) rfl (fun γ => by rfl) (RCell.stable _ _) ?_ ?_ ?_
      rotate_left
      · intro γ w' K hS _ hK
        have hm := RCell.made (#[.bool false, .int .i64 0, .int .i64 0]) (23) w'
        have HK := Lib.hid (hK.out (fun _ => w'.heap.size) (w'.alloc (.cells #[.bool false, .int .i64 0, .int .i64 0] 23)) ((Below.refl _ _).alloc (Nat.le_refl _) _) hm); clear hK hm
        go_simp
        exact HK.out
      · intro γ; simp only [Act.put, List.setIfInBounds_toArray, List.set_cons_zero, List.set_cons_succ]; exact rfl
      refine SeqG.nil (hfin.out _ _ ?_)
      clear hfin fin
      intro γ lo hi w1 hB1 hF hD
      replace hF := listF1 hF
      dsimp only at hF
      clear hD
      obtain ⟨_, _, y7, o7, p7, h7⟩ := hF
      have w7 : wr.heap.size ≤ γ 6 0 := by omega
      have x7 : γ 6 0 < w1.heap.size := by omega
      clear o7 p7 y7
      generalize γ 6 0 = b7 at *
      have g7 := blk_cell h7
      have f7 := blk_free h7
      have K7 := Lib.hid h7; clear h7
      refine TailL.cons (fun K hK => ?_)
      go_simp
      refine hK.out _ _ ?_
      clear hK K
      refine TailL.nil ?_
      generalize hX : ((w1.setCell ⟨b7, 0, none⟩ (.bool t.s)).setCell ⟨b7, 1, none⟩ (.int .i64 t.lo)).setCell ⟨b7, 2, none⟩ (.int .i64 t.hi) = X
      have HX : Below wr.heap.size wr X := by rw [← hX]; exact (by repeat (first | (with_reducible assumption) | (with_reducible exact Below.refl _ _) | (with_reducible refine Below.alloc ?_ (by first | omega | (simp; omega) | (simp; done) | (dsimp only; omega)) _) | (with_reducible refine Below.setCell ?_ (by first | omega | (simp; omega) | (simp; done) | (dsimp only; omega)) _) | (with_reducible refine Below.drew ?_) | (with_reducible refine Below.trans ?_ (Below.mono (by assumption) (by first | omega | (simp; omega) | (simp; done) | (dsimp only; omega))))))
      have q7 : X.heap[b7]? = some (.cells #[.bool t.s, .int .i64 t.lo, .int .i64 t.hi] 23) := by rw [← hX]; exact blk_set3 K7.out
      clear hX g7 f7 hB1
      have q7_0 := blk_cell q7 0
      have q7_1 := blk_cell q7 1
      have q7_2 := blk_cell q7 2
      simp only [List.getElem?_toArray, List.getElem?_cons_zero, List.getElem?_cons_succ] at q7_0 q7_1 q7_2
      have z7 := blk_lt q7
      have hne0 : b7 ≠ w.heap.size := by omega
      have q0 : X.heap[w.heap.size]? = some (.cells #[.bool s.s, .int .i64 s.lo, .int .i64 s.hi] 23) := by rw [HX.block _ z0]; exact HS.out
      have f0 := blk_free q0
      have HX2 : Below w.heap.size w X := hB.trans (HX.mono (by omega))
      replace y0 := (HX.cell (p := ⟨bb, oo + k * 3, none⟩) zb).trans y0
      replace y1 := (HX.cell (p := ⟨bb, oo + k * 3 + 1, none⟩) zb).trans y1
      replace y2 := (HX.cell (p := ⟨bb, oo + k * 3 + 2, none⟩) zb).trans y2
      replace zb := Nat.lt_of_lt_of_le zb HX.size
      replace z0 := blk_lt q0
      replace q0_0 := blk_cell q0 0
      replace q0_1 := blk_cell q0 1
      replace q0_2 := blk_cell q0 2
      simp only [List.getElem?_toArray, List.getElem?_cons_zero, List.getElem?_cons_succ] at q0_0 q0_1 q0_2
      have Q0 := Lib.hid q0
      clear q7 q0 HS HX hB K7 H1 w7 x7
      go_wp2
      cases p
      all_goals
        try (obtain rfl : q = true := HP.out rfl)
        have H3 := Lib.hid h3; have H4 := Lib.hid h4; clear h3 h4 HP
        refine region_seq (S := fun w' => Below X.heap.size X w') rfl (by kernel_rfl) (by kernel_rfl) (by repeat (first | (with_reducible assumption) | (with_reducible exact Below.refl _ _) | (with_reducible refine Below.alloc ?_ (by first | omega | (simp; omega) | (simp; done) | (dsimp only; omega)) _) | (with_reducible refine Below.setCell ?_ (by first | omega | (simp; omega) | (simp; done) | (dsimp only; omega)) _) | (with_reducible refine Below.drew ?_) | (with_reducible refine Below.trans ?_ (Below.mono (by assumption) (by first | omega | (simp; omega) | (simp; done) | (dsimp only; omega)))))) (fun fin hfin => ?_)
        iterate 21
          first
            | (refine SeqL.yes (v := ?_) (A' := ?_) rfl (by rfl) ?_ ?_ ?_
               rotate_left 2
               · intro w' K hS hK
                 obtain ⟨hc, hf⟩ := bcell hS
                 have hz := hS.size
                 go_simp
                 first
                   | exact hK.out _ hS
                   | (go_at_call 17; (with_reducible refine (H2.out _).mono ?_); rintro e w1 ⟨rfl, hb1⟩; exact hK.out _ (hS.trans (hb1.mono hz)))
                   | (go_at_call 17; (with_reducible refine (H3.out _).mono ?_); rintro e w1 ⟨rfl, hb1⟩; exact hK.out _ (hS.trans (hb1.mono hz)))
                   | (go_at_call 17; (with_reducible refine (H4.out _).mono ?_); rintro e w1 ⟨rfl, hb1⟩; exact hK.out _ (hS.trans (hb1.mono hz)))
                   | trace_state
               · simp only [Act.put, List.setIfInBounds_toArray, List.set_cons_zero, List.set_cons_succ]; exact rfl)
            | (refine SeqL.no (A' := ?_) rfl (by rfl) ?_ ?_
               rotate_left
               · simp only [Act.put, List.setIfInBounds_toArray, List.set_cons_zero, List.set_cons_succ]; exact rfl)
        refine SeqL.nil (hfin.out _ ?_)
        clear hfin fin
        intro w1 hS1
        have hz := hS1.size
        obtain ⟨hc1, hf1⟩ := bcell hS1
        have hn3 : (n : Int) ≤ 3 := by omega
        by_cases heq : t = s
        · subst heq
          go_wp2
          go_roundw
          case rel =>
            refine ⟨k + 1, n, t, by omega, by go_num, rfl, hrk, HCL.out, ?_, (by repeat (first | (with_reducible assumption) | (with_reducible exact Below.refl _ _) | (with_reducible refine Below.alloc ?_ (by first | omega | (simp; omega) | (simp; done) | (dsimp only; omega)) _) | (with_reducible refine Below.setCell ?_ (by first | omega | (simp; omega) | (simp; done) | (dsimp only; omega)) _) | (with_reducible refine Below.drew ?_) | (with_reducible refine Below.trans ?_ (Below.mono (by assumption) (by first | omega | (simp; omega) | (simp; done) | (dsimp only; omega))))))⟩
            refine blk_set3 (c0 := .bool t.s) (c1 := .int .i64 t.lo) (c2 := .int .i64 t.hi) ?_
            rw [hS1.block _ z0]; exact Q0.out
          case measure => simp [intOf]; omega
        · have hrt := HRT.out heq
          have hw : ((t.s == s.s) = false) ∨ ((t.s == s.s) = true ∧ (t.lo == s.lo) = false) ∨ ((t.s == s.s) = true ∧ (t.lo == s.lo) = true ∧ (t.hi == s.hi) = false) := by
            by_cases h1 : t.s = s.s
            · by_cases h2 : t.lo = s.lo
              · exact Or.inr (Or.inr ⟨by simp [h1], by simp [h2], by simpa using fun h3 => heq (Sp.ext' h1 h2 h3)⟩)
              · exact Or.inr (Or.inl ⟨by simp [h1], by simpa using h2⟩)
            · exact Or.inl (by simpa using h1)
          rcases hw with k1 | ⟨k1, k2⟩ | ⟨k1, k2, k3⟩
          all_goals
            go_wp2
            go_roundw
            case rel =>
              refine ⟨k + 1, n + 1, t, by omega, by go_num, by go_num, by omega, HCT.out, ?_, (by repeat (first | (with_reducible assumption) | (with_reducible exact Below.refl _ _) | (with_reducible refine Below.alloc ?_ (by first | omega | (simp; omega) | (simp; done) | (dsimp only; omega)) _) | (with_reducible refine Below.setCell ?_ (by first | omega | (simp; omega) | (simp; done) | (dsimp only; omega)) _) | (with_reducible refine Below.drew ?_) | (with_reducible refine Below.trans ?_ (Below.mono (by assumption) (by first | omega | (simp; omega) | (simp; done) | (dsimp only; omega))))))⟩
              refine blk_set3 (c0 := .bool s.s) (c1 := .int .i64 s.lo) (c2 := .int .i64 s.hi) ?_
              rw [hS1.block _ z0]; exact Q0.out
            case measure => simp [intOf]; omega
    · have hn3 : (n : Int) ≤ 3 := by omega
      have hnd : decide ((n : Int) ≤ 3) = true := by simpa using hn3
      go_wp2_with (go_at_call 24; (with_reducible refine (HL.out _).mono ?_); rintro e w1 ⟨rfl, hb1⟩; obtain ⟨hc1, hf1⟩ := bcell hb1; have hz1 := hb1.size; (try simp at hz1); (try have hy1 := Nat.lt_of_succ_le hz1); (try have hv1 := Nat.lt_of_succ_lt hy1); (try have hw10 : w.heap.size < w1.heap.size := by omega); (try have hw11 : w.heap.size + 1 < w1.heap.size := by omega); (try have hw12 : w.heap.size + 1 + 1 < w1.heap.size := by omega); (try have hw13 : w.heap.size + 1 + 1 + 1 < w1.heap.size := by omega))
      go_ret
      exact ⟨rfl, (by repeat (first | (with_reducible assumption) | (with_reducible exact Below.refl _ _) | (with_reducible refine Below.alloc ?_ (by first | omega | (simp; omega) | (simp; done) | (dsimp only; omega)) _) | (with_reducible refine Below.setCell ?_ (by first | omega | (simp; omega) | (simp; done) | (dsimp only; omega)) _) | (with_reducible refine Below.drew ?_) | (with_reducible refine Below.trans ?_ (Below.mono (by assumption) (by first | omega | (simp; omega) | (simp; done) | (dsimp only; omega))))))⟩
end Go.Proofs.Ytbjdiaakhlgcgaa
