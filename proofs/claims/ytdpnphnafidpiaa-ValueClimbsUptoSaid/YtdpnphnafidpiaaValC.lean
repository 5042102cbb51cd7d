/- X-PARTIAL What the functions of package value that clean return: layer 8. -/
import Derived.Test.YtdpnphnafidpiaaValB
import Derived.Test.YtdpnphnafidpiaaNamY
namespace Go.Proofs.Ytdpnphnafidpiaa
open Go.RowKit

/-- What is known of where the strings of a made set lie. -/
def MadeV (b : Nat) (w : World) (A : Option Addr) (c : Nat) (l : List Str) : Prop := l.length ≤ c ∧ c ≤ 9223372036854775807 ∧ SRow w A l ∧ (A = none → c = 0) ∧ (∀ a, A = some a → b ≤ a.block ∧ a.spot = none)

theorem MadeV.mono {b : Nat} {w w' : World} {A : Option Addr} {c : Nat} {l : List Str} (h : MadeV b w A c l) (hb : Below w.heap.size w w') : MadeV b w' A c l := ⟨h.1, h.2.1, h.2.2.1.mono hb, h.2.2.2⟩

theorem MadeV.base {b b' : Nat} {w : World} {A : Option Addr} {c : Nat} {l : List Str} (h : MadeV b w A c l) (hb : b' ≤ b) : MadeV b' w A c l := ⟨h.1, h.2.1, h.2.2.1, h.2.2.2.1, fun a e => ⟨Nat.le_trans hb (h.2.2.2.2 a e).1, (h.2.2.2.2 a e).2⟩⟩

theorem MadeV.setCell {b : Nat} {w : World} {A : Option Addr} {c : Nat} {l : List Str} (h : MadeV b w A c l) {k o : Nat} (hk : k < b) (v : Value) : MadeV b (w.setCell ⟨k, o, none⟩ v) A c l :=
  ⟨h.1, h.2.1, h.2.2.1.setCell (fun a e => by have := (h.2.2.2.2 a e).1; omega) v, h.2.2.2⟩

theorem MadeV.ghost {b lo : Nat} {w : World} {A : Option Addr} {c : Nat} {l : List Str} (h : MadeV b w A c l) (hlo : lo ≤ b) : ∃ g : Nat → Nat, A = gA g ∧ c = g 2 ∧ RSetG l g lo w.heap.size w := by
  obtain ⟨g, e, hg⟩ := SetV.ghost (v := .agg #[.bool false, .slice A l.length c]) (n := false) ⟨A, c, rfl, h⟩ hlo
  injection e with e
  injection e with e
  injection e with e1 e2
  injection e2 with e2 e3
  injection e2 with e4 e5 e6
  exact ⟨g, e4, e6, hg⟩

theorem RSetG.made {l : List Str} {g : Nat → Nat} {lo hi : Nat} {w : World} (h : RSetG l g lo hi w) : MadeV lo w (gA g) (g 2) l := by
  obtain ⟨h1, h2, h3, h4, h5⟩ := h
  refine ⟨h2, h3, h1, h4, fun a e => ⟨(h5 a e).1, ?_⟩⟩
  unfold gA at e
  split at e
  · cases e
  · injection e with e; subst e; rfl

theorem cong_none (c : Cg) (w : World) :
    Calls Try.prog 74 #[.agg #[.bool c.s, .int .i64 c.m, .int .i64 c.r]] w fun e w' => e = .returned (.bool (!c.s)) ∧ Below w.heap.size w w' := by
  go_enter Try.func74, Try.ntmps74
  go_wp2
  go_ret
  exact ⟨rfl, (by repeat (first | (with_reducible assumption) | (with_reducible exact Below.refl _ _) | (with_reducible refine Below.alloc ?_ (by first | omega | (simp; omega) | (simp; done) | (dsimp only; omega)) _) | (with_reducible refine Below.setCell ?_ (by first | omega | (simp; omega) | (simp; done) | (dsimp only; omega)) _) | (with_reducible refine Below.drew ?_) | (with_reducible refine Below.trans ?_ (Below.mono (by assumption) (by first | omega | (simp; omega) | (simp; done) | (dsimp only; omega))))))⟩

set_option maxHeartbeats 1000000 in
theorem ints_none (i : In) (w : World) :
    Calls Try.prog 52 #[.agg #[.bool i.s.s, .int .i64 i.s.lo, .int .i64 i.s.hi, .bool i.c.s, .int .i64 i.c.m, .int .i64 i.c.r]] w fun e w' => e = .returned (.bool i.none) ∧ Below w.heap.size w w' := by
  have h1 := span_none i.s
  have H2 := Lib.hid (cong_none i.c)
  unfold In.none
  cases h : i.s.none
  all_goals
    rw [h] at h1
    have H1 := Lib.hid h1
    clear h1 h
    go_enter Try.func52, Try.ntmps52
    go_wp2_with (first | (go_at_call 66; (with_reducible refine (H1.out _).mono ?_); rintro e w1 ⟨rfl, hb1⟩; obtain ⟨hc1, hf1⟩ := bcell hb1; have hz1 := hb1.size; (try simp at hz1); (try have hy1 := Nat.lt_of_succ_le hz1); (try have hv1 := Nat.lt_of_succ_lt hy1); (try have hw10 : w.heap.size < w1.heap.size := by omega); (try have hw11 : w.heap.size + 1 < w1.heap.size := by omega); (try have hw12 : w.heap.size + 1 + 1 < w1.heap.size := by omega); (try have hw13 : w.heap.size + 1 + 1 + 1 < w1.heap.size := by omega)) | (go_at_call 74; (with_reducible refine (H2.out _).mono ?_); rintro e w2 ⟨rfl, hb2⟩; obtain ⟨hc2, hf2⟩ := bcell hb2; have hz2 := hb2.size; (try simp at hz2); (try have hy2 := Nat.lt_of_succ_le hz2); (try have hv2 := Nat.lt_of_succ_lt hy2); (try have hw20 : w.heap.size < w2.heap.size := by omega); (try have hw21 : w.heap.size + 1 < w2.heap.size := by omega); (try have hw22 : w.heap.size + 1 + 1 < w2.heap.size := by omega); (try have hw23 : w.heap.size + 1 + 1 + 1 < w2.heap.size := by omega)))
    go_ret
    exact ⟨rfl, (by repeat (first | (with_reducible assumption) | (with_reducible exact Below.refl _ _) | (with_reducible refine Below.alloc ?_ (by first | omega | (simp; omega) | (simp; done) | (dsimp only; omega)) _) | (with_reducible refine Below.setCell ?_ (by first | omega | (simp; omega) | (simp; done) | (dsimp only; omega)) _) | (with_reducible refine Below.drew ?_) | (with_reducible refine Below.trans ?_ (Below.mono (by assumption) (by first | omega | (simp; omega) | (simp; done) | (dsimp only; omega))))))⟩

set_option maxRecDepth 100000 in
set_option maxHeartbeats 4000000 in
theorem value_clean (i : In) (hi : i.ok) (n : Bool) (l : List Str) (A : Option Addr) (c : Nat) (w : World) (hm : l.length * 16 ≤ 140737488355328) (hz : A = none → c = 0) (hr : SRow w A l) :
    Calls Try.prog 23 #[.agg #[.bool i.s.s, .int .i64 i.s.lo, .int .i64 i.s.hi, .bool i.c.s, .int .i64 i.c.m, .int .i64 i.c.r], .agg #[.bool n, .slice A l.length c]] w fun e w' => (∃ A' c', e = .returned (.agg #[.bool (i.clean).s.s, .int .i64 (i.clean).s.lo, .int .i64 (i.clean).s.hi, .bool (i.clean).c.s, .int .i64 (i.clean).c.m, .int .i64 (i.clean).c.r, .bool n, .slice A' (srt l).length c']) ∧ MadeV w.heap.size w' A' c' (srt l)) ∧ Below w.heap.size w w' := by
  have HC : Hid (∀ w', Below w.heap.size w w' → _) := Lib.hid (fun w' h => names_Clean n l A c w' hm hz (hr.mono h))
  have h1 := ints_none i
  cases hn : i.none
  · rw [hn] at h1
    have H1 := Lib.hid h1
    have h2 := span_clean i.s
    rw [Sp.clean_some (In.none_f hn).1] at h2
    have H2 := Lib.hid h2
    have H3 := Lib.hid (cong_clean i.c hi.2.1)
    rw [In.clean_f hn]
    dsimp only
    clear h1 h2 hn hi hr
    generalize i.c.clean = cc at *
    obtain ⟨s, c0⟩ := i
    dsimp only at *
    go_enter Try.func23, Try.ntmps23
    go_upto_region 1 with fail
    generalize hW : (((w.alloc (.cells #[.bool s.s, .int .i64 s.lo, .int .i64 s.hi, .bool c0.s, .int .i64 c0.m, .int .i64 c0.r] 46)).alloc (.cells #[.bool n, .slice A l.length c] 28)).alloc (.cells #[.bool false, .int .i64 0, .int .i64 0, .bool false, .int .i64 0, .int .i64 0, .bool false, .slice none 0 0] 48)) = W
    have q0_0 : W.cell? ⟨w.heap.size, 0, none⟩ = some (.bool s.s) := by rw [← hW]; simp [go_sem]
    have q0_1 : W.cell? ⟨w.heap.size, 1, none⟩ = some (.int .i64 s.lo) := by rw [← hW]; simp [go_sem]
    have q0_2 : W.cell? ⟨w.heap.size, 2, none⟩ = some (.int .i64 s.hi) := by rw [← hW]; simp [go_sem]
    have q0_3 : W.cell? ⟨w.heap.size, 3, none⟩ = some (.bool c0.s) := by rw [← hW]; simp [go_sem]
    have q0_4 : W.cell? ⟨w.heap.size, 4, none⟩ = some (.int .i64 c0.m) := by rw [← hW]; simp [go_sem]
    have q0_5 : W.cell? ⟨w.heap.size, 5, none⟩ = some (.int .i64 c0.r) := by rw [← hW]; simp [go_sem]
    have q1_0 : W.cell? ⟨w.heap.size + 1, 0, none⟩ = some (.bool n) := by rw [← hW]; simp [go_sem]
    have q1_1 : W.cell? ⟨w.heap.size + 1, 1, none⟩ = some (.slice A l.length c) := by rw [← hW]; simp [go_sem]
    have q2_0 : W.cell? ⟨w.heap.size + 1 + 1, 0, none⟩ = some (.bool false) := by rw [← hW]; simp [go_sem]
    have q2_1 : W.cell? ⟨w.heap.size + 1 + 1, 1, none⟩ = some (.int .i64 0) := by rw [← hW]; simp [go_sem]
    have q2_2 : W.cell? ⟨w.heap.size + 1 + 1, 2, none⟩ = some (.int .i64 0) := by rw [← hW]; simp [go_sem]
    have q2_3 : W.cell? ⟨w.heap.size + 1 + 1, 3, none⟩ = some (.bool false) := by rw [← hW]; simp [go_sem]
    have q2_4 : W.cell? ⟨w.heap.size + 1 + 1, 4, none⟩ = some (.int .i64 0) := by rw [← hW]; simp [go_sem]
    have q2_5 : W.cell? ⟨w.heap.size + 1 + 1, 5, none⟩ = some (.int .i64 0) := by rw [← hW]; simp [go_sem]
    have q2_6 : W.cell? ⟨w.heap.size + 1 + 1, 6, none⟩ = some (.bool false) := by rw [← hW]; simp [go_sem]
    have q2_7 : W.cell? ⟨w.heap.size + 1 + 1, 7, none⟩ = some (.slice none 0 0) := by rw [← hW]; simp [go_sem]
    have f0 : ∀ o, W.frozen? ⟨w.heap.size, o, none⟩ = false := by intro o; rw [← hW]; simp [go_sem]
    have f1 : ∀ o, W.frozen? ⟨w.heap.size + 1, o, none⟩ = false := by intro o; rw [← hW]; simp [go_sem]
    have f2 : ∀ o, W.frozen? ⟨w.heap.size + 1 + 1, o, none⟩ = false := by intro o; rw [← hW]; simp [go_sem]
    have z0 : w.heap.size < W.heap.size := by rw [← hW]; first | (simp; done) | (simp; omega)
    have z1 : w.heap.size + 1 < W.heap.size := by rw [← hW]; first | (simp; done) | (simp; omega)
    have z2 : w.heap.size + 1 + 1 < W.heap.size := by rw [← hW]; first | (simp; done) | (simp; omega)
    have HW : Below w.heap.size w W := by rw [← hW]; exact (by repeat (first | (with_reducible assumption) | (with_reducible exact Below.refl _ _) | (with_reducible refine Below.alloc ?_ (by first | omega | (simp; omega) | (simp; done) | (dsimp only; omega)) _) | (with_reducible refine Below.setCell ?_ (by first | omega | (simp; omega) | (simp; done) | (dsimp only; omega)) _) | (with_reducible refine Below.drew ?_) | (with_reducible refine Below.trans ?_ (Below.mono (by assumption) (by first | omega | (simp; omega) | (simp; done) | (dsimp only; omega))))))
    clear hW
    go_wp2_with (go_at_call 52; (with_reducible refine (H1.out _).mono ?_); rintro e w9 ⟨rfl, hb9⟩; obtain ⟨hc9, hf9⟩ := bcell hb9; have hz9 := hb9.size; (try simp at hz9); (try have hy9 := Nat.lt_of_succ_le hz9); (try have hv9 := Nat.lt_of_succ_lt hy9); (try have hw90 : w.heap.size < w9.heap.size := by omega); (try have hw91 : w.heap.size + 1 < w9.heap.size := by omega); (try have hw92 : w.heap.size + 1 + 1 < w9.heap.size := by omega); (try have hw93 : w.heap.size + 1 + 1 + 1 < w9.heap.size := by omega))
    have HW1 := HW.trans (hb9.mono HW.size)
    replace f2 := fun o => (hb9.frozen (p := ⟨w.heap.size + 1 + 1, o, none⟩) z2).trans (f2 o)
    replace q0_0 := (hb9.cell (p := ⟨w.heap.size, 0, none⟩) z0).trans q0_0
    replace q0_1 := (hb9.cell (p := ⟨w.heap.size, 1, none⟩) z0).trans q0_1
    replace q0_2 := (hb9.cell (p := ⟨w.heap.size, 2, none⟩) z0).trans q0_2
    replace q0_3 := (hb9.cell (p := ⟨w.heap.size, 3, none⟩) z0).trans q0_3
    replace q0_4 := (hb9.cell (p := ⟨w.heap.size, 4, none⟩) z0).trans q0_4
    replace q0_5 := (hb9.cell (p := ⟨w.heap.size, 5, none⟩) z0).trans q0_5
    replace q1_0 := (hb9.cell (p := ⟨w.heap.size + 1, 0, none⟩) z1).trans q1_0
    replace q1_1 := (hb9.cell (p := ⟨w.heap.size + 1, 1, none⟩) z1).trans q1_1
    replace q2_0 := (hb9.cell (p := ⟨w.heap.size + 1 + 1, 0, none⟩) z2).trans q2_0
    replace q2_1 := (hb9.cell (p := ⟨w.heap.size + 1 + 1, 1, none⟩) z2).trans q2_1
    replace q2_2 := (hb9.cell (p := ⟨w.heap.size + 1 + 1, 2, none⟩) z2).trans q2_2
    replace q2_3 := (hb9.cell (p := ⟨w.heap.size + 1 + 1, 3, none⟩) z2).trans q2_3
    replace q2_4 := (hb9.cell (p := ⟨w.heap.size + 1 + 1, 4, none⟩) z2).trans q2_4
    replace q2_5 := (hb9.cell (p := ⟨w.heap.size + 1 + 1, 5, none⟩) z2).trans q2_5
    replace q2_6 := (hb9.cell (p := ⟨w.heap.size + 1 + 1, 6, none⟩) z2).trans q2_6
    replace q2_7 := (hb9.cell (p := ⟨w.heap.size + 1 + 1, 7, none⟩) z2).trans q2_7
    replace z0 := Nat.lt_of_lt_of_le z0 hb9.size
    replace z1 := Nat.lt_of_lt_of_le z1 hb9.size
    replace z2 := Nat.lt_of_lt_of_le z2 hb9.size
    clear hb9 hc9 hf9
    refine region_seqg (W := w9) [_, _, _, _, _, _, _, _, _, _] [_] rfl (by kernel_rfl) (by kernel_rfl) (by repeat (first | (with_reducible assumption) | (with_reducible exact Below.refl _ _) | (with_reducible refine Below.alloc ?_ (by first | omega | (simp; omega) | (simp; done) | (dsimp only; omega)) _) | (with_reducible refine Below.setCell ?_ (by first | omega | (simp; omega) | (simp; done) | (dsimp only; omega)) _) | (with_reducible refine Below.drew ?_) | (with_reducible refine Below.trans ?_ (Below.mono (by assumption) (by first | omega | (simp; omega) | (simp; done) | (dsimp only; omega)))))) (fun fin hfin => ?_)
    iterate 8
      first
        | (refine SeqG.yes (v := ?_) (A' := ?_) rfl (fun γ => by rfl) ?_ ?_ ?_
           rotate_left 2
           · intro γ w' K hS hK
             obtain ⟨hc, hf⟩ := bcell hS
             have hz := hS.size
             go_simp
             first
               | exact hK.out _ (Below.refl _ _)
               | (go_at_call 54; (with_reducible refine (H2.out _).mono ?_); rintro e w1 ⟨rfl, hb1⟩; exact hK.out _ hb1)
               | (go_at_call 55; (with_reducible refine (H3.out _).mono ?_); rintro e w1 ⟨rfl, hb1⟩; exact hK.out _ hb1)
               | trace_state
           · intro γ; simp only [Act.put, List.setIfInBounds_toArray, List.set_cons_zero, List.set_cons_succ]; exact rfl)
        | (refine SeqG.no (A' := ?_) rfl (fun γ => by rfl) ?_ ?_
           rotate_left
           · intro γ; simp only [Act.put, List.setIfInBounds_toArray, List.set_cons_zero, List.set_cons_succ]; exact rfl)
    refine SeqG.make (k := 8) (A' := ?_) (fun g => .agg #[.bool (n), .slice (gA g) (srt l).length (g 2)]) (RSetG (srt l)) rfl (fun γ => by rfl) (RSetG.stable _) ?_ ?_ ?_
    rotate_left
    · intro γ w' K hS hF hK
      obtain ⟨hc, hf⟩ := bcell hS
      have hz := hS.size
      go_simp
      (go_at_call 53; refine (HC.out w' (HW1.trans (hS.mono (by omega)))).mono ?_; rintro e w1 ⟨⟨v, rfl, hset⟩, hb1⟩; obtain ⟨g, rfl, hg⟩ := SetV.ghost hset (by omega) (lo := w'.heap.size); exact hK.out g w1 hb1 hg)
    · intro γ; simp only [Act.put, List.setIfInBounds_toArray, List.set_cons_zero, List.set_cons_succ]; exact rfl
    refine SeqG.hang (k := 9) (A' := ?_) (fun γ => .agg #[.bool s.s, .int .i64 s.lo, .int .i64 s.hi, .bool cc.s, .int .i64 cc.m, .int .i64 cc.r, .bool n, .slice (gA (γ 8)) (srt l).length (γ 8 2)]) rfl (fun γ => by rfl) (fun i _ hn γ g => ?_) (fun γ g => ?_) ?_ ?_ ?_
    rotate_left
    · have hne8 : 8 ≠ i := fun e => hn (by rw [← e]; exact reachL_spec (of_decide_eq_true (by kernel_rfl)))
      (try dsimp only); rw [updG_ne γ g hne8]
    · (try dsimp only); rw [updG_ne γ g (show 8 ≠ 9 by decide)]
    · intro γ w' K hS _ hK
      obtain ⟨hc, hf⟩ := bcell hS
      have hz := hS.size
      go_simp
      exact hK.out _ (Below.refl _ _)
    · intro γ; simp only [Act.put, List.setIfInBounds_toArray, List.set_cons_zero, List.set_cons_succ]; exact rfl
    refine SeqG.nil (hfin.out _ _ ?_)
    clear hfin fin
    intro γ lo hi w1 hB1 hF hD
    replace hF := listF1 hF
    dsimp only at hF
    clear hD
    obtain ⟨y8, l8, o8, hR⟩ := hF
    have hM := RSetG.made hR
    have HB := HW1.trans (hB1.mono HW1.size)
    replace f2 := fun o => (hB1.frozen (p := ⟨w.heap.size + 1 + 1, o, none⟩) z2).trans (f2 o)
    replace q0_0 := (hB1.cell (p := ⟨w.heap.size, 0, none⟩) z0).trans q0_0
    replace q0_1 := (hB1.cell (p := ⟨w.heap.size, 1, none⟩) z0).trans q0_1
    replace q0_2 := (hB1.cell (p := ⟨w.heap.size, 2, none⟩) z0).trans q0_2
    replace q0_3 := (hB1.cell (p := ⟨w.heap.size, 3, none⟩) z0).trans q0_3
    replace q0_4 := (hB1.cell (p := ⟨w.heap.size, 4, none⟩) z0).trans q0_4
    replace q0_5 := (hB1.cell (p := ⟨w.heap.size, 5, none⟩) z0).trans q0_5
    replace q1_0 := (hB1.cell (p := ⟨w.heap.size + 1, 0, none⟩) z1).trans q1_0
    replace q1_1 := (hB1.cell (p := ⟨w.heap.size + 1, 1, none⟩) z1).trans q1_1
    replace q2_0 := (hB1.cell (p := ⟨w.heap.size + 1 + 1, 0, none⟩) z2).trans q2_0
    replace q2_1 := (hB1.cell (p := ⟨w.heap.size + 1 + 1, 1, none⟩) z2).trans q2_1
    replace q2_2 := (hB1.cell (p := ⟨w.heap.size + 1 + 1, 2, none⟩) z2).trans q2_2
    replace q2_3 := (hB1.cell (p := ⟨w.heap.size + 1 + 1, 3, none⟩) z2).trans q2_3
    replace q2_4 := (hB1.cell (p := ⟨w.heap.size + 1 + 1, 4, none⟩) z2).trans q2_4
    replace q2_5 := (hB1.cell (p := ⟨w.heap.size + 1 + 1, 5, none⟩) z2).trans q2_5
    replace q2_6 := (hB1.cell (p := ⟨w.heap.size + 1 + 1, 6, none⟩) z2).trans q2_6
    replace q2_7 := (hB1.cell (p := ⟨w.heap.size + 1 + 1, 7, none⟩) z2).trans q2_7
    replace z0 := Nat.lt_of_lt_of_le z0 hB1.size
    replace z1 := Nat.lt_of_lt_of_le z1 hB1.size
    replace z2 := Nat.lt_of_lt_of_le z2 hB1.size
    generalize gA (γ 8) = A1 at *
    generalize γ 8 2 = c1 at *
    clear hR hB1 q0_0 q0_1 q0_2 q0_3 q0_4 q0_5 q1_0 q1_1
    refine TailL.cons (fun K hK => ?_)
    go_simp
    refine hK.out _ _ ?_
    clear hK K
    refine TailL.nil ?_
    go_wp2
    refine bodyPost_ret (by simp [results, Try.results23, go_sem, *] <;> rfl) rfl ⟨⟨A1, c1, rfl, (by (refine MadeV.base (b := w.heap.size + 3) ?_ (by omega)); (repeat refine MadeV.setCell ?_ (by first | omega | (simp; omega)) _); first | exact hM | exact hM.base (by omega))⟩, (by repeat (first | (with_reducible assumption) | (with_reducible exact Below.refl _ _) | (with_reducible refine Below.alloc ?_ (by first | omega | (simp; omega) | (simp; done) | (dsimp only; omega)) _) | (with_reducible refine Below.setCell ?_ (by first | omega | (simp; omega) | (simp; done) | (dsimp only; omega)) _) | (with_reducible refine Below.drew ?_) | (with_reducible refine Below.trans ?_ (Below.mono (by assumption) (by first | omega | (simp; omega) | (simp; done) | (dsimp only; omega))))))⟩
  · rw [hn] at h1
    have H1 := Lib.hid h1
    rw [In.clean_t hn, show In.zero = ⟨⟨false, 0, 0⟩, ⟨false, 0, 0⟩⟩ from rfl]
    dsimp only
    clear h1 hn hi hr
    go_enter Try.func23, Try.ntmps23
    go_upto_region 1 with fail
    generalize hW : (((w.alloc (.cells #[.bool i.s.s, .int .i64 i.s.lo, .int .i64 i.s.hi, .bool i.c.s, .int .i64 i.c.m, .int .i64 i.c.r] 46)).alloc (.cells #[.bool n, .slice A l.length c] 28)).alloc (.cells #[.bool false, .int .i64 0, .int .i64 0, .bool false, .int .i64 0, .int .i64 0, .bool false, .slice none 0 0] 48)) = W
    have q0_0 : W.cell? ⟨w.heap.size, 0, none⟩ = some (.bool i.s.s) := by rw [← hW]; simp [go_sem]
    have q0_1 : W.cell? ⟨w.heap.size, 1, none⟩ = some (.int .i64 i.s.lo) := by rw [← hW]; simp [go_sem]
    have q0_2 : W.cell? ⟨w.heap.size, 2, none⟩ = some (.int .i64 i.s.hi) := by rw [← hW]; simp [go_sem]
    have q0_3 : W.cell? ⟨w.heap.size, 3, none⟩ = some (.bool i.c.s) := by rw [← hW]; simp [go_sem]
    have q0_4 : W.cell? ⟨w.heap.size, 4, none⟩ = some (.int .i64 i.c.m) := by rw [← hW]; simp [go_sem]
    have q0_5 : W.cell? ⟨w.heap.size, 5, none⟩ = some (.int .i64 i.c.r) := by rw [← hW]; simp [go_sem]
    have q1_0 : W.cell? ⟨w.heap.size + 1, 0, none⟩ = some (.bool n) := by rw [← hW]; simp [go_sem]
    have q1_1 : W.cell? ⟨w.heap.size + 1, 1, none⟩ = some (.slice A l.length c) := by rw [← hW]; simp [go_sem]
    have q2_0 : W.cell? ⟨w.heap.size + 1 + 1, 0, none⟩ = some (.bool false) := by rw [← hW]; simp [go_sem]
    have q2_1 : W.cell? ⟨w.heap.size + 1 + 1, 1, none⟩ = some (.int .i64 0) := by rw [← hW]; simp [go_sem]
    have q2_2 : W.cell? ⟨w.heap.size + 1 + 1, 2, none⟩ = some (.int .i64 0) := by rw [← hW]; simp [go_sem]
    have q2_3 : W.cell? ⟨w.heap.size + 1 + 1, 3, none⟩ = some (.bool false) := by rw [← hW]; simp [go_sem]
    have q2_4 : W.cell? ⟨w.heap.size + 1 + 1, 4, none⟩ = some (.int .i64 0) := by rw [← hW]; simp [go_sem]
    have q2_5 : W.cell? ⟨w.heap.size + 1 + 1, 5, none⟩ = some (.int .i64 0) := by rw [← hW]; simp [go_sem]
    have q2_6 : W.cell? ⟨w.heap.size + 1 + 1, 6, none⟩ = some (.bool false) := by rw [← hW]; simp [go_sem]
    have q2_7 : W.cell? ⟨w.heap.size + 1 + 1, 7, none⟩ = some (.slice none 0 0) := by rw [← hW]; simp [go_sem]
    have f0 : ∀ o, W.frozen? ⟨w.heap.size, o, none⟩ = false := by intro o; rw [← hW]; simp [go_sem]
    have f1 : ∀ o, W.frozen? ⟨w.heap.size + 1, o, none⟩ = false := by intro o; rw [← hW]; simp [go_sem]
    have f2 : ∀ o, W.frozen? ⟨w.heap.size + 1 + 1, o, none⟩ = false := by intro o; rw [← hW]; simp [go_sem]
    have z0 : w.heap.size < W.heap.size := by rw [← hW]; first | (simp; done) | (simp; omega)
    have z1 : w.heap.size + 1 < W.heap.size := by rw [← hW]; first | (simp; done) | (simp; omega)
    have z2 : w.heap.size + 1 + 1 < W.heap.size := by rw [← hW]; first | (simp; done) | (simp; omega)
    have HW : Below w.heap.size w W := by rw [← hW]; exact (by repeat (first | (with_reducible assumption) | (with_reducible exact Below.refl _ _) | (with_reducible refine Below.alloc ?_ (by first | omega | (simp; omega) | (simp; done) | (dsimp only; omega)) _) | (with_reducible refine Below.setCell ?_ (by first | omega | (simp; omega) | (simp; done) | (dsimp only; omega)) _) | (with_reducible refine Below.drew ?_) | (with_reducible refine Below.trans ?_ (Below.mono (by assumption) (by first | omega | (simp; omega) | (simp; done) | (dsimp only; omega))))))
    clear hW
    go_upto_region 2 with (go_at_call 52; (with_reducible refine (H1.out _).mono ?_); rintro e w9 ⟨rfl, hb9⟩; obtain ⟨hc9, hf9⟩ := bcell hb9; have hz9 := hb9.size; (try simp at hz9); (try have hy9 := Nat.lt_of_succ_le hz9); (try have hv9 := Nat.lt_of_succ_lt hy9); (try have hw90 : w.heap.size < w9.heap.size := by omega); (try have hw91 : w.heap.size + 1 < w9.heap.size := by omega); (try have hw92 : w.heap.size + 1 + 1 < w9.heap.size := by omega); (try have hw93 : w.heap.size + 1 + 1 + 1 < w9.heap.size := by omega))
    have HW1 := HW.trans (hb9.mono HW.size)
    replace f2 := fun o => (hb9.frozen (p := ⟨w.heap.size + 1 + 1, o, none⟩) z2).trans (f2 o)
    replace q0_0 := (hb9.cell (p := ⟨w.heap.size, 0, none⟩) z0).trans q0_0
    replace q0_1 := (hb9.cell (p := ⟨w.heap.size, 1, none⟩) z0).trans q0_1
    replace q0_2 := (hb9.cell (p := ⟨w.heap.size, 2, none⟩) z0).trans q0_2
    replace q0_3 := (hb9.cell (p := ⟨w.heap.size, 3, none⟩) z0).trans q0_3
    replace q0_4 := (hb9.cell (p := ⟨w.heap.size, 4, none⟩) z0).trans q0_4
    replace q0_5 := (hb9.cell (p := ⟨w.heap.size, 5, none⟩) z0).trans q0_5
    replace q1_0 := (hb9.cell (p := ⟨w.heap.size + 1, 0, none⟩) z1).trans q1_0
    replace q1_1 := (hb9.cell (p := ⟨w.heap.size + 1, 1, none⟩) z1).trans q1_1
    replace q2_0 := (hb9.cell (p := ⟨w.heap.size + 1 + 1, 0, none⟩) z2).trans q2_0
    replace q2_1 := (hb9.cell (p := ⟨w.heap.size + 1 + 1, 1, none⟩) z2).trans q2_1
    replace q2_2 := (hb9.cell (p := ⟨w.heap.size + 1 + 1, 2, none⟩) z2).trans q2_2
    replace q2_3 := (hb9.cell (p := ⟨w.heap.size + 1 + 1, 3, none⟩) z2).trans q2_3
    replace q2_4 := (hb9.cell (p := ⟨w.heap.size + 1 + 1, 4, none⟩) z2).trans q2_4
    replace q2_5 := (hb9.cell (p := ⟨w.heap.size + 1 + 1, 5, none⟩) z2).trans q2_5
    replace q2_6 := (hb9.cell (p := ⟨w.heap.size + 1 + 1, 6, none⟩) z2).trans q2_6
    replace q2_7 := (hb9.cell (p := ⟨w.heap.size + 1 + 1, 7, none⟩) z2).trans q2_7
    replace z0 := Nat.lt_of_lt_of_le z0 hb9.size
    replace z1 := Nat.lt_of_lt_of_le z1 hb9.size
    replace z2 := Nat.lt_of_lt_of_le z2 hb9.size
    clear hb9 hc9 hf9
    go_wp2_with fail
    go_at_call 53
    refine (HC.out _ HW1).mono ?_
    rintro e w2 ⟨⟨v2, rfl, A2, c2, rfl, h2⟩, hb2⟩
    have hM2 : MadeV _ w2 A2 c2 (srt l) := h2
    replace f2 := fun o => (hb2.frozen (p := ⟨w.heap.size + 1 + 1, o, none⟩) z2).trans (f2 o)
    have HB := HW1.trans (hb2.mono HW1.size)
    replace q0_0 := (hb2.cell (p := ⟨w.heap.size, 0, none⟩) z0).trans q0_0
    replace q0_1 := (hb2.cell (p := ⟨w.heap.size, 1, none⟩) z0).trans q0_1
    replace q0_2 := (hb2.cell (p := ⟨w.heap.size, 2, none⟩) z0).trans q0_2
    replace q0_3 := (hb2.cell (p := ⟨w.heap.size, 3, none⟩) z0).trans q0_3
    replace q0_4 := (hb2.cell (p := ⟨w.heap.size, 4, none⟩) z0).trans q0_4
    replace q0_5 := (hb2.cell (p := ⟨w.heap.size, 5, none⟩) z0).trans q0_5
    replace q1_0 := (hb2.cell (p := ⟨w.heap.size + 1, 0, none⟩) z1).trans q1_0
    replace q1_1 := (hb2.cell (p := ⟨w.heap.size + 1, 1, none⟩) z1).trans q1_1
    replace q2_0 := (hb2.cell (p := ⟨w.heap.size + 1 + 1, 0, none⟩) z2).trans q2_0
    replace q2_1 := (hb2.cell (p := ⟨w.heap.size + 1 + 1, 1, none⟩) z2).trans q2_1
    replace q2_2 := (hb2.cell (p := ⟨w.heap.size + 1 + 1, 2, none⟩) z2).trans q2_2
    replace q2_3 := (hb2.cell (p := ⟨w.heap.size + 1 + 1, 3, none⟩) z2).trans q2_3
    replace q2_4 := (hb2.cell (p := ⟨w.heap.size + 1 + 1, 4, none⟩) z2).trans q2_4
    replace q2_5 := (hb2.cell (p := ⟨w.heap.size + 1 + 1, 5, none⟩) z2).trans q2_5
    replace q2_6 := (hb2.cell (p := ⟨w.heap.size + 1 + 1, 6, none⟩) z2).trans q2_6
    replace q2_7 := (hb2.cell (p := ⟨w.heap.size + 1 + 1, 7, none⟩) z2).trans q2_7
    replace z0 := Nat.lt_of_lt_of_le z0 hb2.size
    replace z1 := Nat.lt_of_lt_of_le z1 hb2.size
    replace z2 := Nat.lt_of_lt_of_le z2 hb2.size
    clear hb2 h2
    go_wp2
    refine bodyPost_ret (by simp [results, Try.results23, go_sem, *] <;> rfl) rfl ⟨⟨A2, c2, rfl, (by (refine MadeV.base (b := w.heap.size + 3) ?_ (by omega)); (repeat refine MadeV.setCell ?_ (by first | omega | (simp; omega)) _); first | exact hM2 | exact hM2.base (by omega))⟩, (by repeat (first | (with_reducible assumption) | (with_reducible exact Below.refl _ _) | (with_reducible refine Below.alloc ?_ (by first | omega | (simp; omega) | (simp; done) | (dsimp only; omega)) _) | (with_reducible refine Below.setCell ?_ (by first | omega | (simp; omega) | (simp; done) | (dsimp only; omega)) _) | (with_reducible refine Below.drew ?_) | (with_reducible refine Below.trans ?_ (Below.mono (by assumption) (by first | omega | (simp; omega) | (simp; done) | (dsimp only; omega))))))⟩
end Go.Proofs.Ytdpnphnafidpiaa
