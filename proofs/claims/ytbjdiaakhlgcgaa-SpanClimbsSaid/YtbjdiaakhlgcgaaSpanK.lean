/- The law of layer 3 that says that widening ends, walked. -/
import Derived.Test.YtbjdiaakhlgcgaaSpanJ
namespace Go.Proofs.Ytbjdiaakhlgcgaa
open Go.RowKit

/-- How many rungs lie below, or above, and the last one at the end. -/
def lowR (L : List Int) (n : Int) : Nat := L.countP (fun y => decide (y < n)) + (if -9223372036854775808 < n then 1 else 0)
def highR (L : List Int) (n : Int) : Nat := L.countP (fun y => decide (n < y)) + (if n < 9223372036854775807 then 1 else 0)
theorem lowR_le (L : List Int) (n : Int) : lowR L n ≤ L.length + 1 := by
  unfold lowR; have := List.countP_le_length (p := fun y => decide (y < n)) (l := L); split <;> omega
theorem highR_le (L : List Int) (n : Int) : highR L n ≤ L.length + 1 := by
  unfold highR; have := List.countP_le_length (p := fun y => decide (n < y)) (l := L); split <;> omega
theorem countP_mono' (L : List Int) {p q : Int → Bool} (h : ∀ x, p x = true → q x = true) : L.countP p ≤ L.countP q := by
  induction L with
  | nil => simp
  | cons x L ih =>
    rw [List.countP_cons, List.countP_cons]
    by_cases hp : p x = true
    · rw [if_pos hp, if_pos (h x hp)]; omega
    · rw [if_neg hp]; omega
theorem countP_lt' {L : List Int} {p q : Int → Bool} (h : ∀ x, p x = true → q x = true) {y : Int} (hy : y ∈ L) (hp : p y = false) (hq : q y = true) : L.countP p + 1 ≤ L.countP q := by
  induction L with
  | nil => cases hy
  | cons x L ih =>
    rw [List.countP_cons, List.countP_cons]
    rcases List.mem_cons.1 hy with rfl | hy
    · rw [if_neg (by rw [hp]; decide), if_pos hq]
      have := countP_mono' L h
      omega
    · have := ih hy
      by_cases hx : p x = true
      · rw [if_pos hx, if_pos (h x hx)]; omega
      · rw [if_neg hx]; omega
theorem lowR_mono (L : List Int) {a b : Int} (h : a ≤ b) : lowR L a ≤ lowR L b := by
  unfold lowR
  have := countP_mono' L (p := fun y => decide (y < a)) (q := fun y => decide (y < b)) (fun x hx => by simp at hx ⊢; omega)
  split <;> split <;> omega
theorem highR_mono (L : List Int) {a b : Int} (h : b ≤ a) : highR L a ≤ highR L b := by
  unfold highR
  have := countP_mono' L (p := fun y => decide (a < y)) (q := fun y => decide (b < y)) (fun x hx => by simp at hx ⊢; omega)
  split <;> split <;> omega
theorem lowR_lt {L : List Int} {a b : Int} (ha : a ∈ L ∨ a = -9223372036854775808) (h : a < b) : lowR L a + 1 ≤ lowR L b := by
  unfold lowR
  rcases ha with ha | ha
  · have := countP_lt' (L := L) (p := fun y => decide (y < a)) (q := fun y => decide (y < b)) (fun x hx => by simp at hx ⊢; omega) ha (by simp) (by simpa using h)
    split <;> split <;> omega
  · have := countP_mono' L (p := fun y => decide (y < a)) (q := fun y => decide (y < b)) (fun x hx => by simp at hx ⊢; omega)
    rw [if_neg (by omega), if_pos (by omega)]; omega
theorem highR_lt {L : List Int} {a b : Int} (ha : a ∈ L ∨ a = 9223372036854775807) (h : b < a) : highR L a + 1 ≤ highR L b := by
  unfold highR
  rcases ha with ha | ha
  · have := countP_lt' (L := L) (p := fun y => decide (a < y)) (q := fun y => decide (b < y)) (fun x hx => by simp at hx ⊢; omega) ha (by simp) (by simpa using h)
    split <;> split <;> omega
  · have := countP_mono' L (p := fun y => decide (a < y)) (q := fun y => decide (b < y)) (fun x hx => by simp at hx ⊢; omega)
    rw [if_neg (by omega), if_pos (by omega)]; omega

/-- A rung below, or the least int. -/
theorem below_spec (L : List Int) (n : Int) (hn : -9223372036854775808 ≤ n) : (below L n ∈ L ∨ below L n = -9223372036854775808) ∧ below L n ≤ n ∧ -9223372036854775808 ≤ below L n := by
  have key : ∀ (M : List Int) (b : Int), (∀ x ∈ M, x ∈ L) → (b ∈ L ∨ b = -9223372036854775808) → b ≤ n → -9223372036854775808 ≤ b →
      let r := M.foldl (fun best x => if x ≤ n then max best x else best) b
      (r ∈ L ∨ r = -9223372036854775808) ∧ r ≤ n ∧ -9223372036854775808 ≤ r := by
    intro M
    induction M with
    | nil => intro b _ h1 h2 h3; exact ⟨h1, h2, h3⟩
    | cons x M ih =>
      intro b hM h1 h2 h3
      refine ih _ (fun y hy => hM y (List.mem_cons_of_mem _ hy)) ?_ ?_ ?_ <;> dsimp only
      · split
        · by_cases hb : b ≤ x
          · rw [Int.max_eq_right hb]; exact Or.inl (hM x List.mem_cons_self)
          · rw [Int.max_eq_left (by omega)]; exact h1
        · exact h1
      · split <;> omega
      · split <;> omega
  exact key L _ (fun _ h => h) (Or.inr rfl) hn (Int.le_refl _)
theorem above_spec (L : List Int) (n : Int) (hn : n ≤ 9223372036854775807) : (above L n ∈ L ∨ above L n = 9223372036854775807) ∧ n ≤ above L n ∧ above L n ≤ 9223372036854775807 := by
  have key : ∀ (M : List Int) (b : Int), (∀ x ∈ M, x ∈ L) → (b ∈ L ∨ b = 9223372036854775807) → n ≤ b → b ≤ 9223372036854775807 →
      let r := M.foldl (fun best x => if n ≤ x then min best x else best) b
      (r ∈ L ∨ r = 9223372036854775807) ∧ n ≤ r ∧ r ≤ 9223372036854775807 := by
    intro M
    induction M with
    | nil => intro b _ h1 h2 h3; exact ⟨h1, h2, h3⟩
    | cons x M ih =>
      intro b hM h1 h2 h3
      refine ih _ (fun y hy => hM y (List.mem_cons_of_mem _ hy)) ?_ ?_ ?_ <;> dsimp only
      · split
        · by_cases hb : x ≤ b
          · rw [Int.min_eq_right hb]; exact Or.inl (hM x List.mem_cons_self)
          · rw [Int.min_eq_left (by omega)]; exact h1
        · exact h1
      · split <;> omega
      · split <;> omega
  exact key L _ (fun _ h => h) (Or.inr rfl) hn (Int.le_refl _)

/-- How often a span can still change by widening. -/
def Sp.wrank (L : List Int) (s : Sp) : Nat := if s.none = true then 2 * L.length + 3 else lowR L s.lo + highR L s.hi
def Sp.ok (s : Sp) : Prop := I64 s.lo ∧ I64 s.hi
theorem Sp.wrank_le (L : List Int) (s : Sp) : s.wrank L ≤ 2 * L.length + 3 := by
  unfold Sp.wrank; split
  · omega
  · have := lowR_le L s.lo; have := highR_le L s.hi; omega
theorem Sp.widen_ok {s x : Sp} (L : List Int) (hs : s.ok) (hx : x.ok) (hcl : s.clean = s) :
    (s.widen x L).clean = s.widen x L ∧ (s.widen x L).ok ∧ s.leq (s.widen x L) = true ∧ x.leq (s.widen x L) = true ∧ (s.widen x L ≠ s → (s.widen x L).wrank L + 1 ≤ s.wrank L) := by
  have hz : Sp.zero.ok := ⟨⟨by decide, by decide⟩, ⟨by decide, by decide⟩⟩
  cases h : s.none
  · cases h' : x.leq s
    · rw [Sp.widen_3 L h h']
      have hxn : x.none = false := by
        cases hx' : x.none
        · rfl
        · rw [Sp.leq_none s hx'] at h'; cases h'
      have hs0 := (Sp.none_iff s).1 h
      have hx0 := (Sp.none_iff x).1 hxn
      obtain ⟨b1, b2, b3⟩ := below_spec L x.lo hx.1.1
      obtain ⟨c1, c2, c3⟩ := above_spec L x.hi hx.2.2
      have hs1 := hs.1; have hs2 := hs.2; have hx1 := hx.1; have hx2 := hx.2
      unfold I64 at hs1 hs2 hx1 hx2
      have hlo : (if x.lo < s.lo then below L x.lo else s.lo) ≤ s.lo ∧ (if x.lo < s.lo then below L x.lo else s.lo) ≤ x.lo ∧ -9223372036854775808 ≤ (if x.lo < s.lo then below L x.lo else s.lo) := by split <;> omega
      have hhi : s.hi ≤ (if s.hi < x.hi then above L x.hi else s.hi) ∧ x.hi ≤ (if s.hi < x.hi then above L x.hi else s.hi) ∧ (if s.hi < x.hi then above L x.hi else s.hi) ≤ 9223372036854775807 := by split <;> omega
      have hrl : x.lo < s.lo → lowR L (if x.lo < s.lo then below L x.lo else s.lo) + 1 ≤ lowR L s.lo := fun hc => by
        rw [if_pos hc]; exact lowR_lt b1 (by omega)
      have hrh : s.hi < x.hi → highR L (if s.hi < x.hi then above L x.hi else s.hi) + 1 ≤ highR L s.hi := fun hc => by
        rw [if_pos hc]; exact highR_lt c1 (by omega)
      have hd : x.lo < s.lo ∨ s.hi < x.hi := by
        rw [Sp.leq_some hxn h] at h'
        simp at h'
        by_cases hc : x.lo < s.lo
        · exact Or.inl hc
        · exact Or.inr (h' (by omega))
      generalize (if x.lo < s.lo then below L x.lo else s.lo) = lo at *
      generalize (if s.hi < x.hi then above L x.hi else s.hi) = hi at *
      have hne : ¬ hi < lo := by omega
      have hml := lowR_mono L hlo.1
      have hmh := highR_mono L hhi.1
      rw [Sp.of_f hne]
      have hn := Sp.none_f hne
      refine ⟨Sp.clean_some hn, ⟨⟨by dsimp only; omega, by dsimp only; omega⟩, ⟨by dsimp only; omega, by dsimp only; omega⟩⟩, ?_, ?_, fun _ => ?_⟩
      · rw [Sp.leq_iff]; exact Or.inr ⟨hn, hlo.1, hhi.1⟩
      · rw [Sp.leq_iff]; exact Or.inr ⟨hn, hlo.2.1, hhi.2.1⟩
      · unfold Sp.wrank
        rw [hn, h]
        simp only [Bool.false_eq_true, if_false]
        rcases hd with hd | hd
        · have := hrl hd; omega
        · have := hrh hd; omega
    · rw [Sp.widen_2 L h h']
      exact ⟨hcl, hs, Sp.leq_refl s, h', fun hc => absurd rfl hc⟩
  · rw [Sp.widen_1 L h]
    refine ⟨Sp.clean_clean x, ?_, Sp.leq_none _ h, by rw [Sp.leq_clean]; exact Sp.leq_refl x, fun hne => ?_⟩
    · cases hx' : x.none
      · rw [Sp.clean_some hx']; exact hx
      · rw [Sp.clean_none hx']; exact hz
    · cases hx' : x.none
      · rw [Sp.clean_some hx']
        unfold Sp.wrank
        rw [hx', h]
        simp only [Bool.false_eq_true, if_false, if_true]
        have := lowR_le L x.lo; have := highR_le L x.hi; omega
      · rw [Sp.clean_none h] at hcl
        rw [Sp.clean_none hx'] at hne
        exact absurd hcl hne

def ClimbRel (l : List Sp) (L : List Int) (N : Nat) (w : World) (vn vi : Value) (wx : World) : Prop :=
  ∃ (k n : Nat) (s : Sp), k ≤ l.length ∧ vi = .int .i64 k ∧ vn = .int .i64 n ∧ n + s.wrank L ≤ 2 * L.length + 3 ∧ s.clean = s ∧ s.ok ∧ wx.heap[N]? = some (.cells #[.bool s.s, .int .i64 s.lo, .int .i64 s.hi] 23) ∧ Below N w wx

set_option maxRecDepth 100000 in
set_option maxHeartbeats 4000000 in
theorem law_spanClimbs (l : List Sp) (A : Option Addr) (c : Nat) (L : List Int) (B : Option Addr) (d : Nat) (w : World) (hm : l.length ≤ 9223372036854775807) (hr : SRow w A l) (hall : ∀ s ∈ l, s.ok) (hm2 : L.length ≤ 17592186044416) (hr2 : IRow w B L) :
    Calls Try.prog 7 #[.slice A l.length c, .slice B L.length d] w fun e w' => e = .returned (.bool true) ∧ Below w.heap.size w w' := by
  have HL := Lib.hid law03_lives
  have HR0 : Hid (∀ w', Below w.heap.size w w' → IRow w' B L) := Lib.hid (fun w' h => hr2.mono h)
  have HW : Hid (∀ (s x : Sp) (w' : World), IRow w' B L → Calls Try.prog 30 #[.agg #[.bool s.s, .int .i64 s.lo, .int .i64 s.hi], .agg #[.bool x.s, .int .i64 x.lo, .int .i64 x.hi], .slice B L.length d] w' fun e w'' => e = .returned (.agg #[.bool (s.widen x L).s, .int .i64 (s.widen x L).lo, .int .i64 (s.widen x L).hi]) ∧ Below w'.heap.size w' w'') := Lib.hid (fun s x w' h => span_widen s x L B d w' (by omega) h)
  have HALL := Lib.hid hall
  clear hr2 hall
  go_enter Try.func7, Try.ntmps7
  go_wp2
  go_loopw [6, 7] (fun vn vi wx => ClimbRel l L w.heap.size w vn vi wx) (fun _ vi _ => l.length - (intOf vi).toNat)
  case atStart =>
    refine ⟨0, 0, Sp.zero, Nat.zero_le _, rfl, rfl, by have := Sp.wrank_le L Sp.zero; omega, rfl, ⟨⟨by decide, by decide⟩, ⟨by decide, by decide⟩⟩, ?_, (by repeat (first | (with_reducible assumption) | (with_reducible exact Below.refl _ _) | (with_reducible refine Below.alloc ?_ (by first | omega | (simp; omega) | (simp; done) | (dsimp only; omega)) _) | (with_reducible refine Below.setCell ?_ (by first | omega | (simp; omega) | (simp; done) | (dsimp only; omega)) _) | (with_reducible refine Below.drew ?_) | (with_reducible refine Below.trans ?_ (Below.mono (by assumption) (by first | omega | (simp; omega) | (simp; done) | (dsimp only; omega))))))⟩
    first
      | (show (w.heap.push _)[_]? = _; simp [Sp.zero]; done)
      | (refine blk_set3 (c0 := .bool false) (c1 := .int .i64 0) (c2 := .int .i64 0) ?_; show (w.heap.push _)[_]? = _; simp)
  case round =>
    obtain ⟨k, n, s, hk, rfl, rfl, hrk, hcl, hok, hs, hB⟩ := hrel
    have q0_0 := blk_cell hs 0
    have q0_1 := blk_cell hs 1
    have q0_2 := blk_cell hs 2
    simp only [List.getElem?_toArray, List.getElem?_cons_zero, List.getElem?_cons_succ] at q0_0 q0_1 q0_2
    have f0 := blk_free hs
    have z0 := blk_lt hs
    have hzr : w.heap.size ≤ wr.heap.size := by omega
    have HS := Lib.hid hs
    have HCL := Lib.hid hcl
    clear hs hcl
    by_cases hlt : k < l.length
    · have hxok := HALL.out l[k] (List.getElem_mem hlt)
      obtain ⟨bb, oo, rfl, e0, e1, e2, hbb⟩ := hr.cell hlt
      generalize l[k] = x at *
      have y0 := (hB.cell (p := ⟨bb, oo + k * 3, none⟩) hbb).trans e0
      have y1 := (hB.cell (p := ⟨bb, oo + k * 3 + 1, none⟩) hbb).trans e1
      have y2 := (hB.cell (p := ⟨bb, oo + k * 3 + 2, none⟩) hbb).trans e2
      have zb : bb < wr.heap.size := Nat.lt_trans hbb z0
      clear e0 e1 e2
      have H1 := Lib.hid (HW.out s x)
      have HF := Lib.hid (Sp.widen_ok L hok hxok HCL.out)
      have h2 := span_leq s (s.widen x L)
      rw [HF.out.2.2.1] at h2
      have h3 := span_leq x (s.widen x L)
      rw [HF.out.2.2.2.1] at h3
      have H2 := Lib.hid h2
      have H3 := Lib.hid h3
      clear h2 h3 hxok
      generalize s.widen x L = t at *
      go_wp2
      refine region_seqg (W := wr) [_, _, _, _, _, _, _, _] [_] rfl (by kernel_rfl) (by kernel_rfl) (by repeat (first | (with_reducible assumption) | (with_reducible exact Below.refl _ _) | (with_reducible refine Below.alloc ?_ (by first | omega | (simp; omega) | (simp; done) | (dsimp only; omega)) _) | (with_reducible refine Below.setCell ?_ (by first | omega | (simp; omega) | (simp; done) | (dsimp only; omega)) _) | (with_reducible refine Below.drew ?_) | (with_reducible refine Below.trans ?_ (Below.mono (by assumption) (by first | omega | (simp; omega) | (simp; done) | (dsimp only; omega)))))) (fun fin hfin => ?_)
      iterate 7
        first
          | (refine SeqG.yes (v := ?_) (A' := ?_) rfl (fun γ => by rfl) ?_ ?_ ?_
             rotate_left 2
             · intro γ w' K hS hK
               obtain ⟨hc, hf⟩ := bcell hS
               have hz := hS.size
               go_simp
               first
                 | exact hK.out _ (Below.refl _ _)
                 | (go_at_call 30; (with_reducible refine (H1.out _ (HR0.out _ (hB.trans (hS.mono hzr)))).mono ?_); rintro e w1 ⟨rfl, hb1⟩; exact hK.out _ hb1)
                 | trace_state
             · intro γ; simp only [Act.put, List.setIfInBounds_toArray, List.set_cons_zero, List.set_cons_succ]; exact rfl)
          | (refine SeqG.no (A' := ?_) rfl (fun γ => by rfl) ?_ ?_
             rotate_left
             · intro γ; simp only [Act.put, List.setIfInBounds_toArray, List.set_cons_zero, List.set_cons_succ]; exact rfl)
      refine SeqG.make (k := 7) (A' := ?_) (fun g => .pointer (some ⟨g 0, 0, none⟩)) (RCell #[.bool false, .int .i64 0, .int .i64 0] 23) rfl (fun γ => by rfl) (RCell.stable _ _) ?_ ?_ ?_
      rotate_left
      · intro γ w' K hS _ hK
        have hm := RCell.made (#[.bool false, .int .i64 0, .int .i64 0]) (23) w'
        have HK := Lib.hid (hK.out (fun _ => w'.heap.size) (w'.alloc (.cells #[.bool false, .int .i64 0, .int .i64 0] 23)) ((Below.refl _ _).alloc (Nat.le_refl _) _) hm); clear hK hm
        go_simp
        exact HK.out
      · intro γ; simp only [Act.put, List.setIfInBounds_toArray, List.set_cons_zero, List.set_cons_succ]; exact rfl
      refine SeqG.nil (hfin.out _ _ ?_)
      clear hfin fin
      intro γ lo hi w1 hB1 hF hD
      replace hF := listF1 hF
      dsimp only at hF
      clear hD
      obtain ⟨_, _, y7, o7, p7, h7⟩ := hF
      have w7 : wr.heap.size ≤ γ 7 0 := by omega
      have x7 : γ 7 0 < w1.heap.size := by omega
      clear o7 p7 y7
      generalize γ 7 0 = b7 at *
      have g7 := blk_cell h7
      have f7 := blk_free h7
      have K7 := Lib.hid h7; clear h7
      refine TailL.cons (fun K hK => ?_)
      go_simp
      refine hK.out _ _ ?_
      clear hK K
      refine TailL.nil ?_
      generalize hX : ((w1.setCell ⟨b7, 0, none⟩ (.bool t.s)).setCell ⟨b7, 1, none⟩ (.int .i64 t.lo)).setCell ⟨b7, 2, none⟩ (.int .i64 t.hi) = X
      have HX : Below wr.heap.size wr X := by rw [← hX]; exact (by repeat (first | (with_reducible assumption) | (with_reducible exact Below.refl _ _) | (with_reducible refine Below.alloc ?_ (by first | omega | (simp; omega) | (simp; done) | (dsimp only; omega)) _) | (with_reducible refine Below.setCell ?_ (by first | omega | (simp; omega) | (simp; done) | (dsimp only; omega)) _) | (with_reducible refine Below.drew ?_) | (with_reducible refine Below.trans ?_ (Below.mono (by assumption) (by first | omega | (simp; omega) | (simp; done) | (dsimp only; omega))))))
      have q7 : X.heap[b7]? = some (.cells #[.bool t.s, .int .i64 t.lo, .int .i64 t.hi] 23) := by rw [← hX]; exact blk_set3 K7.out
      clear hX g7 f7 hB1
      have q7_0 := blk_cell q7 0
      have q7_1 := blk_cell q7 1
      have q7_2 := blk_cell q7 2
      simp only [List.getElem?_toArray, List.getElem?_cons_zero, List.getElem?_cons_succ] at q7_0 q7_1 q7_2
      have z7 := blk_lt q7
      have hne0 : b7 ≠ w.heap.size := by omega
      have q0 : X.heap[w.heap.size]? = some (.cells #[.bool s.s, .int .i64 s.lo, .int .i64 s.hi] 23) := by rw [HX.block _ z0]; exact HS.out
      have f0 := blk_free q0
      have HX2 : Below w.heap.size w X := hB.trans (HX.mono (by omega))
      replace y0 := (HX.cell (p := ⟨bb, oo + k * 3, none⟩) zb).trans y0
      replace y1 := (HX.cell (p := ⟨bb, oo + k * 3 + 1, none⟩) zb).trans y1
      replace y2 := (HX.cell (p := ⟨bb, oo + k * 3 + 2, none⟩) zb).trans y2
      replace zb := Nat.lt_of_lt_of_le zb HX.size
      replace z0 := blk_lt q0
      replace q0_0 := blk_cell q0 0
      replace q0_1 := blk_cell q0 1
      replace q0_2 := blk_cell q0 2
      simp only [List.getElem?_toArray, List.getElem?_cons_zero, List.getElem?_cons_succ] at q0_0 q0_1 q0_2
      have Q0 := Lib.hid q0
      clear q7 q0 HS HX hB K7 H1 w7 x7 hzr
      go_wp2
      refine region_seq (S := fun w' => Below X.heap.size X w') rfl (by kernel_rfl) (by kernel_rfl) (by repeat (first | (with_reducible assumption) | (with_reducible exact Below.refl _ _) | (with_reducible refine Below.alloc ?_ (by first | omega | (simp; omega) | (simp; done) | (dsimp only; omega)) _) | (with_reducible refine Below.setCell ?_ (by first | omega | (simp; omega) | (simp; done) | (dsimp only; omega)) _) | (with_reducible refine Below.drew ?_) | (with_reducible refine Below.trans ?_ (Below.mono (by assumption) (by first | omega | (simp; omega) | (simp; done) | (dsimp only; omega)))))) (fun fin hfin => ?_)
      iterate 13
        first
          | (refine SeqL.yes (v := ?_) (A' := ?_) rfl (by rfl) ?_ ?_ ?_
             rotate_left 2
             · intro w' K hS hK
               obtain ⟨hc, hf⟩ := bcell hS
               have hz := hS.size
               go_simp
               first
                 | exact hK.out _ hS
                 | (go_at_call 17; (with_reducible refine (H2.out _).mono ?_); rintro e w1 ⟨rfl, hb1⟩; exact hK.out _ (hS.trans (hb1.mono hz)))
                 | (go_at_call 17; (with_reducible refine (H3.out _).mono ?_); rintro e w1 ⟨rfl, hb1⟩; exact hK.out _ (hS.trans (hb1.mono hz)))
                 | trace_state
             · simp only [Act.put, List.setIfInBounds_toArray, List.set_cons_zero, List.set_cons_succ]; exact rfl)
          | (refine SeqL.no (A' := ?_) rfl (by rfl) ?_ ?_
             rotate_left
             · simp only [Act.put, List.setIfInBounds_toArray, List.set_cons_zero, List.set_cons_succ]; exact rfl)
      refine SeqL.nil (hfin.out _ ?_)
      clear hfin fin
      intro w1 hS1
      have hz := hS1.size
      obtain ⟨hc1, hf1⟩ := bcell hS1
      have hn3 : (n : Int) ≤ 35184372088835 := by omega
      by_cases heq : t = s
      · subst heq
        go_wp2
        go_roundw
        case rel =>
          refine ⟨k + 1, n, t, by omega, by go_num, rfl, hrk, HCL.out, hok, ?_, (by repeat (first | (with_reducible assumption) | (with_reducible exact Below.refl _ _) | (with_reducible refine Below.alloc ?_ (by first | omega | (simp; omega) | (simp; done) | (dsimp only; omega)) _) | (with_reducible refine Below.setCell ?_ (by first | omega | (simp; omega) | (simp; done) | (dsimp only; omega)) _) | (with_reducible refine Below.drew ?_) | (with_reducible refine Below.trans ?_ (Below.mono (by assumption) (by first | omega | (simp; omega) | (simp; done) | (dsimp only; omega))))))⟩
          refine blk_set3 (c0 := .bool t.s) (c1 := .int .i64 t.lo) (c2 := .int .i64 t.hi) ?_
          rw [hS1.block _ z0]; exact Q0.out
        case measure => simp [intOf]; omega
      · have hrt := HF.out.2.2.2.2 heq
        have hw : ((t.s == s.s) = false) ∨ ((t.s == s.s) = true ∧ (t.lo == s.lo) = false) ∨ ((t.s == s.s) = true ∧ (t.lo == s.lo) = true ∧ (t.hi == s.hi) = false) := by
          by_cases h1 : t.s = s.s
          · by_cases h2 : t.lo = s.lo
            · exact Or.inr (Or.inr ⟨by simp [h1], by simp [h2], by simpa using fun h3 => heq (Sp.ext' h1 h2 h3)⟩)
            · exact Or.inr (Or.inl ⟨by simp [h1], by simpa using h2⟩)
          · exact Or.inl (by simpa using h1)
        rcases hw with k1 | ⟨k1, k2⟩ | ⟨k1, k2, k3⟩
        all_goals
          go_wp2
          go_roundw
          case rel =>
            refine ⟨k + 1, n + 1, t, by omega, by go_num, by go_num, by omega, HF.out.1, HF.out.2.1, ?_, (by repeat (first | (with_reducible assumption) | (with_reducible exact Below.refl _ _) | (with_reducible refine Below.alloc ?_ (by first | omega | (simp; omega) | (simp; done) | (dsimp only; omega)) _) | (with_reducible refine Below.setCell ?_ (by first | omega | (simp; omega) | (simp; done) | (dsimp only; omega)) _) | (with_reducible refine Below.drew ?_) | (with_reducible refine Below.trans ?_ (Below.mono (by assumption) (by first | omega | (simp; omega) | (simp; done) | (dsimp only; omega))))))⟩
            refine blk_set3 (c0 := .bool s.s) (c1 := .int .i64 s.lo) (c2 := .int .i64 s.hi) ?_
            rw [hS1.block _ z0]; exact Q0.out
          case measure => simp [intOf]; omega
    · have hLi : (L.length : Int) ≤ 17592186044416 := by omega
      have hnd : decide ((n : Int) ≤ 2 * (L.length : Int) + 5) = true := by simp; omega
      go_wp2_with (go_at_call 24; (with_reducible refine (HL.out _).mono ?_); rintro e w1 ⟨rfl, hb1⟩; obtain ⟨hc1, hf1⟩ := bcell hb1; have hz1 := hb1.size; (try simp at hz1); (try have hy1 := Nat.lt_of_succ_le hz1); (try have hv1 := Nat.lt_of_succ_lt hy1); (try have hw10 : w.heap.size < w1.heap.size := by omega); (try have hw11 : w.heap.size + 1 < w1.heap.size := by omega); (try have hw12 : w.heap.size + 1 + 1 < w1.heap.size := by omega); (try have hw13 : w.heap.size + 1 + 1 + 1 < w1.heap.size := by omega))
      go_ret
      exact ⟨rfl, (by repeat (first | (with_reducible assumption) | (with_reducible exact Below.refl _ _) | (with_reducible refine Below.alloc ?_ (by first | omega | (simp; omega) | (simp; done) | (dsimp only; omega)) _) | (with_reducible refine Below.setCell ?_ (by first | omega | (simp; omega) | (simp; done) | (dsimp only; omega)) _) | (with_reducible refine Below.drew ?_) | (with_reducible refine Below.trans ?_ (Below.mono (by assumption) (by first | omega | (simp; omega) | (simp; done) | (dsimp only; omega))))))⟩
end Go.Proofs.Ytbjdiaakhlgcgaa
