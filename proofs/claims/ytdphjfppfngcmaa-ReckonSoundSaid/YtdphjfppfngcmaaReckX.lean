/- That operators on spans are sound, rising, and exact on single ints: layer 4, plain data. -/
import Derived.Test.YtdphjfppfngcmaaReckV
namespace Go.Proofs.Ytdphjfppfngcmaa
open Go.RowKit

def Bd (v : Int) : Prop := -85070591730234615865843651857942052864 ≤ v ∧ v ≤ 85070591730234615865843651857942052864
theorem wrapS_val {lo hi : Int} (h : lo ≤ hi) (bl : Bd lo) (bh : Bd hi) :
    wrapS lo hi = if hi - lo < 18446744073709551616 ∧ wrap64 lo ≤ wrap64 hi then Sp.of (wrap64 lo) (wrap64 hi) else Sp.of (-9223372036854775808) 9223372036854775807 := by
  unfold Bd at bl bh
  unfold wrapS
  rw [if_neg (by omega)]
  have e : hiW (wrap128 (hi - lo)) = 0 ↔ hi - lo < 18446744073709551616 := by unfold hiW wrap128 M64; omega
  by_cases hc : hi - lo < 18446744073709551616 ∧ wrap64 lo ≤ wrap64 hi
  · rw [if_pos hc, if_pos ⟨e.2 hc.1, hc.2⟩]
  · rw [if_neg hc, if_neg (fun h => hc ⟨e.1 h.1, h.2⟩)]
theorem of_has {lo hi n : Int} (h1 : lo ≤ n) (h2 : n ≤ hi) : (Sp.of lo hi).has n = true := by
  rw [Sp.of_f (by omega)]
  unfold Sp.has
  simp only [Bool.true_and, Bool.and_eq_true, decide_eq_true_eq]
  exact ⟨h1, h2⟩
theorem of_leq {lo hi : Int} {b : Sp} (h : lo ≤ hi) (h1 : b.has lo = true) (h2 : b.has hi = true) : (Sp.of lo hi).leq b = true := by
  rw [Sp.of_f (by omega)]
  unfold Sp.leq
  dsimp only
  rw [h1, h2]
  simp
theorem zero_leq (b : Sp) : (⟨false, 0, 0⟩ : Sp).leq b = true := rfl
theorem wrapS_has {lo hi v : Int} (h1 : lo ≤ v) (h2 : v ≤ hi) (bl : Bd lo) (bh : Bd hi) : (wrapS lo hi).has (wrap64 v) = true := by
  rw [wrapS_val (by omega) bl bh]
  split
  · next h =>
    refine of_has ?_ ?_
    · obtain ⟨k1, k2⟩ := h; unfold wrap64 at *; omega
    · obtain ⟨k1, k2⟩ := h; unfold wrap64 at *; omega
  · refine of_has ?_ ?_ <;> unfold wrap64 <;> omega
theorem wrapS_leq {lo hi lo' hi' : Int} (h : lo ≤ hi) (h1 : lo' ≤ lo) (h2 : hi ≤ hi') (bl : Bd lo) (bh : Bd hi) (bl' : Bd lo') (bh' : Bd hi') : (wrapS lo hi).leq (wrapS lo' hi') = true := by
  have k1 := wrapS_has (v := lo) h1 (by omega) bl' bh'
  have k2 := wrapS_has (v := hi) (by omega) h2 bl' bh'
  rw [wrapS_val h bl bh]
  by_cases hc : hi - lo < 18446744073709551616 ∧ wrap64 lo ≤ wrap64 hi
  · rw [if_pos hc]
    exact of_leq hc.2 k1 k2
  · rw [if_neg hc, wrapS_val (by omega) bl' bh', if_neg]
    · rfl
    · intro hd
      apply hc
      obtain ⟨d1, d2⟩ := hd
      refine ⟨by omega, ?_⟩
      unfold wrap64 at *
      omega

def minB : List Int → Int
  | [] => 0
  | x :: r => minL r x
def maxB : List Int → Int
  | [] => 0
  | x :: r => maxL r x
theorem minB_spec {L : List Int} (h : L ≠ []) : minB L ∈ L ∧ ∀ x ∈ L, minB L ≤ x := by
  cases L with
  | nil => exact absurd rfl h
  | cons a r =>
    obtain ⟨h1, h2, h3⟩ := minL_spec r a
    refine ⟨?_, ?_⟩
    · rcases h1 with h1 | h1
      · show minL r a ∈ _; rw [h1]; exact List.mem_cons_self
      · exact List.mem_cons_of_mem _ h1
    · intro x hx
      rcases List.mem_cons.1 hx with rfl | hx
      · exact h2
      · exact h3 x hx
theorem maxB_spec {L : List Int} (h : L ≠ []) : maxB L ∈ L ∧ ∀ x ∈ L, x ≤ maxB L := by
  cases L with
  | nil => exact absurd rfl h
  | cons a r =>
    obtain ⟨h1, h2, h3⟩ := maxL_spec r a
    refine ⟨?_, ?_⟩
    · rcases h1 with h1 | h1
      · show maxL r a ∈ _; rw [h1]; exact List.mem_cons_self
      · exact List.mem_cons_of_mem _ h1
    · intro x hx
      rcases List.mem_cons.1 hx with rfl | hx
      · exact h2
      · exact h3 x hx
theorem betS_eq {L : List Int} (h : L ≠ []) : betS L = wrapS (minB L) (maxB L) := by
  cases L with
  | nil => exact absurd rfl h
  | cons a r => rfl
def inL (L : List Int) (v : Int) : Prop := ∃ p ∈ L, ∃ q ∈ L, p ≤ v ∧ v ≤ q
theorem inL.ne {L : List Int} {v : Int} (h : inL L v) : L ≠ [] := by
  obtain ⟨p, hp, _⟩ := h
  intro e; subst e; simp at hp
theorem bet_has {L : List Int} {v : Int} (hb : ∀ z ∈ L, Bd z) (h : inL L v) : (betS L).has (wrap64 v) = true := by
  have hn := h.ne
  obtain ⟨p, hp, q, hq, h1, h2⟩ := h
  obtain ⟨a1, a2⟩ := minB_spec hn
  obtain ⟨b1, b2⟩ := maxB_spec hn
  rw [betS_eq hn]
  have := a2 p hp
  have := b2 q hq
  exact wrapS_has (by omega) (by omega) (hb _ a1) (hb _ b1)
theorem bet_leq {L L' : List Int} (hb : ∀ z ∈ L, Bd z) (hb' : ∀ z ∈ L', Bd z) (h : ∀ z ∈ L, inL L' z) : (betS L).leq (betS L') = true := by
  by_cases hn : L = []
  · subst hn; rfl
  · obtain ⟨a1, a2⟩ := minB_spec hn
    obtain ⟨b1, b2⟩ := maxB_spec hn
    have hm := h _ a1
    have hM := h _ b1
    have hn' := hm.ne
    obtain ⟨c1, c2⟩ := minB_spec hn'
    obtain ⟨d1, d2⟩ := maxB_spec hn'
    obtain ⟨p, hp, _, _, h1, _⟩ := hm
    obtain ⟨_, _, q, hq, _, h2⟩ := hM
    have := c2 p hp
    have := d2 q hq
    have := a2 _ b1
    rw [betS_eq hn, betS_eq hn']
    exact wrapS_leq (by omega) (by omega) (by omega) (hb _ a1) (hb _ b1) (hb' _ c1) (hb' _ d1)

theorem ex4_Bd (op : Int) {x y : Int} (hx : I64 x) (hy : I64 y) : Bd (ex4 op x y) := by
  unfold ex4
  split
  · have := tdiv_le (y := y) hx
    unfold Bd; omega
  · unfold exV
    have := prod_bd hx hy
    unfold I64 at hx hy
    unfold Bd
    split
    · omega
    · split
      · omega
      · split <;> omega
theorem cor_Bd (op : Int) {x0 x1 y0 y1 : Int} (h1 : I64 x0) (h2 : I64 x1) (h3 : I64 y0) (h4 : I64 y1) : ∀ x ∈ cor4 op x0 x1 y0 y1, Bd x := by
  intro x hx
  unfold cor4 at hx
  simp only [List.mem_cons, List.not_mem_nil, or_false] at hx
  rcases hx with rfl | rfl | rfl | rfl
  · exact ex4_Bd op h1 h3
  · exact ex4_Bd op h1 h4
  · exact ex4_Bd op h2 h3
  · exact ex4_Bd op h2 h4

theorem mul_between {a0 a1 x y : Int} (h0 : a0 ≤ x) (h1 : x ≤ a1) : (a0 * y ≤ x * y ∧ x * y ≤ a1 * y) ∨ (a1 * y ≤ x * y ∧ x * y ≤ a0 * y) := by
  by_cases h : 0 ≤ y
  · exact Or.inl ⟨Int.mul_le_mul_of_nonneg_right h0 h, Int.mul_le_mul_of_nonneg_right h1 h⟩
  · exact Or.inr ⟨Int.mul_le_mul_of_nonpos_right h1 (by omega), Int.mul_le_mul_of_nonpos_right h0 (by omega)⟩
theorem mul_between' {b0 b1 x y : Int} (h0 : b0 ≤ y) (h1 : y ≤ b1) : (x * b0 ≤ x * y ∧ x * y ≤ x * b1) ∨ (x * b1 ≤ x * y ∧ x * y ≤ x * b0) := by
  have := mul_between (y := x) h0 h1
  rw [Int.mul_comm b0, Int.mul_comm b1, Int.mul_comm y] at this
  exact this
theorem cor_in {op : Int} (ho : op = 7 ∨ op = 10 ∨ op = 11) {a0 a1 b0 b1 x y : Int} (h1 : a0 ≤ x) (h2 : x ≤ a1) (h3 : b0 ≤ y) (h4 : y ≤ b1) : inL (cor4 op a0 a1 b0 b1) (ex4 op x y) := by
  rcases ho with rfl | rfl | rfl
  · have e : ∀ x y, ex4 7 x y = x * y := fun x y => rfl
    unfold inL cor4
    simp only [e, List.mem_cons, List.not_mem_nil, or_false, exists_eq_or_imp, exists_eq_left]
    have k := mul_between (y := y) h1 h2
    have k1 := mul_between' (x := a0) h3 h4
    have k2 := mul_between' (x := a1) h3 h4
    omega
  · have e : ∀ x y, ex4 10 x y = x + y := fun x y => rfl
    unfold inL cor4
    simp only [e, List.mem_cons, List.not_mem_nil, or_false, exists_eq_or_imp, exists_eq_left]
    omega
  · have e : ∀ x y, ex4 11 x y = x - y := fun x y => rfl
    unfold inL cor4
    simp only [e, List.mem_cons, List.not_mem_nil, or_false, exists_eq_or_imp, exists_eq_left]
    omega
theorem tdiv_x {x x' y : Int} (h : x ≤ x') (hy : 0 < y) : x.tdiv y ≤ x'.tdiv y := Int.tdiv_le_tdiv hy h
theorem tdiv_y {a y y' : Int} (ha : 0 ≤ a) (hy : 0 < y) (h : y ≤ y') : a.tdiv y' ≤ a.tdiv y := by
  rw [Int.tdiv_eq_ediv_of_nonneg ha, Int.tdiv_eq_ediv_of_nonneg ha]
  rw [Int.le_ediv_iff_mul_le hy]
  have h1 : 0 ≤ a / y' := Int.ediv_nonneg ha (by omega)
  have h2 := Int.mul_le_mul_of_nonneg_left h h1
  have h3 := Int.ediv_mul_le a (show y' ≠ 0 by omega)
  omega
theorem tdiv_y' {a y y' : Int} (ha : a ≤ 0) (hy : 0 < y) (h : y ≤ y') : a.tdiv y ≤ a.tdiv y' := by
  have := tdiv_y (a := -a) (by omega) hy h
  rw [Int.neg_tdiv, Int.neg_tdiv] at this
  omega
theorem quo_pos {a0 a1 b0 b1 x y : Int} (h1 : a0 ≤ x) (h2 : x ≤ a1) (hb : 0 < b0) (h3 : b0 ≤ y) (h4 : y ≤ b1) :
    (a0.tdiv b0 ≤ x.tdiv y ∨ a0.tdiv b1 ≤ x.tdiv y) ∧ (x.tdiv y ≤ a1.tdiv b0 ∨ x.tdiv y ≤ a1.tdiv b1) := by
  have k1 := tdiv_x (y := y) h1 (by omega)
  have k2 := tdiv_x (y := y) h2 (by omega)
  constructor
  · by_cases h : 0 ≤ a0
    · have := tdiv_y (a := a0) h (show 0 < y by omega) h4
      exact Or.inr (by omega)
    · have := tdiv_y' (a := a0) (by omega) hb h3
      exact Or.inl (by omega)
  · by_cases h : 0 ≤ a1
    · have := tdiv_y (a := a1) h hb h3
      exact Or.inl (by omega)
    · have := tdiv_y' (a := a1) (by omega) (show 0 < y by omega) h4
      exact Or.inr (by omega)
theorem quoP_some {a s : Sp} (h : s.none = false) : quoP a s = [a.lo.tdiv s.lo, a.lo.tdiv s.hi, a.hi.tdiv s.lo, a.hi.tdiv s.hi] := by unfold quoP; rw [if_neg (by rw [h]; decide)]
theorem quoP_in {a s : Sp} (hs : s.none = false) (hp : 0 < s.lo ∨ s.hi < 0) {x y : Int} (h1 : a.lo ≤ x) (h2 : x ≤ a.hi) (h3 : s.lo ≤ y) (h4 : y ≤ s.hi) : inL (quoP a s) (x.tdiv y) := by
  rw [quoP_some hs]
  unfold inL
  simp only [List.mem_cons, List.not_mem_nil, or_false, exists_eq_or_imp, exists_eq_left]
  rcases hp with hp | hp
  · have := quo_pos h1 h2 hp h3 h4
    omega
  · have := quo_pos (a0 := -a.hi) (a1 := -a.lo) (b0 := -s.hi) (b1 := -s.lo) (x := -x) (y := -y) (by omega) (by omega) (by omega) (by omega) (by omega)
    simp only [Int.neg_tdiv_neg] at this
    omega
theorem inL_l {L M : List Int} {v : Int} (h : inL L v) : inL (L ++ M) v := by
  obtain ⟨p, hp, q, hq, h⟩ := h
  exact ⟨p, List.mem_append_left _ hp, q, List.mem_append_left _ hq, h⟩
theorem inL_r {L M : List Int} {v : Int} (h : inL M v) : inL (L ++ M) v := by
  obtain ⟨p, hp, q, hq, h⟩ := h
  exact ⟨p, List.mem_append_right _ hp, q, List.mem_append_right _ hq, h⟩
theorem low_val {b : Sp} (hb : b.none = false) (h : I64 b.lo ∧ I64 b.hi) (hl : b.lo ≤ -1) : lowP b = ⟨true, b.lo, min b.hi (-1)⟩ := by
  have e : Sp.of (-9223372036854775808) (-1) = ⟨true, -9223372036854775808, -1⟩ := rfl
  have l := (none_parts hb).2
  unfold lowP I64 at *
  rw [e, Sp.meet_00 hb rfl, Sp.of_f (by dsimp only; omega)]
  dsimp only
  rw [show max b.lo (-9223372036854775808) = b.lo by omega]
theorem high_val {b : Sp} (hb : b.none = false) (h : I64 b.lo ∧ I64 b.hi) (hl : 1 ≤ b.hi) : highP b = ⟨true, max b.lo 1, b.hi⟩ := by
  have e : Sp.of 1 9223372036854775807 = ⟨true, 1, 9223372036854775807⟩ := rfl
  have l := (none_parts hb).2
  unfold highP I64 at *
  rw [e, Sp.meet_00 hb rfl, Sp.of_f (by dsimp only; omega)]
  dsimp only
  rw [show min b.hi 9223372036854775807 = b.hi by omega]
theorem quo_in {a b : Sp} (hb : b.none = false) (ib : I64 b.lo ∧ I64 b.hi) {x y : Int} (h1 : a.lo ≤ x) (h2 : x ≤ a.hi) (h3 : b.lo ≤ y) (h4 : y ≤ b.hi) (hy : y ≠ 0) : inL (quoL a b 2) (x.tdiv y) := by
  show inL (quoP a (lowP b) ++ quoP a (highP b)) _
  by_cases h : y < 0
  · refine inL_l ?_
    rw [low_val hb ib (by omega)]
    exact quoP_in (Sp.none_f (by omega)) (Or.inr (by dsimp only; omega)) h1 h2 (by dsimp only; omega) (by dsimp only; omega)
  · refine inL_r ?_
    rw [high_val hb ib (by omega)]
    exact quoP_in (Sp.none_f (by omega)) (Or.inl (by dsimp only; omega)) h1 h2 (by dsimp only; omega) (by dsimp only; omega)
theorem quoP_is {a s : Sp} {v : Int} (hal : a.lo ≤ a.hi) (h : v ∈ quoP a s) : s.none = false ∧ ∃ x y, a.lo ≤ x ∧ x ≤ a.hi ∧ s.lo ≤ y ∧ y ≤ s.hi ∧ v = x.tdiv y := by
  cases hs : s.none
  · rw [quoP_some hs] at h
    have l := (none_parts hs).2
    simp only [List.mem_cons, List.not_mem_nil, or_false] at h
    refine ⟨rfl, ?_⟩
    rcases h with rfl | rfl | rfl | rfl
    · exact ⟨a.lo, s.lo, by omega, by omega, by omega, by omega, rfl⟩
    · exact ⟨a.lo, s.hi, by omega, by omega, by omega, by omega, rfl⟩
    · exact ⟨a.hi, s.lo, by omega, by omega, by omega, by omega, rfl⟩
    · exact ⟨a.hi, s.hi, by omega, by omega, by omega, by omega, rfl⟩
  · unfold quoP at h; rw [if_pos hs] at h; simp at h
theorem quo_is {a b : Sp} (ha : a.none = false) (hb : b.none = false) (ib : I64 b.lo ∧ I64 b.hi) {v : Int} (h : v ∈ quoL a b 2) : ∃ x y, a.lo ≤ x ∧ x ≤ a.hi ∧ b.lo ≤ y ∧ y ≤ b.hi ∧ y ≠ 0 ∧ v = x.tdiv y := by
  have h' : v ∈ quoP a (lowP b) ++ quoP a (highP b) := h
  have la := (none_parts ha).2
  rcases List.mem_append.1 h' with h | h
  · obtain ⟨hn, x, y, h1, h2, h3, h4, e⟩ := quoP_is la h
    rw [low_none hb ib, decide_eq_false_iff_not] at hn
    rw [low_val hb ib (by omega)] at h3 h4
    dsimp only at h3 h4
    exact ⟨x, y, h1, h2, by omega, by omega, by omega, e⟩
  · obtain ⟨hn, x, y, h1, h2, h3, h4, e⟩ := quoP_is la h
    rw [high_none hb ib, decide_eq_false_iff_not] at hn
    rw [high_val hb ib (by omega)] at h3 h4
    dsimp only at h3 h4
    exact ⟨x, y, h1, h2, by omega, by omega, by omega, e⟩
theorem quo_Bd {a b : Sp} (ia : I64 a.lo ∧ I64 a.hi) (ha : a.none = false) (hb : b.none = false) (ib : I64 b.lo ∧ I64 b.hi) : ∀ z ∈ quoL a b 2, Bd z := by
  intro z hz
  obtain ⟨x, y, h1, h2, _, _, _, rfl⟩ := quo_is ha hb ib hz
  have : I64 x := by unfold I64 at *; omega
  have := tdiv_le (y := y) this
  unfold Bd
  omega
end Go.Proofs.Ytdphjfppfngcmaa
