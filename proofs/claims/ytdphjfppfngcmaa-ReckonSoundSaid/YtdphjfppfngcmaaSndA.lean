/- That operators on spans are sound, rising, and exact on single ints: layer 4, plain data: rests, truths, all operators. -/
import Derived.Test.YtdphjfppfngcmaaReckX
namespace Go.Proofs.Ytdphjfppfngcmaa
open Go.RowKit

/-- What the document's operators of layer 2 come to. -/
def tst (op x y : Int) : Bool := if op = 12 then decide (x < y) else if op = 13 then decide (x ≤ y) else if op = 14 then x == y else if op = 15 then x != y else if op = 16 then x != 0 && y != 0 else x != 0 || y != 0
def DR (op x y n e : Int) : Prop :=
  ((op = 7 ∨ op = 10 ∨ op = 11) ∧ e = 0 ∧ n = wrap64 (ex4 op x y)) ∨ (op = 8 ∧ y ≠ 0 ∧ e = 0 ∧ n = wrap64 (x.tdiv y)) ∨ (op = 9 ∧ y ≠ 0 ∧ e = 0 ∧ n = x.tmod y)
  ∨ ((op = 8 ∨ op = 9) ∧ y = 0 ∧ e ≠ 0) ∨ ((op = 12 ∨ op = 13 ∨ op = 14 ∨ op = 15 ∨ op = 16 ∨ op = 17) ∧ e = 0 ∧ n = b2i (tst op x y)) ∨ ((op < 7 ∨ 17 < op) ∧ e ≠ 0)

theorem tmod_bd {x y : Int} (hy : y ≠ 0) : (0 ≤ x → 0 ≤ x.tmod y ∧ x.tmod y ≤ x) ∧ (x ≤ 0 → x ≤ x.tmod y ∧ x.tmod y ≤ 0) ∧ x.tmod y < absI y ∧ -absI y < x.tmod y := by
  have pos : ∀ x y : Int, 0 ≤ x → y ≠ 0 → 0 ≤ x.tmod y ∧ x.tmod y ≤ x ∧ x.tmod y < absI y := by
    intro x y hx hy
    have h1 : x.tmod y = x % absI y := by
      unfold absI
      split
      · rw [← Int.tmod_neg, Int.tmod_eq_emod_of_nonneg hx]
      · rw [Int.tmod_eq_emod_of_nonneg hx]
    have h2 : 0 < absI y := by unfold absI; split <;> omega
    rw [h1]
    have h3 := Int.emod_nonneg x (show absI y ≠ 0 by omega)
    have h4 := Int.emod_lt_of_pos x h2
    have h5 := Int.ediv_mul_add_emod x (absI y)
    have h6 : 0 ≤ x / absI y * absI y := Int.mul_nonneg (Int.ediv_nonneg hx (by omega)) (by omega)
    omega
  have hp : 0 < absI y := by unfold absI; split <;> omega
  by_cases hx : 0 ≤ x
  · have := pos x y hx hy
    refine ⟨fun _ => by omega, fun h => ?_, by omega, by omega⟩
    have : x = 0 := by omega
    subst this
    omega
  · have := pos (-x) y (by omega) hy
    rw [Int.neg_tmod] at this
    exact ⟨fun h => by omega, fun _ => by omega, by omega, by omega⟩
theorem larg_is {b : Sp} (hb : b.none = false) (ib : I64 b.lo ∧ I64 b.hi) {y : Int} (h1 : b.lo ≤ y) (h2 : y ≤ b.hi) (hy : y ≠ 0) : absI y - 1 ≤ largS b := by
  have hz : (b.lo == 0 && b.hi == 0) = false := by
    rw [Bool.and_eq_false_iff, beq_eq_false_iff_ne, beq_eq_false_iff_ne]
    omega
  rw [← big_larg hb ib hz]
  unfold bigA absI
  split <;> split <;> split <;> omega
theorem larg_leq {b b' : Sp} (hb : b.none = false) (hb' : b'.none = false) (ib : I64 b.lo ∧ I64 b.hi) (ib' : I64 b'.lo ∧ I64 b'.hi) (h1 : b'.lo ≤ b.lo) (h2 : b.hi ≤ b'.hi) (hz : (b.lo == 0 && b.hi == 0) = false) : largS b ≤ largS b' := by
  have l := (none_parts hb).2
  have hz' : (b'.lo == 0 && b'.hi == 0) = false := by
    rw [Bool.and_eq_false_iff, beq_eq_false_iff_ne, beq_eq_false_iff_ne] at *
    omega
  rw [← big_larg hb ib hz, ← big_larg hb' ib' hz']
  unfold bigA absI
  split <;> split <;> split <;> split <;> omega
def genS (a b : Sp) : Sp := Sp.of (max (min a.lo 0) (-largS b)) (min (max a.hi 0) (largS b))
theorem gen_has {a b : Sp} (hb : b.none = false) (ib : I64 b.lo ∧ I64 b.hi) {x y : Int} (h1 : a.lo ≤ x) (h2 : x ≤ a.hi) (h3 : b.lo ≤ y) (h4 : y ≤ b.hi) (hy : y ≠ 0) : (genS a b).has (x.tmod y) = true := by
  have h5 := larg_is hb ib h3 h4 hy
  obtain ⟨k1, k2, k3, k4⟩ := tmod_bd (x := x) hy
  unfold genS
  refine of_has ?_ ?_
  · by_cases hx : 0 ≤ x
    · have := k1 hx; have : 0 ≤ absI y - 1 := by omega
      omega
    · have := k2 (by omega); omega
  · by_cases hx : 0 ≤ x
    · have := k1 hx; omega
    · have := k2 (by omega); have : 0 ≤ absI y - 1 := by unfold absI; split <;> omega
      omega
theorem rem_cases {a b : Sp} (hb : b.none = false) (ib : I64 b.lo ∧ I64 b.hi) :
    ((b.lo = 0 ∧ b.hi = 0) ∧ remS a b = ⟨false, 0, 0⟩) ∨ ((¬ (b.lo = 0 ∧ b.hi = 0)) ∧ a.lo = a.hi ∧ b.lo = b.hi ∧ remS a b = Sp.of (a.lo.tmod b.lo) (a.lo.tmod b.lo)) ∨ ((¬ (b.lo = 0 ∧ b.hi = 0)) ∧ ¬ (a.lo = a.hi ∧ b.lo = b.hi) ∧ remS a b = genS a b) := by
  rw [← rest_rem hb ib]
  unfold restS
  cases h1 : (b.lo == 0 && b.hi == 0)
  · have h1' : ¬ (b.lo = 0 ∧ b.hi = 0) := by
      intro h; rw [h.1, h.2] at h1; exact absurd h1 (by decide)
    rw [if_neg (show ¬ (false = true) by decide), big_larg hb ib h1]
    cases h2 : (a.lo == a.hi && b.lo == b.hi)
    · refine Or.inr (Or.inr ⟨h1', ?_, by rw [if_neg (show ¬ (false = true) by decide)]; rfl⟩)
      intro h; rw [h.1, h.2] at h2; simp at h2
    · rw [Bool.and_eq_true, beq_iff_eq, beq_iff_eq] at h2
      exact Or.inr (Or.inl ⟨h1', h2.1, h2.2, by rw [if_pos rfl]⟩)
  · rw [Bool.and_eq_true, beq_iff_eq, beq_iff_eq] at h1
    exact Or.inl ⟨h1, by rw [if_pos rfl]⟩
theorem rem_has {a b : Sp} (hb : b.none = false) (ib : I64 b.lo ∧ I64 b.hi) {x y : Int} (h1 : a.lo ≤ x) (h2 : x ≤ a.hi) (h3 : b.lo ≤ y) (h4 : y ≤ b.hi) (hy : y ≠ 0) : (remS a b).has (x.tmod y) = true := by
  rcases rem_cases (a := a) hb ib with ⟨h, _⟩ | ⟨_, ha, hbb, e⟩ | ⟨_, _, e⟩
  · omega
  · have e1 : x = a.lo := by omega
    have e2 : y = b.lo := by omega
    rw [e, e1, e2]
    exact of_has (Int.le_refl _) (Int.le_refl _)
  · rw [e]; exact gen_has hb ib h1 h2 h3 h4 hy
theorem rem_leq {A B a b : Sp} (hA : A.none = false) (hB : B.none = false) (hb : b.none = false) (iB : I64 B.lo ∧ I64 B.hi) (ib : I64 b.lo ∧ I64 b.hi)
    (h1 : a.lo ≤ A.lo) (h2 : A.hi ≤ a.hi) (h3 : b.lo ≤ B.lo) (h4 : B.hi ≤ b.hi) : (remS A B).leq (remS a b) = true := by
  have lA := (none_parts hA).2
  have lB := (none_parts hB).2
  rcases rem_cases (a := A) hB iB with ⟨_, e⟩ | ⟨hz, hA1, hB1, e⟩ | ⟨hz, hs, e⟩
  · rw [e]; rfl
  · rw [e]
    have k := rem_has (a := a) hb ib (x := A.lo) (y := B.lo) (by omega) (by omega) (by omega) (by omega) (by omega)
    exact of_leq (Int.le_refl _) k k
  · rw [e]
    rcases rem_cases (a := a) hb ib with ⟨h, _⟩ | ⟨_, ha1, hb1, _⟩ | ⟨_, _, e'⟩
    · omega
    · omega
    · rw [e']
      have hz' : (B.lo == 0 && B.hi == 0) = false := by
        rw [Bool.and_eq_false_iff, beq_eq_false_iff_ne, beq_eq_false_iff_ne]; omega
      have hl := larg_leq hB hb iB ib h3 h4 hz'
      have hpos : 0 ≤ largS B := by
        by_cases hh : B.lo = 0
        · have := larg_is hB iB (y := B.hi) (by omega) (by omega) (by omega)
          have : 1 ≤ absI B.hi := by unfold absI; split <;> omega
          omega
        · have := larg_is hB iB (y := B.lo) (by omega) (by omega) hh
          have : 1 ≤ absI B.lo := by unfold absI; split <;> omega
          omega
      unfold genS
      refine of_leq (by omega) (of_has (by omega) (by omega)) (of_has (by omega) (by omega))

theorem may_has {op : Int} (hop : op = 12 ∨ op = 13 ∨ op = 14 ∨ op = 15 ∨ op = 16 ∨ op = 17) {a b : Sp} (ha : a.none = false) (hb : b.none = false) {x y : Int} (h1 : a.lo ≤ x) (h2 : x ≤ a.hi) (h3 : b.lo ≤ y) (h4 : y ≤ b.hi) :
    (tst op x y = true → (mayS op a b).1 = true) ∧ (tst op x y = false → (mayS op a b).2 = true) := by
  have hm : (a.meet b).none = decide (min a.hi b.hi < max a.lo b.lo) := by rw [Sp.meet_00 ha hb, of_none]
  have k1 := hasz ha
  have k2 := hasz hb
  rcases hop with rfl | rfl | rfl | rfl | rfl | rfl
  · show (decide (x < y) = true → decide (a.lo < b.hi) = true) ∧ (decide (x < y) = false → decide (b.lo ≤ a.hi) = true)
    simp only [decide_eq_true_eq, decide_eq_false_iff_not]; omega
  · show (decide (x ≤ y) = true → decide (a.lo ≤ b.hi) = true) ∧ (decide (x ≤ y) = false → decide (b.lo < a.hi) = true)
    simp only [decide_eq_true_eq, decide_eq_false_iff_not]; omega
  · show ((x == y) = true → (!(a.meet b).none) = true) ∧ ((x == y) = false → (!oneB a b) = true)
    rw [hm]
    simp only [oneB, beq_iff_eq, beq_eq_false_iff_ne, Bool.not_eq_true', decide_eq_false_iff_not, Bool.and_eq_false_iff]; omega
  · show ((x != y) = true → (!oneB a b) = true) ∧ ((x != y) = false → (!(a.meet b).none) = true)
    rw [hm]
    simp only [oneB, bne_iff_ne, bne_eq_false_iff_eq, beq_eq_false_iff_ne, Bool.not_eq_true', decide_eq_false_iff_not, Bool.and_eq_false_iff]; omega
  · show ((x != 0 && y != 0) = true → (nzB a && nzB b) = true) ∧ ((x != 0 && y != 0) = false → (a.has 0 || b.has 0) = true)
    rw [k1, k2]
    simp only [nzB, bne_iff_ne, bne_eq_false_iff_eq, Bool.and_eq_true, Bool.or_eq_true, Bool.and_eq_false_iff, decide_eq_true_eq]; omega
  · show ((x != 0 || y != 0) = true → (nzB a || nzB b) = true) ∧ ((x != 0 || y != 0) = false → (a.has 0 && b.has 0) = true)
    rw [k1, k2]
    simp only [nzB, bne_iff_ne, bne_eq_false_iff_eq, Bool.and_eq_true, Bool.or_eq_true, Bool.or_eq_false_iff, decide_eq_true_eq]; omega
theorem may_mono {op : Int} (hop : op = 12 ∨ op = 13 ∨ op = 14 ∨ op = 15 ∨ op = 16 ∨ op = 17) {A B a b : Sp} (hA : A.none = false) (hB : B.none = false) (ha : a.none = false) (hb : b.none = false)
    (h1 : a.lo ≤ A.lo) (h2 : A.hi ≤ a.hi) (h3 : b.lo ≤ B.lo) (h4 : B.hi ≤ b.hi) :
    ((mayS op A B).1 = true → (mayS op a b).1 = true) ∧ ((mayS op A B).2 = true → (mayS op a b).2 = true) := by
  have lA := (none_parts hA).2
  have lB := (none_parts hB).2
  have hm : (a.meet b).none = decide (min a.hi b.hi < max a.lo b.lo) := by rw [Sp.meet_00 ha hb, of_none]
  have hM : (A.meet B).none = decide (min A.hi B.hi < max A.lo B.lo) := by rw [Sp.meet_00 hA hB, of_none]
  have k1 := hasz ha
  have k2 := hasz hb
  have k3 := hasz hA
  have k4 := hasz hB
  rcases hop with rfl | rfl | rfl | rfl | rfl | rfl
  · show (decide (A.lo < B.hi) = true → decide (a.lo < b.hi) = true) ∧ (decide (B.lo ≤ A.hi) = true → decide (b.lo ≤ a.hi) = true)
    simp only [decide_eq_true_eq]; omega
  · show (decide (A.lo ≤ B.hi) = true → decide (a.lo ≤ b.hi) = true) ∧ (decide (B.lo < A.hi) = true → decide (b.lo < a.hi) = true)
    simp only [decide_eq_true_eq]; omega
  · show ((!(A.meet B).none) = true → (!(a.meet b).none) = true) ∧ ((!oneB A B) = true → (!oneB a b) = true)
    rw [hm, hM]
    simp only [oneB, beq_eq_false_iff_ne, Bool.not_eq_true', decide_eq_false_iff_not, Bool.and_eq_false_iff]; omega
  · show ((!oneB A B) = true → (!oneB a b) = true) ∧ ((!(A.meet B).none) = true → (!(a.meet b).none) = true)
    rw [hm, hM]
    simp only [oneB, beq_eq_false_iff_ne, Bool.not_eq_true', decide_eq_false_iff_not, Bool.and_eq_false_iff]; omega
  · show ((nzB A && nzB B) = true → (nzB a && nzB b) = true) ∧ ((A.has 0 || B.has 0) = true → (a.has 0 || b.has 0) = true)
    rw [k1, k2, k3, k4]
    simp only [nzB, bne_iff_ne, Bool.and_eq_true, Bool.or_eq_true, decide_eq_true_eq]; omega
  · show ((nzB A || nzB B) = true → (nzB a || nzB b) = true) ∧ ((A.has 0 && B.has 0) = true → (a.has 0 && b.has 0) = true)
    rw [k1, k2, k3, k4]
    simp only [nzB, bne_iff_ne, Bool.and_eq_true, Bool.or_eq_true, decide_eq_true_eq]; omega
theorem truth_has {y n : Bool} {t : Bool} (h1 : t = true → y = true) (h2 : t = false → n = true) : (truthS y n).has (b2i t) = true := by
  cases t
  · have := h2 rfl; subst this; cases y <;> decide
  · have := h1 rfl; subst this; cases n <;> decide
theorem truth_leq {y n y' n' : Bool} (h : y = true ∨ n = true) (h1 : y = true → y' = true) (h2 : n = true → n' = true) : (truthS y n).leq (truthS y' n') = true := by
  revert h h1 h2
  cases y <;> cases n <;> cases y' <;> cases n' <;> decide

/-- Sound: what is so of ints of two spans is in what the operator comes to on these. -/
theorem do_has {op x y n e : Int} {a b : Sp} (h : DR op x y n e) (he : e = 0) (ha : a.none = false) (hb : b.none = false) (ia : I64 a.lo ∧ I64 a.hi) (ib : I64 b.lo ∧ I64 b.hi)
    (h1 : a.lo ≤ x) (h2 : x ≤ a.hi) (h3 : b.lo ≤ y) (h4 : y ≤ b.hi) : (doS op a b).has n = true := by
  have hn : (a.none || b.none) = false := by rw [ha, hb]; rfl
  rcases h with ⟨ho, _, rfl⟩ | ⟨rfl, hy, _, rfl⟩ | ⟨rfl, hy, _, rfl⟩ | ⟨_, _, h⟩ | ⟨ho, _, rfl⟩ | ⟨_, h⟩
  · rw [doS_bet hn ho]
    exact bet_has (cor_Bd op ia.1 ia.2 ib.1 ib.2) (cor_in ho h1 h2 h3 h4)
  · rw [doS_8 hn]
    exact bet_has (quo_Bd ia ha hb ib) (quo_in hb ib h1 h2 h3 h4 hy)
  · rw [doS_9 hn]
    exact rem_has hb ib h1 h2 h3 h4 hy
  · exact absurd he h
  · rw [doS_t hn ho, true_may ho ha hb]
    obtain ⟨k1, k2⟩ := may_has ho ha hb h1 h2 h3 h4
    exact truth_has k1 k2
  · exact absurd he h

/-- Rising in both. -/
theorem do_leq (op : Int) {A B a b : Sp} (hA : A.none = false) (hB : B.none = false) (ha : a.none = false) (hb : b.none = false)
    (iA : I64 A.lo ∧ I64 A.hi) (iB : I64 B.lo ∧ I64 B.hi) (ia : I64 a.lo ∧ I64 a.hi) (ib : I64 b.lo ∧ I64 b.hi)
    (h1 : a.lo ≤ A.lo) (h2 : A.hi ≤ a.hi) (h3 : b.lo ≤ B.lo) (h4 : B.hi ≤ b.hi) : (doS op A B).leq (doS op a b) = true := by
  have hn : (a.none || b.none) = false := by rw [ha, hb]; rfl
  have hN : (A.none || B.none) = false := by rw [hA, hB]; rfl
  have lA := (none_parts hA).2
  have lB := (none_parts hB).2
  by_cases ho : op < 7 ∨ 17 < op
  · rw [doS_other ho]; rfl
  by_cases ho1 : op = 7 ∨ op = 10 ∨ op = 11
  · rw [doS_bet hn ho1, doS_bet hN ho1]
    refine bet_leq (cor_Bd op iA.1 iA.2 iB.1 iB.2) (cor_Bd op ia.1 ia.2 ib.1 ib.2) ?_
    intro z hz
    unfold cor4 at hz
    simp only [List.mem_cons, List.not_mem_nil, or_false] at hz
    rcases hz with rfl | rfl | rfl | rfl <;> exact cor_in ho1 (by omega) (by omega) (by omega) (by omega)
  by_cases ho2 : op = 8
  · subst ho2
    rw [doS_8 hn, doS_8 hN]
    refine bet_leq (quo_Bd iA hA hB iB) (quo_Bd ia ha hb ib) ?_
    intro z hz
    obtain ⟨x, y, q1, q2, q3, q4, q5, rfl⟩ := quo_is hA hB iB hz
    exact quo_in hb ib (by omega) (by omega) (by omega) (by omega) q5
  by_cases ho3 : op = 9
  · subst ho3
    rw [doS_9 hn, doS_9 hN]
    exact rem_leq hA hB hb iB ib h1 h2 h3 h4
  have ho4 : op = 12 ∨ op = 13 ∨ op = 14 ∨ op = 15 ∨ op = 16 ∨ op = 17 := by omega
  rw [doS_t hn ho4, doS_t hN ho4, true_may ho4 ha hb, true_may ho4 hA hB]
  obtain ⟨k1, k2⟩ := may_mono ho4 hA hB ha hb h1 h2 h3 h4
  obtain ⟨k3, k4⟩ := may_has ho4 hA hB (x := A.lo) (y := B.lo) (by omega) (by omega) (by omega) (by omega)
  refine truth_leq ?_ k1 k2
  cases ht : tst op A.lo B.lo
  · exact Or.inr (k4 ht)
  · exact Or.inl (k3 ht)

/-- On spans of one int: that int alone, or none. -/
theorem do_one {op x y n e : Int} (_hx : I64 x) (hy : I64 y) (h : DR op x y n e) : (e = 0 → doS op (Sp.of x x) (Sp.of y y) = Sp.of n n) ∧ (e ≠ 0 → doS op (Sp.of x x) (Sp.of y y) = ⟨false, 0, 0⟩) := by
  have ex : Sp.of x x = ⟨true, x, x⟩ := Sp.of_f (by omega)
  have ey : Sp.of y y = ⟨true, y, y⟩ := Sp.of_f (by omega)
  have ha : (⟨true, x, x⟩ : Sp).none = false := Sp.none_f (by omega)
  have hb : (⟨true, y, y⟩ : Sp).none = false := Sp.none_f (by omega)
  have hn : ((⟨true, x, x⟩ : Sp).none || (⟨true, y, y⟩ : Sp).none) = false := by rw [ha, hb]; rfl
  have same : ∀ v : Int, minL [v, v, v] v = v ∧ maxL [v, v, v] v = v := fun v => by simp [minL, maxL]
  have wv1 : ∀ v : Int, wrapS v v = Sp.of (wrap64 v) (wrap64 v) := fun v => by
    rw [wrapS_4 (by omega) (by rw [Int.sub_self]; rfl) (by omega)]
  rw [ex, ey]
  rcases h with ⟨ho, he, rfl⟩ | ⟨rfl, hy0, he, rfl⟩ | ⟨rfl, hy0, he, rfl⟩ | ⟨ho, h0, he⟩ | ⟨ho, he, rfl⟩ | ⟨ho, he⟩
  · refine ⟨fun _ => ?_, fun h => absurd he h⟩
    rw [doS_bet hn ho]
    show wrapS (minL [ex4 op x y, ex4 op x y, ex4 op x y] (ex4 op x y)) (maxL [ex4 op x y, ex4 op x y, ex4 op x y] (ex4 op x y)) = _
    rw [(same _).1, (same _).2, wv1]
  · refine ⟨fun _ => ?_, fun h => absurd he h⟩
    rw [doS_8 hn]
    have eQ : quoL ⟨true, x, x⟩ ⟨true, y, y⟩ 2 = [x.tdiv y, x.tdiv y, x.tdiv y, x.tdiv y] := by
      show quoP _ (lowP _) ++ quoP _ (highP _) = _
      by_cases h : y < 0
      · have e1 := low_val hb ⟨hy, hy⟩ (show y ≤ -1 by omega)
        have e2 : (highP ⟨true, y, y⟩).none = true := by rw [high_none hb ⟨hy, hy⟩, decide_eq_true_eq]; dsimp only; omega
        have e3 : quoP ⟨true, x, x⟩ (highP ⟨true, y, y⟩) = [] := by unfold quoP; rw [if_pos e2]
        rw [e3, e1, quoP_some (Sp.none_f (by dsimp only; omega))]
        dsimp only
        rw [show min y (-1) = y by omega]
        rfl
      · have e1 := high_val hb ⟨hy, hy⟩ (show 1 ≤ y by omega)
        have e2 : (lowP ⟨true, y, y⟩).none = true := by rw [low_none hb ⟨hy, hy⟩, decide_eq_true_eq]; dsimp only; omega
        have e3 : quoP ⟨true, x, x⟩ (lowP ⟨true, y, y⟩) = [] := by unfold quoP; rw [if_pos e2]
        rw [e3, e1, quoP_some (Sp.none_f (by dsimp only; omega))]
        dsimp only
        rw [show max y 1 = y by omega]
        rfl
    rw [eQ]
    show wrapS (minL [x.tdiv y, x.tdiv y, x.tdiv y] (x.tdiv y)) (maxL [x.tdiv y, x.tdiv y, x.tdiv y] (x.tdiv y)) = _
    rw [(same _).1, (same _).2, wv1]
  · refine ⟨fun _ => ?_, fun h => absurd he h⟩
    rw [doS_9 hn]
    rcases rem_cases (a := ⟨true, x, x⟩) hb ⟨hy, hy⟩ with ⟨h, _⟩ | ⟨_, _, _, e⟩ | ⟨_, h, _⟩
    · exact absurd h.1 hy0
    · exact e
    · exact absurd ⟨rfl, rfl⟩ h
  · refine ⟨fun h => absurd h he, fun _ => ?_⟩
    subst h0
    rcases ho with rfl | rfl
    · rw [doS_8 hn]
      have e1 : (lowP ⟨true, 0, 0⟩).none = true := rfl
      have e2 : (highP ⟨true, 0, 0⟩).none = true := rfl
      have eQ : quoL ⟨true, x, x⟩ ⟨true, 0, 0⟩ 2 = [] := by
        have e3 : quoP ⟨true, x, x⟩ (lowP ⟨true, 0, 0⟩) = [] := by unfold quoP; rw [if_pos e1]
        have e4 : quoP ⟨true, x, x⟩ (highP ⟨true, 0, 0⟩) = [] := by unfold quoP; rw [if_pos e2]
        have e5 : quoL ⟨true, x, x⟩ ⟨true, 0, 0⟩ 2 = quoP ⟨true, x, x⟩ (lowP ⟨true, 0, 0⟩) ++ quoP ⟨true, x, x⟩ (highP ⟨true, 0, 0⟩) := by unfold quoL; rw [if_pos (by omega), if_pos (by omega)]
        rw [e5, e3, e4]
        rfl
      rw [eQ]; rfl
    · rw [doS_9 hn]
      rcases rem_cases (a := ⟨true, x, x⟩) hb ⟨hy, hy⟩ with ⟨_, e⟩ | ⟨h, _⟩ | ⟨h, _⟩
      · exact e
      · exact absurd ⟨rfl, rfl⟩ h
      · exact absurd ⟨rfl, rfl⟩ h
  · refine ⟨fun _ => ?_, fun h => absurd he h⟩
    rw [doS_t hn ho]
    have k : decS op ⟨true, x, x⟩ ⟨true, y, y⟩ = (tst op x y, !tst op x y) := by
      have hm : ((⟨true, x, x⟩ : Sp).meet ⟨true, y, y⟩).none = decide (min x y < max x y) := by rw [Sp.meet_00 ha hb, of_none]
      have k1 : (⟨true, x, x⟩ : Sp).has 0 = (x == 0) := by
        unfold Sp.has; rw [Bool.eq_iff_iff]; simp only [Bool.true_and, Bool.and_eq_true, decide_eq_true_eq, beq_iff_eq]; omega
      have k2 : (⟨true, y, y⟩ : Sp).has 0 = (y == 0) := by
        unfold Sp.has; rw [Bool.eq_iff_iff]; simp only [Bool.true_and, Bool.and_eq_true, decide_eq_true_eq, beq_iff_eq]; omega
      have k3 : ∀ v : Int, zeroP ⟨true, v, v⟩ = (v == 0) := fun v => by unfold zeroP Sp.eqb; simp
      rcases ho with rfl | rfl | rfl | rfl | rfl | rfl
      · show (decide (x < y), decide (y ≤ x)) = (decide (x < y), !decide (x < y))
        rw [← decide_not, Prod.mk.injEq, decide_eq_decide, decide_eq_decide]; omega
      · show (decide (x ≤ y), decide (y < x)) = (decide (x ≤ y), !decide (x ≤ y))
        rw [← decide_not, Prod.mk.injEq, decide_eq_decide, decide_eq_decide]; omega
      · show (eqP _ _, (Sp.meet _ _).none) = ((x == y), !(x == y))
        rw [hm]
        by_cases q : x = y
        · subst q; simp [eqP, Sp.eqb]
        · have q1 : (x == y) = false := by simpa using q
          rw [q1, decide_eq_true (by omega)]; simp [eqP, Sp.eqb, q1]
      · show ((Sp.meet _ _).none, eqP _ _) = ((x != y), !(x != y))
        rw [hm]
        by_cases q : x = y
        · subst q; simp [eqP, Sp.eqb]
        · have q1 : (x == y) = false := by simpa using q
          have q2 : (x != y) = true := by simpa using q
          rw [q2, decide_eq_true (by omega)]; simp [eqP, Sp.eqb, q1]
      · show (!Sp.has _ 0 && !Sp.has _ 0, zeroP _ || zeroP _) = ((x != 0 && y != 0), !(x != 0 && y != 0))
        rw [k1, k2, k3, k3]
        show (!(x == 0) && !(y == 0), x == 0 || y == 0) = (!(x == 0) && !(y == 0), !(!(x == 0) && !(y == 0)))
        cases x == 0 <;> cases y == 0 <;> rfl
      · show (!Sp.has _ 0 || !Sp.has _ 0, zeroP _ && zeroP _) = ((x != 0 || y != 0), !(x != 0 || y != 0))
        rw [k1, k2, k3, k3]
        show (!(x == 0) || !(y == 0), x == 0 && y == 0) = (!(x == 0) || !(y == 0), !(!(x == 0) || !(y == 0)))
        cases x == 0 <;> cases y == 0 <;> rfl
    unfold trueS
    rw [k]
    cases tst op x y <;> rfl
  · refine ⟨fun h => absurd h he, fun _ => ?_⟩
    exact doS_other ho
end Go.Proofs.Ytdphjfppfngcmaa
