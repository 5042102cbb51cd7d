/- Texts ValA, ValB, ValC. -/
import Derived.Test.YtdpnphnafidpiaaGreatSpanY
import Derived.Test.YtdpnphnafidpiaaGreatCongX
import Derived.Test.YtdpnphnafidpiaaGreatNamY
/- Ints of values: a span and a congruence together (pure). Layer 8. -/
namespace Go.Proofs.YtdpnphnafidpiaaGreat
open Go.RowKit

structure In where
  s : Sp
  c : Cg
def In.zero : In := ⟨Sp.zero, Cg.zero⟩
def In.none (i : In) : Bool := i.s.none || !i.c.s
def In.clean (i : In) : In := if i.none = true then In.zero else ⟨i.s, i.c.clean⟩
def In.ok (i : In) : Prop := i.s.ok ∧ i.c.ok
/-- As cleaning leaves it. -/
def In.std (i : In) : Prop := i.s.ok ∧ i.c.std ∧ ((i.s = Sp.zero ∧ i.c = Cg.zero) ∨ (i.s.none = false ∧ i.c.s = true))
def In.has (i : In) (n : Int) : Bool := i.s.has n && i.c.has n
theorem In.ext' {a b : In} (h1 : a.s = b.s) (h2 : a.c = b.c) : a = b := by
  cases a; cases b; simp only at h1 h2; subst h1 h2; rfl
theorem Sp.zero_ok : Sp.zero.ok := ⟨⟨by decide, by decide⟩, ⟨by decide, by decide⟩⟩
theorem In.zero_std : In.zero.std := ⟨Sp.zero_ok, Cg.zero_std, Or.inl ⟨rfl, rfl⟩⟩
theorem In.std_ok {i : In} (h : i.std) : i.ok := ⟨h.1, h.2.1.1⟩
theorem In.clean_t {i : In} (h : i.none = true) : i.clean = In.zero := if_pos h
theorem In.clean_f {i : In} (h : i.none = false) : i.clean = ⟨i.s, i.c.clean⟩ := if_neg (by rw [h]; decide)
theorem In.none_f {i : In} (h : i.none = false) : i.s.none = false ∧ i.c.s = true := by
  unfold In.none at h
  rw [Bool.or_eq_false_iff] at h
  exact ⟨h.1, by simpa using h.2⟩
theorem Cg.clean_s (c : Cg) : c.clean.s = c.s := by
  cases hs : c.s
  · rw [Cg.clean_no hs]
  · by_cases hm : c.m < 0
    · rw [Cg.clean_neg hs hm]
    · rw [Cg.clean_pos hs hm]
theorem In.clean_std {i : In} (h : i.ok) : i.clean.std := by
  cases hn : i.none
  · rw [In.clean_f hn]
    obtain ⟨h1, h2⟩ := In.none_f hn
    exact ⟨h.1, Cg.clean_std h.2, Or.inr ⟨h1, by rw [Cg.clean_s]; exact h2⟩⟩
  · rw [In.clean_t hn]; exact In.zero_std
theorem In.std_clean {i : In} (h : i.std) : i.clean = i := by
  obtain ⟨h1, h2, ⟨h3, h4⟩ | ⟨h3, h4⟩⟩ := h
  · have e : i = In.zero := In.ext' h3 h4
    rw [e]; rfl
  · rw [In.clean_f (by unfold In.none; rw [h3, h4]; rfl), Cg.std_clean h2]
theorem In.clean_clean {i : In} (h : i.ok) : i.clean.clean = i.clean := In.std_clean (In.clean_std h)
theorem Sp.none_has {a : Sp} (h : a.none = true) (n : Int) : a.has n = false := by
  cases hh : a.has n
  · rfl
  · unfold Sp.has at hh
    simp at hh
    have := (Sp.none_iff a).2 ⟨hh.1.1, by omega⟩
    rw [this] at h; cases h
theorem In.clean_has {i : In} (h : i.ok) (n : Int) : i.clean.has n = i.has n := by
  cases hn : i.none
  · rw [In.clean_f hn]
    unfold In.has
    dsimp only
    rw [show i.c.clean.has n = i.c.has n by unfold Cg.has; rw [Cg.std_clean (Cg.clean_std h.2)]]
  · rw [In.clean_t hn]
    unfold In.has
    have h1 : In.zero.s.has n = false := Sp.none_has rfl n
    rw [h1, Bool.false_and]
    unfold In.none at hn
    rw [Bool.or_eq_true] at hn
    rcases hn with hn | hn
    · rw [Sp.none_has hn, Bool.false_and]
    · have : i.c.s = false := by simpa using hn
      rw [Cg.has_no this, Bool.and_false]

def In.leq (a b : In) : Bool := a.clean.s.leq b.clean.s && a.clean.c.leq b.clean.c
def In.joinC (x y : In) : In := ⟨x.s.join y.s, x.c.join y.c⟩
def In.join (a b : In) : In := In.joinC a.clean b.clean
def In.widenC (x y : In) (l : List Int) : In := ⟨x.s.widen y.s l, x.c.join y.c⟩
def In.widen (a b : In) (l : List Int) : In := In.widenC a.clean b.clean l
def In.isAll (x : In) : Bool := x.c.s && x.c.m == 1 && x.c.r == 0
def In.narrowC (x y : In) : In := In.clean ⟨x.s.narrow y.s, if x.isAll = true then y.c else x.c⟩

theorem Sp.leq_zero (x : Sp) : Sp.zero.leq x = true := Sp.leq_none x rfl
theorem Sp.join_zl {y : Sp} : Sp.zero.join y = y.clean := Sp.join_1 rfl
theorem Sp.join_zr {x : Sp} : x.join Sp.zero = x.clean := Sp.join_zero x
theorem Sp.widen_zl {y : Sp} (l : List Int) : Sp.zero.widen y l = y.clean := Sp.widen_1 l rfl
theorem Cg.join_s {x y : Cg} (hx : x.std) (hy : y.std) (h : x.s = true ∨ y.s = true) : (x.join y).s = true := by
  unfold Cg.join
  rw [Cg.std_clean hx, Cg.std_clean hy]
  unfold Cg.joinC
  split
  · next h' => rcases h with h | h; rw [h] at h'; cases h'; exact h
  · next h' =>
    split
    · simpa using h'
    · split
      · rfl
      · unfold Cg.of; rw [Cg.clean_s]
theorem Sp.join_none {x y : Sp} (h : x.none = false ∨ y.none = false) : (x.join y).none = false := by
  obtain ⟨h1, h2⟩ := Sp.join_up x y
  rcases h with h | h
  · rcases (Sp.leq_iff _ _).1 h1 with h' | h'
    · rw [h] at h'; cases h'
    · exact h'.1
  · rcases (Sp.leq_iff _ _).1 h2 with h' | h'
    · rw [h] at h'; cases h'
    · exact h'.1
theorem Sp.join_ok {x y : Sp} (hx : x.ok) (hy : y.ok) : (x.join y).ok := by
  have hof : ∀ lo hi : Int, I64 lo → I64 hi → (Sp.of lo hi).ok := fun lo hi h1 h2 => by
    by_cases h : hi < lo
    · rw [Sp.of_t h]; exact Sp.zero_ok
    · rw [Sp.of_f h]; exact ⟨h1, h2⟩
  have hcl : ∀ z : Sp, z.ok → z.clean.ok := fun z hz => by unfold Sp.clean; split; exact Sp.zero_ok; exact hz
  unfold Sp.join
  split
  · exact hcl y hy
  · split
    · exact hx
    · refine hof _ _ ?_ ?_
      · rw [Int.min_def]; split; exact hx.1; exact hy.1
      · rw [Int.max_def]; split; exact hy.2; exact hx.2
theorem In.joinC_std {x y : In} (hx : x.std) (hy : y.std) : (In.joinC x y).std := by
  refine ⟨Sp.join_ok hx.1 hy.1, (Cg.join_std hx.2.1 hy.2.1.1).1, ?_⟩
  unfold In.joinC
  dsimp only
  rcases hx.2.2 with ⟨e1, e2⟩ | ⟨e1, e2⟩
  · rcases hy.2.2 with ⟨f1, f2⟩ | ⟨f1, f2⟩
    · rw [e1, e2, f1, f2]; exact Or.inl ⟨rfl, rfl⟩
    · exact Or.inr ⟨Sp.join_none (Or.inr f1), Cg.join_s hx.2.1 hy.2.1 (Or.inr f2)⟩
  · exact Or.inr ⟨Sp.join_none (Or.inl e1), Cg.join_s hx.2.1 hy.2.1 (Or.inl e2)⟩
theorem Sp.clean_of_ok {x : In} (hx : x.std) : x.s.clean = x.s := by
  rcases hx.2.2 with ⟨e, _⟩ | ⟨e, _⟩
  · rw [e]; rfl
  · exact Sp.clean_some e
theorem In.widenC_std {x y : In} (l : List Int) (hx : x.std) (hy : y.std) : (In.widenC x y l).std := by
  obtain ⟨h1, h2, h3, h4, _⟩ := Sp.widen_ok l hx.1 hy.1 (Sp.clean_of_ok hx)
  refine ⟨h2, (Cg.join_std hx.2.1 hy.2.1.1).1, ?_⟩
  unfold In.widenC
  dsimp only
  have hn : x.s.none = false ∨ y.s.none = false → (x.s.widen y.s l).none = false := by
    intro h
    rcases h with h | h
    · rcases (Sp.leq_iff _ _).1 h3 with h' | h'
      · rw [h] at h'; cases h'
      · exact h'.1
    · rcases (Sp.leq_iff _ _).1 h4 with h' | h'
      · rw [h] at h'; cases h'
      · exact h'.1
  rcases hx.2.2 with ⟨e1, e2⟩ | ⟨e1, e2⟩
  · rcases hy.2.2 with ⟨f1, f2⟩ | ⟨f1, f2⟩
    · rw [e1, e2, f1, f2]; exact Or.inl ⟨rfl, rfl⟩
    · exact Or.inr ⟨hn (Or.inr f1), Cg.join_s hx.2.1 hy.2.1 (Or.inr f2)⟩
  · exact Or.inr ⟨hn (Or.inl e1), Cg.join_s hx.2.1 hy.2.1 (Or.inl e2)⟩
end Go.Proofs.YtdpnphnafidpiaaGreat

/- The least and the greatest int of a span that a congruence has (pure). Layer 8. -/
namespace Go.Proofs.YtdpnphnafidpiaaGreat
open Go.RowKit

theorem dvd_gt {m d : Int} (_hm : 0 < m) (h : m ∣ d) (h' : -m < d) : 0 ≤ d := by
  apply Classical.byContradiction
  intro hc
  have h1 : m ≤ -d := Int.le_of_dvd (by omega) (Int.dvd_neg.2 h)
  omega
def upI (lo m r : Int) : Int := (r - lo) % m
def dnI (hi m r : Int) : Int := (hi - r) % m
theorem dvd_up (lo m r : Int) : m ∣ lo + upI lo m r - r := by
  have h : m ∣ (r - lo) - (r - lo) % m := Int.dvd_self_sub_emod
  have := Int.dvd_neg.2 h
  rwa [show -((r - lo) - (r - lo) % m) = lo + upI lo m r - r by unfold upI; omega] at this
theorem dvd_dn (hi m r : Int) : m ∣ hi - dnI hi m r - r := by
  have h : m ∣ (hi - r) - (hi - r) % m := Int.dvd_self_sub_emod
  rwa [show (hi - r) - (hi - r) % m = hi - dnI hi m r - r by unfold dnI; omega] at h
theorem mod_dvd {n m r : Int} (h0 : 0 ≤ r) (h1 : r < m) : n % m = r ↔ m ∣ n - r := by
  constructor
  · intro h; rw [← h]; exact Int.dvd_self_sub_emod
  · intro h
    have := Int.emod_eq_emod_iff_emod_sub_eq_zero.2 (Int.emod_eq_zero_of_dvd h)
    rw [this]; exact Int.emod_eq_of_lt h0 h1
theorem up_spec {lo m r : Int} (h0 : 0 ≤ r) (h1 : r < m) : 0 ≤ upI lo m r ∧ upI lo m r < m ∧ (lo + upI lo m r) % m = r ∧ ∀ n, lo ≤ n → n % m = r → lo + upI lo m r ≤ n := by
  have a1 := Int.emod_nonneg (r - lo) (show m ≠ 0 by omega)
  have a2 := Int.emod_lt_of_pos (r - lo) (show 0 < m by omega)
  refine ⟨a1, a2, (mod_dvd h0 h1).2 (dvd_up lo m r), fun n hn he => ?_⟩
  have d := Int.dvd_sub ((mod_dvd h0 h1).1 he) (dvd_up lo m r)
  have := dvd_gt (by omega) d (by unfold upI at *; omega)
  omega
theorem dn_spec {hi m r : Int} (h0 : 0 ≤ r) (h1 : r < m) : 0 ≤ dnI hi m r ∧ dnI hi m r < m ∧ (hi - dnI hi m r) % m = r ∧ ∀ n, n ≤ hi → n % m = r → n ≤ hi - dnI hi m r := by
  have a1 := Int.emod_nonneg (hi - r) (show m ≠ 0 by omega)
  have a2 := Int.emod_lt_of_pos (hi - r) (show 0 < m by omega)
  refine ⟨a1, a2, (mod_dvd h0 h1).2 (dvd_dn hi m r), fun n hn he => ?_⟩
  have d := Int.dvd_sub (dvd_dn hi m r) ((mod_dvd h0 h1).1 he)
  have := dvd_gt (by omega) d (by unfold dnI at *; omega)
  omega
theorem up_mod {lo m r : Int} (h : 0 < m) : modI (r - modI lo m) m = upI lo m r := by
  rw [modI_pos h, modI_pos h]
  unfold upI
  refine Int.emod_eq_emod_iff_emod_sub_eq_zero.2 ?_
  rw [show r - lo % m - (r - lo) = lo - lo % m by omega]
  exact Int.emod_eq_zero_of_dvd Int.dvd_self_sub_emod
theorem dn_mod {hi m r : Int} (h : 0 < m) : modI (modI hi m - r) m = dnI hi m r := by
  rw [modI_pos h, modI_pos h]
  unfold dnI
  refine Int.emod_eq_emod_iff_emod_sub_eq_zero.2 ?_
  rw [show hi % m - r - (hi - r) = -(hi - hi % m) by omega]
  exact Int.emod_eq_zero_of_dvd (Int.dvd_neg.2 Int.dvd_self_sub_emod)

/-- What value.tight returns of a clean span and a clean congruence. -/
def tightI (s : Sp) (c : Cg) : Sp :=
  if c.m = 0 then s.meet (Sp.of c.r c.r) else if s.hi - s.lo < upI s.lo c.m c.r then Sp.zero else Sp.of (s.lo + upI s.lo c.m c.r) (s.hi - dnI s.hi c.m c.r)
def oneC (t : Sp) (c : Cg) : Cg := if t.lo = t.hi then Cg.of 0 t.lo else c
/-- What value.Reduce makes of clean ints. -/
def In.redC (x : In) : In := In.clean ⟨tightI x.s x.c, oneC (tightI x.s x.c) x.c⟩
def In.red (i : In) : In := In.redC i.clean
/-- The document's own way. -/
def In.redR (x : In) : In :=
  if x.s.s = false then In.zero else if x.c.m = 0 then (if x.s.has x.c.r = true then ⟨Sp.of x.c.r x.c.r, ⟨true, 0, x.c.r⟩⟩ else In.zero) else
    if (!isI (x.s.lo + upI x.s.lo x.c.m x.c.r) || !isI (x.s.hi - dnI x.s.hi x.c.m x.c.r) || decide (x.s.hi - dnI x.s.hi x.c.m x.c.r < x.s.lo + upI x.s.lo x.c.m x.c.r)) = true then In.zero else
      ⟨Sp.of (x.s.lo + upI x.s.lo x.c.m x.c.r) (x.s.hi - dnI x.s.hi x.c.m x.c.r),
        if x.s.lo + upI x.s.lo x.c.m x.c.r = x.s.hi - dnI x.s.hi x.c.m x.c.r then ⟨true, 0, x.s.lo + upI x.s.lo x.c.m x.c.r⟩ else x.c⟩

theorem meet_one {s : Sp} {r : Int} (hs : s.none = false) : s.meet (Sp.of r r) = if s.has r = true then ⟨true, r, r⟩ else Sp.zero := by
  have h1 : (Sp.of r r).none = false := by rw [Sp.of_f (by omega)]; exact Sp.none_f (by omega)
  rw [Sp.meet_00 hs h1, Sp.of_f (show ¬ r < r by omega)]
  dsimp only
  have hs' := (Sp.none_iff s).1 hs
  by_cases h : s.has r = true
  · rw [if_pos h]
    unfold Sp.has at h
    simp at h
    rw [show max s.lo r = r by omega, show min s.hi r = r by omega]
    exact Sp.of_f (by omega)
  · rw [if_neg h]
    refine Sp.of_t ?_
    unfold Sp.has at h
    rw [hs'.1] at h
    simp at h
    omega
/-- The cases of reducing clean ints. -/
theorem In.red_cases {x : In} (hx : x.std) :
    (x = In.zero ∧ x.redC = In.zero) ∨
    (x.s.none = false ∧ x.c.s = true ∧ x.c.m = 0 ∧ x.s.has x.c.r = true ∧ x.redC = ⟨⟨true, x.c.r, x.c.r⟩, ⟨true, 0, x.c.r⟩⟩) ∨
    (x.s.none = false ∧ x.c.s = true ∧ x.c.m = 0 ∧ x.s.has x.c.r = false ∧ x.redC = In.zero) ∨
    (x.s.none = false ∧ x.c.s = true ∧ 0 < x.c.m ∧ x.s.hi < x.s.lo + upI x.s.lo x.c.m x.c.r ∧ x.redC = In.zero) ∨
    (x.s.none = false ∧ x.c.s = true ∧ 0 < x.c.m ∧ ∃ a b : Int, a = x.s.lo + upI x.s.lo x.c.m x.c.r ∧ b = x.s.hi - dnI x.s.hi x.c.m x.c.r ∧ x.s.lo ≤ a ∧ a ≤ b ∧ b ≤ x.s.hi ∧ a % x.c.m = x.c.r ∧ b % x.c.m = x.c.r ∧
      (∀ n, x.s.lo ≤ n → n ≤ x.s.hi → n % x.c.m = x.c.r → a ≤ n ∧ n ≤ b) ∧ x.redC = ⟨⟨true, a, b⟩, if a = b then ⟨true, 0, a⟩ else x.c⟩) := by
  rcases hx.2.2 with ⟨e1, e2⟩ | ⟨e1, e2⟩
  · have e : x = In.zero := In.ext' e1 e2
    left; subst e; exact ⟨rfl, rfl⟩
  · right
    have hlh := ((Sp.none_iff _).1 e1).2
    have hc := hx.2.1
    by_cases h0 : x.c.m = 0
    · cases hh : x.s.has x.c.r
      · right; left
        refine ⟨e1, e2, h0, rfl, ?_⟩
        unfold In.redC tightI
        rw [if_pos h0, meet_one e1, hh]
        exact In.clean_t rfl
      · left
        refine ⟨e1, e2, h0, rfl, ?_⟩
        unfold In.redC tightI
        rw [if_pos h0, meet_one e1, hh]
        simp only [if_true, oneC]
        rw [In.clean_f (by unfold In.none Sp.none; rw [Cg.of_nil]; simp), Cg.of_nil]
        exact In.ext' rfl (by rw [Cg.clean_pos rfl (show ¬ (0 : Int) < 0 by omega)]; dsimp only; rw [modI_zero])
    · right; right
      have hm : 0 < x.c.m := by have := hc.2.1; omega
      obtain ⟨r0, r1⟩ := hc.2.2.2 hm
      obtain ⟨u0, u1, u2, u3⟩ := up_spec (lo := x.s.lo) r0 r1
      obtain ⟨d0, d1, d2, d3⟩ := dn_spec (hi := x.s.hi) r0 r1
      unfold In.redC tightI
      rw [if_neg h0]
      generalize upI x.s.lo x.c.m x.c.r = up at *
      generalize dnI x.s.hi x.c.m x.c.r = dn at *
      by_cases h1 : x.s.hi - x.s.lo < up
      · left
        refine ⟨e1, e2, hm, by omega, ?_⟩
        rw [if_pos h1]
        exact In.clean_t rfl
      · right
        have hab := d3 (x.s.lo + up) (by omega) u2
        refine ⟨e1, e2, hm, x.s.lo + up, x.s.hi - dn, rfl, rfl, by omega, hab, by omega, u2, d2, fun n h2 h3 h4 => ⟨u3 n h2 h4, d3 n h3 h4⟩, ?_⟩
        rw [if_neg h1, Sp.of_f (by omega)]
        unfold oneC
        dsimp only
        have hn : (Sp.mk true (x.s.lo + up) (x.s.hi - dn)).none = false := Sp.none_f (by omega)
        by_cases h2 : x.s.lo + up = x.s.hi - dn
        · rw [if_pos h2, if_pos h2, In.clean_f (by unfold In.none; dsimp only; rw [hn, Cg.of_nil]; rfl), Cg.of_nil]
          exact In.ext' rfl (by rw [Cg.clean_pos rfl (show ¬ (0 : Int) < 0 by omega)]; dsimp only; rw [modI_zero])
        · rw [if_neg h2, if_neg h2, In.clean_f (by unfold In.none; dsimp only; rw [hn, e2]; rfl)]
          exact In.ext' rfl (Cg.std_clean hc)
theorem In.red_std {x : In} (hx : x.std) : x.redC.std := by
  rcases In.red_cases hx with ⟨_, e⟩ | ⟨h1, h2, h3, h4, e⟩ | ⟨_, _, _, _, e⟩ | ⟨_, _, _, _, e⟩ | ⟨h1, h2, h3, a, b, _, _, g1, g2, g3, g4, g5, _, e⟩
  · rw [e]; exact In.zero_std
  · rw [e]
    have hr := hx.2.1.1.2
    exact ⟨⟨hr, hr⟩, ⟨⟨I64_0, hr⟩, Int.le_refl 0, fun h => (by cases h), fun h => absurd h (by first | omega | (dsimp only; omega))⟩, Or.inr ⟨Sp.none_f (by omega), rfl⟩⟩
  · rw [e]; exact In.zero_std
  · rw [e]; exact In.zero_std
  · rw [e]
    have hlo := hx.1.1; have hhi := hx.1.2
    have ha : I64 a := by unfold I64 at *; omega
    have hb : I64 b := by unfold I64 at *; omega
    refine ⟨⟨ha, hb⟩, ?_, Or.inr ⟨Sp.none_f (by omega), ?_⟩⟩
    · dsimp only; split
      · exact ⟨⟨I64_0, ha⟩, Int.le_refl 0, fun h => (by cases h), fun h => absurd h (by first | omega | (dsimp only; omega))⟩
      · exact hx.2.1
    · dsimp only; split
      · rfl
      · exact h2
theorem Sp.has_mk (lo hi n : Int) : (Sp.mk true lo hi).has n = (decide (lo ≤ n) && decide (n ≤ hi)) := by unfold Sp.has; rfl
theorem Cg.one_has (r n : Int) (hr : I64 r) : (Cg.mk true 0 r).has n = (n == r) := by
  rw [Cg.has_std ⟨⟨I64_0, hr⟩, Int.le_refl 0, fun h => (by cases h), fun h => absurd h (by first | omega | (dsimp only; omega))⟩]
  simp
theorem In.zero_has (n : Int) : In.zero.has n = false := by
  unfold In.has; rw [show In.zero.s.has n = false from Sp.none_has rfl n]; rfl
theorem In.red_has {x : In} (hx : x.std) (n : Int) : x.redC.has n = x.has n := by
  rcases In.red_cases hx with ⟨e0, e⟩ | ⟨h1, h2, h3, h4, e⟩ | ⟨h1, h2, h3, h4, e⟩ | ⟨h1, h2, h3, h4, e⟩ | ⟨h1, h2, h3, a, b, ea, eb, g1, g2, g3, g4, g5, g6, e⟩
  · rw [e, e0]
  · rw [e]
    unfold In.has
    dsimp only
    rw [Sp.has_mk, Cg.one_has _ _ hx.2.1.1.2, Cg.has_std hx.2.1, h2, if_pos h3]
    by_cases hn : n = x.c.r
    · subst hn; rw [h4]; simp
    · have : (n == x.c.r) = false := by simpa using hn
      rw [this]; simp
  · rw [e, In.zero_has]
    unfold In.has
    rw [Cg.has_std hx.2.1, h2, if_pos h3]
    by_cases hn : n = x.c.r
    · subst hn; rw [h4]; rfl
    · have : (n == x.c.r) = false := by simpa using hn
      rw [this]; simp
  · rw [e, In.zero_has]
    obtain ⟨r0, r1⟩ := hx.2.1.2.2.2 h3
    obtain ⟨_, _, _, u3⟩ := up_spec (lo := x.s.lo) r0 r1
    cases hh : x.has n
    · rfl
    · unfold In.has at hh
      rw [Bool.and_eq_true, Cg.has_iff hx.2.1] at hh
      obtain ⟨hs, _, hc⟩ := hh
      unfold Sp.has at hs
      simp at hs
      rcases hc with ⟨hc, _⟩ | ⟨_, hc⟩
      · omega
      · have := u3 n hs.1.2 hc; omega
  · rw [e]
    have hs := (Sp.none_iff _).1 h1
    have hc : x.c.has n = (n % x.c.m == x.c.r) := by rw [Cg.has_std hx.2.1, h2, if_neg (by omega)]; rfl
    have hsn : x.s.has n = (decide (x.s.lo ≤ n) && decide (n ≤ x.s.hi)) := by unfold Sp.has; rw [hs.1]; rfl
    unfold In.has
    dsimp only
    rw [Sp.has_mk, hc, hsn]
    have hab : I64 a := by have := hx.1.1; have := hx.1.2; unfold I64 at *; omega
    rw [Bool.eq_iff_iff]
    simp only [Bool.and_eq_true, decide_eq_true_eq, beq_iff_eq]
    split
    · next h => 
      rw [Cg.one_has _ _ hab, beq_iff_eq]
      constructor
      · rintro ⟨⟨q1, q2⟩, q3⟩; subst q3; exact ⟨⟨by omega, by omega⟩, g4⟩
      · rintro ⟨⟨q1, q2⟩, q3⟩; have := g6 n q1 q2 q3; exact ⟨this, by omega⟩
    · rw [hc, beq_iff_eq]
      constructor
      · rintro ⟨⟨q1, q2⟩, q3⟩; exact ⟨⟨by omega, by omega⟩, q3⟩
      · rintro ⟨⟨q1, q2⟩, q3⟩; exact ⟨g6 n q1 q2 q3, q3⟩
theorem In.red_leq {x : In} (hx : x.std) : x.redC.s.leq x.s = true ∧ x.redC.c.leq x.c = true := by
  rcases In.red_cases hx with ⟨e0, e⟩ | ⟨h1, h2, h3, h4, e⟩ | ⟨h1, h2, h3, h4, e⟩ | ⟨h1, h2, h3, h4, e⟩ | ⟨h1, h2, h3, a, b, ea, eb, g1, g2, g3, g4, g5, g6, e⟩
  · rw [e]; exact ⟨Sp.leq_zero _, Cg.leq_zero _⟩
  · rw [e]
    have ec : Cg.mk true 0 x.c.r = x.c := Cg.ext' h2.symm h3.symm rfl
    dsimp only
    rw [ec]
    refine ⟨?_, Cg.leq_self hx.2.1⟩
    unfold Sp.leq
    dsimp only
    rw [h4]; simp
  · rw [e]; exact ⟨Sp.leq_zero _, Cg.leq_zero _⟩
  · rw [e]; exact ⟨Sp.leq_zero _, Cg.leq_zero _⟩
  · rw [e]
    dsimp only
    refine ⟨(Sp.leq_iff _ _).2 (Or.inr ⟨h1, g1, g3⟩), ?_⟩
    have hab : I64 a := by have := hx.1.1; have := hx.1.2; unfold I64 at *; omega
    split
    · exact Cg.leq_std hx.2.1 h3 h2 ⟨⟨I64_0, hab⟩, Int.le_refl 0, fun h => (by cases h), fun h => absurd h (by first | omega | (dsimp only; omega))⟩ (Int.dvd_zero _) g4
    · exact Cg.leq_self hx.2.1
theorem In.redR_eq {x : In} (hx : x.std) : x.redR = x.redC := by
  rcases In.red_cases hx with ⟨e0, e⟩ | ⟨h1, h2, h3, h4, e⟩ | ⟨h1, h2, h3, h4, e⟩ | ⟨h1, h2, h3, h4, e⟩ | ⟨h1, h2, h3, a, b, ea, eb, g1, g2, g3, g4, g5, g6, e⟩
  · rw [e, e0]; rfl
  · have hs := (Sp.none_iff _).1 h1
    rw [e]; unfold In.redR
    rw [if_neg (by rw [hs.1]; decide), if_pos h3, if_pos h4, Sp.of_f (by omega)]
  · have hs := (Sp.none_iff _).1 h1
    rw [e]; unfold In.redR
    rw [if_neg (by rw [hs.1]; decide), if_pos h3, if_neg (by rw [h4]; decide)]
  · have hs := (Sp.none_iff _).1 h1
    obtain ⟨r0, r1⟩ := hx.2.1.2.2.2 h3
    obtain ⟨d0, _, _, _⟩ := dn_spec (hi := x.s.hi) r0 r1
    rw [e]; unfold In.redR
    rw [if_neg (by rw [hs.1]; decide), if_neg (by omega), if_pos]
    rw [Bool.or_eq_true, decide_eq_true_eq]
    right; omega
  · have hs := (Sp.none_iff _).1 h1
    have hlo := hx.1.1; have hhi := hx.1.2
    rw [e]; unfold In.redR
    rw [if_neg (by rw [hs.1]; decide), if_neg (by omega), ← ea, ← eb, if_neg, Sp.of_f (by omega)]
    rw [(isI_iff a).2 (by unfold I64 at *; omega), (isI_iff b).2 (by unfold I64 at *; omega)]
    simp; omega
theorem In.red_red {x : In} (hx : x.std) : x.redC.redC = x.redC := by
  have hy := In.red_std hx
  rcases In.red_cases hx with ⟨e0, e⟩ | ⟨h1, h2, h3, h4, e⟩ | ⟨h1, h2, h3, h4, e⟩ | ⟨h1, h2, h3, h4, e⟩ | ⟨h1, h2, h3, a, b, ea, eb, g1, g2, g3, g4, g5, g6, e⟩
  · rw [e]; rfl
  · rw [e] at hy ⊢
    rcases In.red_cases hy with ⟨f0, _⟩ | ⟨f1, f2, f3, f4, f⟩ | ⟨f1, f2, f3, f4, f⟩ | ⟨f1, f2, f3, f4, f⟩ | ⟨f1, f2, f3, _⟩
    · cases f0
    · exact f
    · rw [Sp.has_mk] at f4; simp at f4
    · dsimp only at f3; omega
    · dsimp only at f3; omega
  · rw [e]; rfl
  · rw [e]; rfl
  · rw [e] at hy ⊢
    obtain ⟨r0, r1⟩ := hx.2.1.2.2.2 h3
    by_cases hab : a = b
    · subst hab
      rw [if_pos rfl] at hy ⊢
      rcases In.red_cases hy with ⟨f0, _⟩ | ⟨f1, f2, f3, f4, f⟩ | ⟨f1, f2, f3, f4, f⟩ | ⟨f1, f2, f3, f4, f⟩ | ⟨f1, f2, f3, _⟩
      · cases f0
      · exact f
      · rw [Sp.has_mk] at f4; simp at f4
      · dsimp only at f3; omega
      · dsimp only at f3; omega
    · rw [if_neg hab] at hy ⊢
      rcases In.red_cases hy with ⟨f0, _⟩ | ⟨f1, f2, f3, f4, f⟩ | ⟨f1, f2, f3, f4, f⟩ | ⟨f1, f2, f3, f4, f⟩ | ⟨f1, f2, f3, a', b', fa, fb, k1, k2, k3, k4, k5, k6, f⟩
      · cases f0
      · dsimp only at f3; omega
      · dsimp only at f3; omega
      · dsimp only at f4
        obtain ⟨_, _, _, u3⟩ := up_spec (lo := a) r0 r1
        have := u3 a (Int.le_refl _) g4; omega
      · dsimp only at k6 k1 k3 f fa fb
        have h5 := k6 a (Int.le_refl _) g2 g4
        have h6 := k6 b g2 (Int.le_refl _) g5
        have e1 : a' = a := by omega
        have e2 : b' = b := by omega
        rw [f, e1, e2, if_neg hab]
end Go.Proofs.YtdpnphnafidpiaaGreat

/- X-PARTIAL What the functions of package value that clean return: layer 8. -/
namespace Go.Proofs.YtdpnphnafidpiaaGreat
open Go.RowKit

/-- What is known of where the strings of a made set lie. -/
def MadeV (b : Nat) (w : World) (A : Option Addr) (c : Nat) (l : List Str) : Prop := l.length ≤ c ∧ c ≤ 9223372036854775807 ∧ SRow w A l ∧ (A = none → c = 0) ∧ (∀ a, A = some a → b ≤ a.block ∧ a.spot = none)

theorem MadeV.mono {b : Nat} {w w' : World} {A : Option Addr} {c : Nat} {l : List Str} (h : MadeV b w A c l) (hb : Below w.heap.size w w') : MadeV b w' A c l := ⟨h.1, h.2.1, h.2.2.1.mono hb, h.2.2.2⟩

theorem MadeV.base {b b' : Nat} {w : World} {A : Option Addr} {c : Nat} {l : List Str} (h : MadeV b w A c l) (hb : b' ≤ b) : MadeV b' w A c l := ⟨h.1, h.2.1, h.2.2.1, h.2.2.2.1, fun a e => ⟨Nat.le_trans hb (h.2.2.2.2 a e).1, (h.2.2.2.2 a e).2⟩⟩

theorem MadeV.setCell {b : Nat} {w : World} {A : Option Addr} {c : Nat} {l : List Str} (h : MadeV b w A c l) {k o : Nat} (hk : k < b) (v : Value) : MadeV b (w.setCell ⟨k, o, none⟩ v) A c l :=
  ⟨h.1, h.2.1, h.2.2.1.setCell (fun a e => by have := (h.2.2.2.2 a e).1; omega) v, h.2.2.2⟩

theorem MadeV.ghost {b lo : Nat} {w : World} {A : Option Addr} {c : Nat} {l : List Str} (h : MadeV b w A c l) (hlo : lo ≤ b) : ∃ g : Nat → Nat, A = gA g ∧ c = g 2 ∧ RSetG l g lo w.heap.size w := by
  obtain ⟨g, e, hg⟩ := SetV.ghost (v := .agg #[.bool false, .slice A l.length c]) (n := false) ⟨A, c, rfl, h⟩ hlo
  injection e with e
  injection e with e
  injection e with e1 e2
  injection e2 with e2 e3
  injection e2 with e4 e5 e6
  exact ⟨g, e4, e6, hg⟩

theorem RSetG.made {l : List Str} {g : Nat → Nat} {lo hi : Nat} {w : World} (h : RSetG l g lo hi w) : MadeV lo w (gA g) (g 2) l := by
  obtain ⟨h1, h2, h3, h4, h5⟩ := h
  refine ⟨h2, h3, h1, h4, fun a e => ⟨(h5 a e).1, ?_⟩⟩
  unfold gA at e
  split at e
  · cases e
  · injection e with e; subst e; rfl

theorem cong_none (c : Cg) (w : World) :
    Calls Tryz.prog 95 #[.agg #[.bool c.s, .int .i64 c.m, .int .i64 c.r]] w fun e w' => e = .returned (.bool (!c.s)) ∧ Below w.heap.size w w' := by
  go_enter Tryz.func95, Tryz.ntmps95
  go_wp2
  go_ret
  exact ⟨rfl, (by repeat (first | (with_reducible assumption) | (with_reducible exact Below.refl _ _) | (with_reducible refine Below.alloc ?_ (by first | omega | (simp; omega) | (simp; done) | (dsimp only; omega)) _) | (with_reducible refine Below.setCell ?_ (by first | omega | (simp; omega) | (simp; done) | (dsimp only; omega)) _) | (with_reducible refine Below.drew ?_) | (with_reducible refine Below.trans ?_ (Below.mono (by assumption) (by first | omega | (simp; omega) | (simp; done) | (dsimp only; omega))))))⟩

set_option maxHeartbeats 1000000 in
theorem ints_none (i : In) (w : World) :
    Calls Tryz.prog 58 #[.agg #[.bool i.s.s, .int .i64 i.s.lo, .int .i64 i.s.hi, .bool i.c.s, .int .i64 i.c.m, .int .i64 i.c.r]] w fun e w' => e = .returned (.bool i.none) ∧ Below w.heap.size w w' := by
  have h1 := span_none i.s
  have H2 := Lib.hid (cong_none i.c)
  unfold In.none
  cases h : i.s.none
  all_goals
    rw [h] at h1
    have H1 := Lib.hid h1
    clear h1 h
    go_enter Tryz.func58, Tryz.ntmps58
    go_wp2_with (first | (go_at_call 62; (with_reducible refine (H1.out _).mono ?_); rintro e w1 ⟨rfl, hb1⟩; obtain ⟨hc1, hf1⟩ := bcell hb1; have hz1 := hb1.size; (try simp at hz1); (try have hy1 := Nat.lt_of_succ_le hz1); (try have hv1 := Nat.lt_of_succ_lt hy1); (try have hw10 : w.heap.size < w1.heap.size := by omega); (try have hw11 : w.heap.size + 1 < w1.heap.size := by omega); (try have hw12 : w.heap.size + 1 + 1 < w1.heap.size := by omega); (try have hw13 : w.heap.size + 1 + 1 + 1 < w1.heap.size := by omega)) | (go_at_call 95; (with_reducible refine (H2.out _).mono ?_); rintro e w2 ⟨rfl, hb2⟩; obtain ⟨hc2, hf2⟩ := bcell hb2; have hz2 := hb2.size; (try simp at hz2); (try have hy2 := Nat.lt_of_succ_le hz2); (try have hv2 := Nat.lt_of_succ_lt hy2); (try have hw20 : w.heap.size < w2.heap.size := by omega); (try have hw21 : w.heap.size + 1 < w2.heap.size := by omega); (try have hw22 : w.heap.size + 1 + 1 < w2.heap.size := by omega); (try have hw23 : w.heap.size + 1 + 1 + 1 < w2.heap.size := by omega)))
    go_ret
    exact ⟨rfl, (by repeat (first | (with_reducible assumption) | (with_reducible exact Below.refl _ _) | (with_reducible refine Below.alloc ?_ (by first | omega | (simp; omega) | (simp; done) | (dsimp only; omega)) _) | (with_reducible refine Below.setCell ?_ (by first | omega | (simp; omega) | (simp; done) | (dsimp only; omega)) _) | (with_reducible refine Below.drew ?_) | (with_reducible refine Below.trans ?_ (Below.mono (by assumption) (by first | omega | (simp; omega) | (simp; done) | (dsimp only; omega))))))⟩

set_option maxRecDepth 100000 in
set_option maxHeartbeats 4000000 in
theorem value_clean (i : In) (hi : i.ok) (n : Bool) (l : List Str) (A : Option Addr) (c : Nat) (w : World) (hm : l.length * 16 ≤ 140737488355328) (hz : A = none → c = 0) (hr : SRow w A l) :
    Calls Tryz.prog 24 #[.agg #[.bool i.s.s, .int .i64 i.s.lo, .int .i64 i.s.hi, .bool i.c.s, .int .i64 i.c.m, .int .i64 i.c.r], .agg #[.bool n, .slice A l.length c]] w fun e w' => (∃ A' c', e = .returned (.agg #[.bool (i.clean).s.s, .int .i64 (i.clean).s.lo, .int .i64 (i.clean).s.hi, .bool (i.clean).c.s, .int .i64 (i.clean).c.m, .int .i64 (i.clean).c.r, .bool n, .slice A' (srt l).length c']) ∧ MadeV w.heap.size w' A' c' (srt l)) ∧ Below w.heap.size w w' := by
  have HC : Hid (∀ w', Below w.heap.size w w' → _) := Lib.hid (fun w' h => names_Clean n l A c w' hm hz (hr.mono h))
  have h1 := ints_none i
  cases hn : i.none
  · rw [hn] at h1
    have H1 := Lib.hid h1
    have h2 := span_clean i.s
    rw [Sp.clean_some (In.none_f hn).1] at h2
    have H2 := Lib.hid h2
    have H3 := Lib.hid (cong_clean i.c hi.2.1)
    rw [In.clean_f hn]
    dsimp only
    clear h1 h2 hn hi hr
    generalize i.c.clean = cc at *
    obtain ⟨s, c0⟩ := i
    dsimp only at *
    go_enter Tryz.func24, Tryz.ntmps24
    go_upto_region 1 with fail
    generalize hW : (((w.alloc (.cells #[.bool s.s, .int .i64 s.lo, .int .i64 s.hi, .bool c0.s, .int .i64 c0.m, .int .i64 c0.r] 53)).alloc (.cells #[.bool n, .slice A l.length c] 28)).alloc (.cells #[.bool false, .int .i64 0, .int .i64 0, .bool false, .int .i64 0, .int .i64 0, .bool false, .slice none 0 0] 55)) = W
    have q0_0 : W.cell? ⟨w.heap.size, 0, none⟩ = some (.bool s.s) := by rw [← hW]; simp [go_sem]
    have q0_1 : W.cell? ⟨w.heap.size, 1, none⟩ = some (.int .i64 s.lo) := by rw [← hW]; simp [go_sem]
    have q0_2 : W.cell? ⟨w.heap.size, 2, none⟩ = some (.int .i64 s.hi) := by rw [← hW]; simp [go_sem]
    have q0_3 : W.cell? ⟨w.heap.size, 3, none⟩ = some (.bool c0.s) := by rw [← hW]; simp [go_sem]
    have q0_4 : W.cell? ⟨w.heap.size, 4, none⟩ = some (.int .i64 c0.m) := by rw [← hW]; simp [go_sem]
    have q0_5 : W.cell? ⟨w.heap.size, 5, none⟩ = some (.int .i64 c0.r) := by rw [← hW]; simp [go_sem]
    have q1_0 : W.cell? ⟨w.heap.size + 1, 0, none⟩ = some (.bool n) := by rw [← hW]; simp [go_sem]
    have q1_1 : W.cell? ⟨w.heap.size + 1, 1, none⟩ = some (.slice A l.length c) := by rw [← hW]; simp [go_sem]
    have q2_0 : W.cell? ⟨w.heap.size + 1 + 1, 0, none⟩ = some (.bool false) := by rw [← hW]; simp [go_sem]
    have q2_1 : W.cell? ⟨w.heap.size + 1 + 1, 1, none⟩ = some (.int .i64 0) := by rw [← hW]; simp [go_sem]
    have q2_2 : W.cell? ⟨w.heap.size + 1 + 1, 2, none⟩ = some (.int .i64 0) := by rw [← hW]; simp [go_sem]
    have q2_3 : W.cell? ⟨w.heap.size + 1 + 1, 3, none⟩ = some (.bool false) := by rw [← hW]; simp [go_sem]
    have q2_4 : W.cell? ⟨w.heap.size + 1 + 1, 4, none⟩ = some (.int .i64 0) := by rw [← hW]; simp [go_sem]
    have q2_5 : W.cell? ⟨w.heap.size + 1 + 1, 5, none⟩ = some (.int .i64 0) := by rw [← hW]; simp [go_sem]
    have q2_6 : W.cell? ⟨w.heap.size + 1 + 1, 6, none⟩ = some (.bool false) := by rw [← hW]; simp [go_sem]
    have q2_7 : W.cell? ⟨w.heap.size + 1 + 1, 7, none⟩ = some (.slice none 0 0) := by rw [← hW]; simp [go_sem]
    have f0 : ∀ o, W.frozen? ⟨w.heap.size, o, none⟩ = false := by intro o; rw [← hW]; simp [go_sem]
    have f1 : ∀ o, W.frozen? ⟨w.heap.size + 1, o, none⟩ = false := by intro o; rw [← hW]; simp [go_sem]
    have f2 : ∀ o, W.frozen? ⟨w.heap.size + 1 + 1, o, none⟩ = false := by intro o; rw [← hW]; simp [go_sem]
    have z0 : w.heap.size < W.heap.size := by rw [← hW]; first | (simp; done) | (simp; omega)
    have z1 : w.heap.size + 1 < W.heap.size := by rw [← hW]; first | (simp; done) | (simp; omega)
    have z2 : w.heap.size + 1 + 1 < W.heap.size := by rw [← hW]; first | (simp; done) | (simp; omega)
    have HW : Below w.heap.size w W := by rw [← hW]; exact (by repeat (first | (with_reducible assumption) | (with_reducible exact Below.refl _ _) | (with_reducible refine Below.alloc ?_ (by first | omega | (simp; omega) | (simp; done) | (dsimp only; omega)) _) | (with_reducible refine Below.setCell ?_ (by first | omega | (simp; omega) | (simp; done) | (dsimp only; omega)) _) | (with_reducible refine Below.drew ?_) | (with_reducible refine Below.trans ?_ (Below.mono (by assumption) (by first | omega | (simp; omega) | (simp; done) | (dsimp only; omega))))))
    clear hW
    go_wp2_with (go_at_call 58; (with_reducible refine (H1.out _).mono ?_); rintro e w9 ⟨rfl, hb9⟩; obtain ⟨hc9, hf9⟩ := bcell hb9; have hz9 := hb9.size; (try simp at hz9); (try have hy9 := Nat.lt_of_succ_le hz9); (try have hv9 := Nat.lt_of_succ_lt hy9); (try have hw90 : w.heap.size < w9.heap.size := by omega); (try have hw91 : w.heap.size + 1 < w9.heap.size := by omega); (try have hw92 : w.heap.size + 1 + 1 < w9.heap.size := by omega); (try have hw93 : w.heap.size + 1 + 1 + 1 < w9.heap.size := by omega))
    have HW1 := HW.trans (hb9.mono HW.size)
    replace f2 := fun o => (hb9.frozen (p := ⟨w.heap.size + 1 + 1, o, none⟩) z2).trans (f2 o)
    replace q0_0 := (hb9.cell (p := ⟨w.heap.size, 0, none⟩) z0).trans q0_0
    replace q0_1 := (hb9.cell (p := ⟨w.heap.size, 1, none⟩) z0).trans q0_1
    replace q0_2 := (hb9.cell (p := ⟨w.heap.size, 2, none⟩) z0).trans q0_2
    replace q0_3 := (hb9.cell (p := ⟨w.heap.size, 3, none⟩) z0).trans q0_3
    replace q0_4 := (hb9.cell (p := ⟨w.heap.size, 4, none⟩) z0).trans q0_4
    replace q0_5 := (hb9.cell (p := ⟨w.heap.size, 5, none⟩) z0).trans q0_5
    replace q1_0 := (hb9.cell (p := ⟨w.heap.size + 1, 0, none⟩) z1).trans q1_0
    replace q1_1 := (hb9.cell (p := ⟨w.heap.size + 1, 1, none⟩) z1).trans q1_1
    replace q2_0 := (hb9.cell (p := ⟨w.heap.size + 1 + 1, 0, none⟩) z2).trans q2_0
    replace q2_1 := (hb9.cell (p := ⟨w.heap.size + 1 + 1, 1, none⟩) z2).trans q2_1
    replace q2_2 := (hb9.cell (p := ⟨w.heap.size + 1 + 1, 2, none⟩) z2).trans q2_2
    replace q2_3 := (hb9.cell (p := ⟨w.heap.size + 1 + 1, 3, none⟩) z2).trans q2_3
    replace q2_4 := (hb9.cell (p := ⟨w.heap.size + 1 + 1, 4, none⟩) z2).trans q2_4
    replace q2_5 := (hb9.cell (p := ⟨w.heap.size + 1 + 1, 5, none⟩) z2).trans q2_5
    replace q2_6 := (hb9.cell (p := ⟨w.heap.size + 1 + 1, 6, none⟩) z2).trans q2_6
    replace q2_7 := (hb9.cell (p := ⟨w.heap.size + 1 + 1, 7, none⟩) z2).trans q2_7
    replace z0 := Nat.lt_of_lt_of_le z0 hb9.size
    replace z1 := Nat.lt_of_lt_of_le z1 hb9.size
    replace z2 := Nat.lt_of_lt_of_le z2 hb9.size
    clear hb9 hc9 hf9
    refine region_seqg (W := w9) [_, _, _, _, _, _, _, _, _, _] [_] rfl (by kernel_rfl) (by kernel_rfl) (by repeat (first | (with_reducible assumption) | (with_reducible exact Below.refl _ _) | (with_reducible refine Below.alloc ?_ (by first | omega | (simp; omega) | (simp; done) | (dsimp only; omega)) _) | (with_reducible refine Below.setCell ?_ (by first | omega | (simp; omega) | (simp; done) | (dsimp only; omega)) _) | (with_reducible refine Below.drew ?_) | (with_reducible refine Below.trans ?_ (Below.mono (by assumption) (by first | omega | (simp; omega) | (simp; done) | (dsimp only; omega)))))) (fun fin hfin => ?_)
    iterate 8
      first
        | (refine SeqG.yes (v := ?_) (A' := ?_) rfl (fun γ => by rfl) ?_ ?_ ?_
           rotate_left 2
           · intro γ w' K hS hK
             obtain ⟨hc, hf⟩ := bcell hS
             have hz := hS.size
             go_simp
             first
               | exact hK.out _ (Below.refl _ _)
               | (go_at_call 60; (with_reducible refine (H2.out _).mono ?_); rintro e w1 ⟨rfl, hb1⟩; exact hK.out _ hb1)
               | (go_at_call 61; (with_reducible refine (H3.out _).mono ?_); rintro e w1 ⟨rfl, hb1⟩; exact hK.out _ hb1)
               | trace_state
           · intro γ; simp only [Act.put, List.setIfInBounds_toArray, List.set_cons_zero, List.set_cons_succ]; exact rfl)
        | (refine SeqG.no (A' := ?_) rfl (fun γ => by rfl) ?_ ?_
           rotate_left
           · intro γ; simp only [Act.put, List.setIfInBounds_toArray, List.set_cons_zero, List.set_cons_succ]; exact rfl)
    refine SeqG.make (k := 8) (A' := ?_) (fun g => .agg #[.bool (n), .slice (gA g) (srt l).length (g 2)]) (RSetG (srt l)) rfl (fun γ => by rfl) (RSetG.stable _) ?_ ?_ ?_
    rotate_left
    · intro γ w' K hS hF hK
      obtain ⟨hc, hf⟩ := bcell hS
      have hz := hS.size
      go_simp
      (go_at_call 59; refine (HC.out w' (HW1.trans (hS.mono (by omega)))).mono ?_; rintro e w1 ⟨⟨v, rfl, hset⟩, hb1⟩; obtain ⟨g, rfl, hg⟩ := SetV.ghost hset (by omega) (lo := w'.heap.size); exact hK.out g w1 hb1 hg)
    · intro γ; simp only [Act.put, List.setIfInBounds_toArray, List.set_cons_zero, List.set_cons_succ]; exact rfl
    refine SeqG.hang (k := 9) (A' := ?_) (fun γ => .agg #[.bool s.s, .int .i64 s.lo, .int .i64 s.hi, .bool cc.s, .int .i64 cc.m, .int .i64 cc.r, .bool n, .slice (gA (γ 8)) (srt l).length (γ 8 2)]) rfl (fun γ => by rfl) (fun i _ hn γ g => ?_) (fun γ g => ?_) ?_ ?_ ?_
    rotate_left
    · have hne8 : 8 ≠ i := fun e => hn (by rw [← e]; exact reachL_spec (of_decide_eq_true (by kernel_rfl)))
      (try dsimp only); rw [updG_ne γ g hne8]
    · (try dsimp only); rw [updG_ne γ g (show 8 ≠ 9 by decide)]
    · intro γ w' K hS _ hK
      obtain ⟨hc, hf⟩ := bcell hS
      have hz := hS.size
      go_simp
      exact hK.out _ (Below.refl _ _)
    · intro γ; simp only [Act.put, List.setIfInBounds_toArray, List.set_cons_zero, List.set_cons_succ]; exact rfl
    refine SeqG.nil (hfin.out _ _ ?_)
    clear hfin fin
    intro γ lo hi w1 hB1 hF hD
    replace hF := listF1 hF
    dsimp only at hF
    clear hD
    obtain ⟨y8, l8, o8, hR⟩ := hF
    have hM := RSetG.made hR
    have HB := HW1.trans (hB1.mono HW1.size)
    replace f2 := fun o => (hB1.frozen (p := ⟨w.heap.size + 1 + 1, o, none⟩) z2).trans (f2 o)
    replace q0_0 := (hB1.cell (p := ⟨w.heap.size, 0, none⟩) z0).trans q0_0
    replace q0_1 := (hB1.cell (p := ⟨w.heap.size, 1, none⟩) z0).trans q0_1
    replace q0_2 := (hB1.cell (p := ⟨w.heap.size, 2, none⟩) z0).trans q0_2
    replace q0_3 := (hB1.cell (p := ⟨w.heap.size, 3, none⟩) z0).trans q0_3
    replace q0_4 := (hB1.cell (p := ⟨w.heap.size, 4, none⟩) z0).trans q0_4
    replace q0_5 := (hB1.cell (p := ⟨w.heap.size, 5, none⟩) z0).trans q0_5
    replace q1_0 := (hB1.cell (p := ⟨w.heap.size + 1, 0, none⟩) z1).trans q1_0
    replace q1_1 := (hB1.cell (p := ⟨w.heap.size + 1, 1, none⟩) z1).trans q1_1
    replace q2_0 := (hB1.cell (p := ⟨w.heap.size + 1 + 1, 0, none⟩) z2).trans q2_0
    replace q2_1 := (hB1.cell (p := ⟨w.heap.size + 1 + 1, 1, none⟩) z2).trans q2_1
    replace q2_2 := (hB1.cell (p := ⟨w.heap.size + 1 + 1, 2, none⟩) z2).trans q2_2
    replace q2_3 := (hB1.cell (p := ⟨w.heap.size + 1 + 1, 3, none⟩) z2).trans q2_3
    replace q2_4 := (hB1.cell (p := ⟨w.heap.size + 1 + 1, 4, none⟩) z2).trans q2_4
    replace q2_5 := (hB1.cell (p := ⟨w.heap.size + 1 + 1, 5, none⟩) z2).trans q2_5
    replace q2_6 := (hB1.cell (p := ⟨w.heap.size + 1 + 1, 6, none⟩) z2).trans q2_6
    replace q2_7 := (hB1.cell (p := ⟨w.heap.size + 1 + 1, 7, none⟩) z2).trans q2_7
    replace z0 := Nat.lt_of_lt_of_le z0 hB1.size
    replace z1 := Nat.lt_of_lt_of_le z1 hB1.size
    replace z2 := Nat.lt_of_lt_of_le z2 hB1.size
    generalize gA (γ 8) = A1 at *
    generalize γ 8 2 = c1 at *
    clear hR hB1 q0_0 q0_1 q0_2 q0_3 q0_4 q0_5 q1_0 q1_1
    refine TailL.cons (fun K hK => ?_)
    go_simp
    refine hK.out _ _ ?_
    clear hK K
    refine TailL.nil ?_
    go_wp2
    refine bodyPost_ret (by simp [results, Tryz.results24, go_sem, *] <;> rfl) rfl ⟨⟨A1, c1, rfl, (by (refine MadeV.base (b := w.heap.size + 3) ?_ (by omega)); (repeat refine MadeV.setCell ?_ (by first | omega | (simp; omega)) _); first | exact hM | exact hM.base (by omega))⟩, (by repeat (first | (with_reducible assumption) | (with_reducible exact Below.refl _ _) | (with_reducible refine Below.alloc ?_ (by first | omega | (simp; omega) | (simp; done) | (dsimp only; omega)) _) | (with_reducible refine Below.setCell ?_ (by first | omega | (simp; omega) | (simp; done) | (dsimp only; omega)) _) | (with_reducible refine Below.drew ?_) | (with_reducible refine Below.trans ?_ (Below.mono (by assumption) (by first | omega | (simp; omega) | (simp; done) | (dsimp only; omega))))))⟩
  · rw [hn] at h1
    have H1 := Lib.hid h1
    rw [In.clean_t hn, show In.zero = ⟨⟨false, 0, 0⟩, ⟨false, 0, 0⟩⟩ from rfl]
    dsimp only
    clear h1 hn hi hr
    go_enter Tryz.func24, Tryz.ntmps24
    go_upto_region 1 with fail
    generalize hW : (((w.alloc (.cells #[.bool i.s.s, .int .i64 i.s.lo, .int .i64 i.s.hi, .bool i.c.s, .int .i64 i.c.m, .int .i64 i.c.r] 53)).alloc (.cells #[.bool n, .slice A l.length c] 28)).alloc (.cells #[.bool false, .int .i64 0, .int .i64 0, .bool false, .int .i64 0, .int .i64 0, .bool false, .slice none 0 0] 55)) = W
    have q0_0 : W.cell? ⟨w.heap.size, 0, none⟩ = some (.bool i.s.s) := by rw [← hW]; simp [go_sem]
    have q0_1 : W.cell? ⟨w.heap.size, 1, none⟩ = some (.int .i64 i.s.lo) := by rw [← hW]; simp [go_sem]
    have q0_2 : W.cell? ⟨w.heap.size, 2, none⟩ = some (.int .i64 i.s.hi) := by rw [← hW]; simp [go_sem]
    have q0_3 : W.cell? ⟨w.heap.size, 3, none⟩ = some (.bool i.c.s) := by rw [← hW]; simp [go_sem]
    have q0_4 : W.cell? ⟨w.heap.size, 4, none⟩ = some (.int .i64 i.c.m) := by rw [← hW]; simp [go_sem]
    have q0_5 : W.cell? ⟨w.heap.size, 5, none⟩ = some (.int .i64 i.c.r) := by rw [← hW]; simp [go_sem]
    have q1_0 : W.cell? ⟨w.heap.size + 1, 0, none⟩ = some (.bool n) := by rw [← hW]; simp [go_sem]
    have q1_1 : W.cell? ⟨w.heap.size + 1, 1, none⟩ = some (.slice A l.length c) := by rw [← hW]; simp [go_sem]
    have q2_0 : W.cell? ⟨w.heap.size + 1 + 1, 0, none⟩ = some (.bool false) := by rw [← hW]; simp [go_sem]
    have q2_1 : W.cell? ⟨w.heap.size + 1 + 1, 1, none⟩ = some (.int .i64 0) := by rw [← hW]; simp [go_sem]
    have q2_2 : W.cell? ⟨w.heap.size + 1 + 1, 2, none⟩ = some (.int .i64 0) := by rw [← hW]; simp [go_sem]
    have q2_3 : W.cell? ⟨w.heap.size + 1 + 1, 3, none⟩ = some (.bool false) := by rw [← hW]; simp [go_sem]
    have q2_4 : W.cell? ⟨w.heap.size + 1 + 1, 4, none⟩ = some (.int .i64 0) := by rw [← hW]; simp [go_sem]
    have q2_5 : W.cell? ⟨w.heap.size + 1 + 1, 5, none⟩ = some (.int .i64 0) := by rw [← hW]; simp [go_sem]
    have q2_6 : W.cell? ⟨w.heap.size + 1 + 1, 6, none⟩ = some (.bool false) := by rw [← hW]; simp [go_sem]
    have q2_7 : W.cell? ⟨w.heap.size + 1 + 1, 7, none⟩ = some (.slice none 0 0) := by rw [← hW]; simp [go_sem]
    have f0 : ∀ o, W.frozen? ⟨w.heap.size, o, none⟩ = false := by intro o; rw [← hW]; simp [go_sem]
    have f1 : ∀ o, W.frozen? ⟨w.heap.size + 1, o, none⟩ = false := by intro o; rw [← hW]; simp [go_sem]
    have f2 : ∀ o, W.frozen? ⟨w.heap.size + 1 + 1, o, none⟩ = false := by intro o; rw [← hW]; simp [go_sem]
    have z0 : w.heap.size < W.heap.size := by rw [← hW]; first | (simp; done) | (simp; omega)
    have z1 : w.heap.size + 1 < W.heap.size := by rw [← hW]; first | (simp; done) | (simp; omega)
    have z2 : w.heap.size + 1 + 1 < W.heap.size := by rw [← hW]; first | (simp; done) | (simp; omega)
    have HW : Below w.heap.size w W := by rw [← hW]; exact (by repeat (first | (with_reducible assumption) | (with_reducible exact Below.refl _ _) | (with_reducible refine Below.alloc ?_ (by first | omega | (simp; omega) | (simp; done) | (dsimp only; omega)) _) | (with_reducible refine Below.setCell ?_ (by first | omega | (simp; omega) | (simp; done) | (dsimp only; omega)) _) | (with_reducible refine Below.drew ?_) | (with_reducible refine Below.trans ?_ (Below.mono (by assumption) (by first | omega | (simp; omega) | (simp; done) | (dsimp only; omega))))))
    clear hW
    go_upto_region 2 with (go_at_call 58; (with_reducible refine (H1.out _).mono ?_); rintro e w9 ⟨rfl, hb9⟩; obtain ⟨hc9, hf9⟩ := bcell hb9; have hz9 := hb9.size; (try simp at hz9); (try have hy9 := Nat.lt_of_succ_le hz9); (try have hv9 := Nat.lt_of_succ_lt hy9); (try have hw90 : w.heap.size < w9.heap.size := by omega); (try have hw91 : w.heap.size + 1 < w9.heap.size := by omega); (try have hw92 : w.heap.size + 1 + 1 < w9.heap.size := by omega); (try have hw93 : w.heap.size + 1 + 1 + 1 < w9.heap.size := by omega))
    have HW1 := HW.trans (hb9.mono HW.size)
    replace f2 := fun o => (hb9.frozen (p := ⟨w.heap.size + 1 + 1, o, none⟩) z2).trans (f2 o)
    replace q0_0 := (hb9.cell (p := ⟨w.heap.size, 0, none⟩) z0).trans q0_0
    replace q0_1 := (hb9.cell (p := ⟨w.heap.size, 1, none⟩) z0).trans q0_1
    replace q0_2 := (hb9.cell (p := ⟨w.heap.size, 2, none⟩) z0).trans q0_2
    replace q0_3 := (hb9.cell (p := ⟨w.heap.size, 3, none⟩) z0).trans q0_3
    replace q0_4 := (hb9.cell (p := ⟨w.heap.size, 4, none⟩) z0).trans q0_4
    replace q0_5 := (hb9.cell (p := ⟨w.heap.size, 5, none⟩) z0).trans q0_5
    replace q1_0 := (hb9.cell (p := ⟨w.heap.size + 1, 0, none⟩) z1).trans q1_0
    replace q1_1 := (hb9.cell (p := ⟨w.heap.size + 1, 1, none⟩) z1).trans q1_1
    replace q2_0 := (hb9.cell (p := ⟨w.heap.size + 1 + 1, 0, none⟩) z2).trans q2_0
    replace q2_1 := (hb9.cell (p := ⟨w.heap.size + 1 + 1, 1, none⟩) z2).trans q2_1
    replace q2_2 := (hb9.cell (p := ⟨w.heap.size + 1 + 1, 2, none⟩) z2).trans q2_2
    replace q2_3 := (hb9.cell (p := ⟨w.heap.size + 1 + 1, 3, none⟩) z2).trans q2_3
    replace q2_4 := (hb9.cell (p := ⟨w.heap.size + 1 + 1, 4, none⟩) z2).trans q2_4
    replace q2_5 := (hb9.cell (p := ⟨w.heap.size + 1 + 1, 5, none⟩) z2).trans q2_5
    replace q2_6 := (hb9.cell (p := ⟨w.heap.size + 1 + 1, 6, none⟩) z2).trans q2_6
    replace q2_7 := (hb9.cell (p := ⟨w.heap.size + 1 + 1, 7, none⟩) z2).trans q2_7
    replace z0 := Nat.lt_of_lt_of_le z0 hb9.size
    replace z1 := Nat.lt_of_lt_of_le z1 hb9.size
    replace z2 := Nat.lt_of_lt_of_le z2 hb9.size
    clear hb9 hc9 hf9
    go_wp2_with fail
    go_at_call 59
    refine (HC.out _ HW1).mono ?_
    rintro e w2 ⟨⟨v2, rfl, A2, c2, rfl, h2⟩, hb2⟩
    have hM2 : MadeV _ w2 A2 c2 (srt l) := h2
    replace f2 := fun o => (hb2.frozen (p := ⟨w.heap.size + 1 + 1, o, none⟩) z2).trans (f2 o)
    have HB := HW1.trans (hb2.mono HW1.size)
    replace q0_0 := (hb2.cell (p := ⟨w.heap.size, 0, none⟩) z0).trans q0_0
    replace q0_1 := (hb2.cell (p := ⟨w.heap.size, 1, none⟩) z0).trans q0_1
    replace q0_2 := (hb2.cell (p := ⟨w.heap.size, 2, none⟩) z0).trans q0_2
    replace q0_3 := (hb2.cell (p := ⟨w.heap.size, 3, none⟩) z0).trans q0_3
    replace q0_4 := (hb2.cell (p := ⟨w.heap.size, 4, none⟩) z0).trans q0_4
    replace q0_5 := (hb2.cell (p := ⟨w.heap.size, 5, none⟩) z0).trans q0_5
    replace q1_0 := (hb2.cell (p := ⟨w.heap.size + 1, 0, none⟩) z1).trans q1_0
    replace q1_1 := (hb2.cell (p := ⟨w.heap.size + 1, 1, none⟩) z1).trans q1_1
    replace q2_0 := (hb2.cell (p := ⟨w.heap.size + 1 + 1, 0, none⟩) z2).trans q2_0
    replace q2_1 := (hb2.cell (p := ⟨w.heap.size + 1 + 1, 1, none⟩) z2).trans q2_1
    replace q2_2 := (hb2.cell (p := ⟨w.heap.size + 1 + 1, 2, none⟩) z2).trans q2_2
    replace q2_3 := (hb2.cell (p := ⟨w.heap.size + 1 + 1, 3, none⟩) z2).trans q2_3
    replace q2_4 := (hb2.cell (p := ⟨w.heap.size + 1 + 1, 4, none⟩) z2).trans q2_4
    replace q2_5 := (hb2.cell (p := ⟨w.heap.size + 1 + 1, 5, none⟩) z2).trans q2_5
    replace q2_6 := (hb2.cell (p := ⟨w.heap.size + 1 + 1, 6, none⟩) z2).trans q2_6
    replace q2_7 := (hb2.cell (p := ⟨w.heap.size + 1 + 1, 7, none⟩) z2).trans q2_7
    replace z0 := Nat.lt_of_lt_of_le z0 hb2.size
    replace z1 := Nat.lt_of_lt_of_le z1 hb2.size
    replace z2 := Nat.lt_of_lt_of_le z2 hb2.size
    clear hb2 h2
    go_wp2
    refine bodyPost_ret (by simp [results, Tryz.results24, go_sem, *] <;> rfl) rfl ⟨⟨A2, c2, rfl, (by (refine MadeV.base (b := w.heap.size + 3) ?_ (by omega)); (repeat refine MadeV.setCell ?_ (by first | omega | (simp; omega)) _); first | exact hM2 | exact hM2.base (by omega))⟩, (by repeat (first | (with_reducible assumption) | (with_reducible exact Below.refl _ _) | (with_reducible refine Below.alloc ?_ (by first | omega | (simp; omega) | (simp; done) | (dsimp only; omega)) _) | (with_reducible refine Below.setCell ?_ (by first | omega | (simp; omega) | (simp; done) | (dsimp only; omega)) _) | (with_reducible refine Below.drew ?_) | (with_reducible refine Below.trans ?_ (Below.mono (by assumption) (by first | omega | (simp; omega) | (simp; done) | (dsimp only; omega))))))⟩
end Go.Proofs.YtdpnphnafidpiaaGreat
