/- The least and the greatest int of a span that a congruence has (pure). Layer 8. -/
import Derived.Test.YtdpnphnafidpiaaValA
namespace Go.Proofs.Ytdpnphnafidpiaa
open Go.RowKit

theorem dvd_gt {m d : Int} (_hm : 0 < m) (h : m ∣ d) (h' : -m < d) : 0 ≤ d := by
  apply Classical.byContradiction
  intro hc
  have h1 : m ≤ -d := Int.le_of_dvd (by omega) (Int.dvd_neg.2 h)
  omega
def upI (lo m r : Int) : Int := (r - lo) % m
def dnI (hi m r : Int) : Int := (hi - r) % m
theorem dvd_up (lo m r : Int) : m ∣ lo + upI lo m r - r := by
  have h : m ∣ (r - lo) - (r - lo) % m := Int.dvd_self_sub_emod
  have := Int.dvd_neg.2 h
  rwa [show -((r - lo) - (r - lo) % m) = lo + upI lo m r - r by unfold upI; omega] at this
theorem dvd_dn (hi m r : Int) : m ∣ hi - dnI hi m r - r := by
  have h : m ∣ (hi - r) - (hi - r) % m := Int.dvd_self_sub_emod
  rwa [show (hi - r) - (hi - r) % m = hi - dnI hi m r - r by unfold dnI; omega] at h
theorem mod_dvd {n m r : Int} (h0 : 0 ≤ r) (h1 : r < m) : n % m = r ↔ m ∣ n - r := by
  constructor
  · intro h; rw [← h]; exact Int.dvd_self_sub_emod
  · intro h
    have := Int.emod_eq_emod_iff_emod_sub_eq_zero.2 (Int.emod_eq_zero_of_dvd h)
    rw [this]; exact Int.emod_eq_of_lt h0 h1
theorem up_spec {lo m r : Int} (h0 : 0 ≤ r) (h1 : r < m) : 0 ≤ upI lo m r ∧ upI lo m r < m ∧ (lo + upI lo m r) % m = r ∧ ∀ n, lo ≤ n → n % m = r → lo + upI lo m r ≤ n := by
  have a1 := Int.emod_nonneg (r - lo) (show m ≠ 0 by omega)
  have a2 := Int.emod_lt_of_pos (r - lo) (show 0 < m by omega)
  refine ⟨a1, a2, (mod_dvd h0 h1).2 (dvd_up lo m r), fun n hn he => ?_⟩
  have d := Int.dvd_sub ((mod_dvd h0 h1).1 he) (dvd_up lo m r)
  have := dvd_gt (by omega) d (by unfold upI at *; omega)
  omega
theorem dn_spec {hi m r : Int} (h0 : 0 ≤ r) (h1 : r < m) : 0 ≤ dnI hi m r ∧ dnI hi m r < m ∧ (hi - dnI hi m r) % m = r ∧ ∀ n, n ≤ hi → n % m = r → n ≤ hi - dnI hi m r := by
  have a1 := Int.emod_nonneg (hi - r) (show m ≠ 0 by omega)
  have a2 := Int.emod_lt_of_pos (hi - r) (show 0 < m by omega)
  refine ⟨a1, a2, (mod_dvd h0 h1).2 (dvd_dn hi m r), fun n hn he => ?_⟩
  have d := Int.dvd_sub (dvd_dn hi m r) ((mod_dvd h0 h1).1 he)
  have := dvd_gt (by omega) d (by unfold dnI at *; omega)
  omega
theorem up_mod {lo m r : Int} (h : 0 < m) : modI (r - modI lo m) m = upI lo m r := by
  rw [modI_pos h, modI_pos h]
  unfold upI
  refine Int.emod_eq_emod_iff_emod_sub_eq_zero.2 ?_
  rw [show r - lo % m - (r - lo) = lo - lo % m by omega]
  exact Int.emod_eq_zero_of_dvd Int.dvd_self_sub_emod
theorem dn_mod {hi m r : Int} (h : 0 < m) : modI (modI hi m - r) m = dnI hi m r := by
  rw [modI_pos h, modI_pos h]
  unfold dnI
  refine Int.emod_eq_emod_iff_emod_sub_eq_zero.2 ?_
  rw [show hi % m - r - (hi - r) = -(hi - hi % m) by omega]
  exact Int.emod_eq_zero_of_dvd (Int.dvd_neg.2 Int.dvd_self_sub_emod)

/-- What value.tight returns of a clean span and a clean congruence. -/
def tightI (s : Sp) (c : Cg) : Sp :=
  if c.m = 0 then s.meet (Sp.of c.r c.r) else if s.hi - s.lo < upI s.lo c.m c.r then Sp.zero else Sp.of (s.lo + upI s.lo c.m c.r) (s.hi - dnI s.hi c.m c.r)
def oneC (t : Sp) (c : Cg) : Cg := if t.lo = t.hi then Cg.of 0 t.lo else c
/-- What value.Reduce makes of clean ints. -/
def In.redC (x : In) : In := In.clean ⟨tightI x.s x.c, oneC (tightI x.s x.c) x.c⟩
def In.red (i : In) : In := In.redC i.clean
/-- The document's own way. -/
def In.redR (x : In) : In :=
  if x.s.s = false then In.zero else if x.c.m = 0 then (if x.s.has x.c.r = true then ⟨Sp.of x.c.r x.c.r, ⟨true, 0, x.c.r⟩⟩ else In.zero) else
    if (!isI (x.s.lo + upI x.s.lo x.c.m x.c.r) || !isI (x.s.hi - dnI x.s.hi x.c.m x.c.r) || decide (x.s.hi - dnI x.s.hi x.c.m x.c.r < x.s.lo + upI x.s.lo x.c.m x.c.r)) = true then In.zero else
      ⟨Sp.of (x.s.lo + upI x.s.lo x.c.m x.c.r) (x.s.hi - dnI x.s.hi x.c.m x.c.r),
        if x.s.lo + upI x.s.lo x.c.m x.c.r = x.s.hi - dnI x.s.hi x.c.m x.c.r then ⟨true, 0, x.s.lo + upI x.s.lo x.c.m x.c.r⟩ else x.c⟩

theorem meet_one {s : Sp} {r : Int} (hs : s.none = false) : s.meet (Sp.of r r) = if s.has r = true then ⟨true, r, r⟩ else Sp.zero := by
  have h1 : (Sp.of r r).none = false := by rw [Sp.of_f (by omega)]; exact Sp.none_f (by omega)
  rw [Sp.meet_00 hs h1, Sp.of_f (show ¬ r < r by omega)]
  dsimp only
  have hs' := (Sp.none_iff s).1 hs
  by_cases h : s.has r = true
  · rw [if_pos h]
    unfold Sp.has at h
    simp at h
    rw [show max s.lo r = r by omega, show min s.hi r = r by omega]
    exact Sp.of_f (by omega)
  · rw [if_neg h]
    refine Sp.of_t ?_
    unfold Sp.has at h
    rw [hs'.1] at h
    simp at h
    omega
/-- The cases of reducing clean ints. -/
theorem In.red_cases {x : In} (hx : x.std) :
    (x = In.zero ∧ x.redC = In.zero) ∨
    (x.s.none = false ∧ x.c.s = true ∧ x.c.m = 0 ∧ x.s.has x.c.r = true ∧ x.redC = ⟨⟨true, x.c.r, x.c.r⟩, ⟨true, 0, x.c.r⟩⟩) ∨
    (x.s.none = false ∧ x.c.s = true ∧ x.c.m = 0 ∧ x.s.has x.c.r = false ∧ x.redC = In.zero) ∨
    (x.s.none = false ∧ x.c.s = true ∧ 0 < x.c.m ∧ x.s.hi < x.s.lo + upI x.s.lo x.c.m x.c.r ∧ x.redC = In.zero) ∨
    (x.s.none = false ∧ x.c.s = true ∧ 0 < x.c.m ∧ ∃ a b : Int, a = x.s.lo + upI x.s.lo x.c.m x.c.r ∧ b = x.s.hi - dnI x.s.hi x.c.m x.c.r ∧ x.s.lo ≤ a ∧ a ≤ b ∧ b ≤ x.s.hi ∧ a % x.c.m = x.c.r ∧ b % x.c.m = x.c.r ∧
      (∀ n, x.s.lo ≤ n → n ≤ x.s.hi → n % x.c.m = x.c.r → a ≤ n ∧ n ≤ b) ∧ x.redC = ⟨⟨true, a, b⟩, if a = b then ⟨true, 0, a⟩ else x.c⟩) := by
  rcases hx.2.2 with ⟨e1, e2⟩ | ⟨e1, e2⟩
  · have e : x = In.zero := In.ext' e1 e2
    left; subst e; exact ⟨rfl, rfl⟩
  · right
    have hlh := ((Sp.none_iff _).1 e1).2
    have hc := hx.2.1
    by_cases h0 : x.c.m = 0
    · cases hh : x.s.has x.c.r
      · right; left
        refine ⟨e1, e2, h0, rfl, ?_⟩
        unfold In.redC tightI
        rw [if_pos h0, meet_one e1, hh]
        exact In.clean_t rfl
      · left
        refine ⟨e1, e2, h0, rfl, ?_⟩
        unfold In.redC tightI
        rw [if_pos h0, meet_one e1, hh]
        simp only [if_true, oneC]
        rw [In.clean_f (by unfold In.none Sp.none; rw [Cg.of_nil]; simp), Cg.of_nil]
        exact In.ext' rfl (by rw [Cg.clean_pos rfl (show ¬ (0 : Int) < 0 by omega)]; dsimp only; rw [modI_zero])
    · right; right
      have hm : 0 < x.c.m := by have := hc.2.1; omega
      obtain ⟨r0, r1⟩ := hc.2.2.2 hm
      obtain ⟨u0, u1, u2, u3⟩ := up_spec (lo := x.s.lo) r0 r1
      obtain ⟨d0, d1, d2, d3⟩ := dn_spec (hi := x.s.hi) r0 r1
      unfold In.redC tightI
      rw [if_neg h0]
      generalize upI x.s.lo x.c.m x.c.r = up at *
      generalize dnI x.s.hi x.c.m x.c.r = dn at *
      by_cases h1 : x.s.hi - x.s.lo < up
      · left
        refine ⟨e1, e2, hm, by omega, ?_⟩
        rw [if_pos h1]
        exact In.clean_t rfl
      · right
        have hab := d3 (x.s.lo + up) (by omega) u2
        refine ⟨e1, e2, hm, x.s.lo + up, x.s.hi - dn, rfl, rfl, by omega, hab, by omega, u2, d2, fun n h2 h3 h4 => ⟨u3 n h2 h4, d3 n h3 h4⟩, ?_⟩
        rw [if_neg h1, Sp.of_f (by omega)]
        unfold oneC
        dsimp only
        have hn : (Sp.mk true (x.s.lo + up) (x.s.hi - dn)).none = false := Sp.none_f (by omega)
        by_cases h2 : x.s.lo + up = x.s.hi - dn
        · rw [if_pos h2, if_pos h2, In.clean_f (by unfold In.none; dsimp only; rw [hn, Cg.of_nil]; rfl), Cg.of_nil]
          exact In.ext' rfl (by rw [Cg.clean_pos rfl (show ¬ (0 : Int) < 0 by omega)]; dsimp only; rw [modI_zero])
        · rw [if_neg h2, if_neg h2, In.clean_f (by unfold In.none; dsimp only; rw [hn, e2]; rfl)]
          exact In.ext' rfl (Cg.std_clean hc)
theorem In.red_std {x : In} (hx : x.std) : x.redC.std := by
  rcases In.red_cases hx with ⟨_, e⟩ | ⟨h1, h2, h3, h4, e⟩ | ⟨_, _, _, _, e⟩ | ⟨_, _, _, _, e⟩ | ⟨h1, h2, h3, a, b, _, _, g1, g2, g3, g4, g5, _, e⟩
  · rw [e]; exact In.zero_std
  · rw [e]
    have hr := hx.2.1.1.2
    exact ⟨⟨hr, hr⟩, ⟨⟨I64_0, hr⟩, Int.le_refl 0, fun h => (by cases h), fun h => absurd h (by first | omega | (dsimp only; omega))⟩, Or.inr ⟨Sp.none_f (by omega), rfl⟩⟩
  · rw [e]; exact In.zero_std
  · rw [e]; exact In.zero_std
  · rw [e]
    have hlo := hx.1.1; have hhi := hx.1.2
    have ha : I64 a := by unfold I64 at *; omega
    have hb : I64 b := by unfold I64 at *; omega
    refine ⟨⟨ha, hb⟩, ?_, Or.inr ⟨Sp.none_f (by omega), ?_⟩⟩
    · dsimp only; split
      · exact ⟨⟨I64_0, ha⟩, Int.le_refl 0, fun h => (by cases h), fun h => absurd h (by first | omega | (dsimp only; omega))⟩
      · exact hx.2.1
    · dsimp only; split
      · rfl
      · exact h2
theorem Sp.has_mk (lo hi n : Int) : (Sp.mk true lo hi).has n = (decide (lo ≤ n) && decide (n ≤ hi)) := by unfold Sp.has; rfl
theorem Cg.one_has (r n : Int) (hr : I64 r) : (Cg.mk true 0 r).has n = (n == r) := by
  rw [Cg.has_std ⟨⟨I64_0, hr⟩, Int.le_refl 0, fun h => (by cases h), fun h => absurd h (by first | omega | (dsimp only; omega))⟩]
  simp
theorem In.zero_has (n : Int) : In.zero.has n = false := by
  unfold In.has; rw [show In.zero.s.has n = false from Sp.none_has rfl n]; rfl
theorem In.red_has {x : In} (hx : x.std) (n : Int) : x.redC.has n = x.has n := by
  rcases In.red_cases hx with ⟨e0, e⟩ | ⟨h1, h2, h3, h4, e⟩ | ⟨h1, h2, h3, h4, e⟩ | ⟨h1, h2, h3, h4, e⟩ | ⟨h1, h2, h3, a, b, ea, eb, g1, g2, g3, g4, g5, g6, e⟩
  · rw [e, e0]
  · rw [e]
    unfold In.has
    dsimp only
    rw [Sp.has_mk, Cg.one_has _ _ hx.2.1.1.2, Cg.has_std hx.2.1, h2, if_pos h3]
    by_cases hn : n = x.c.r
    · subst hn; rw [h4]; simp
    · have : (n == x.c.r) = false := by simpa using hn
      rw [this]; simp
  · rw [e, In.zero_has]
    unfold In.has
    rw [Cg.has_std hx.2.1, h2, if_pos h3]
    by_cases hn : n = x.c.r
    · subst hn; rw [h4]; rfl
    · have : (n == x.c.r) = false := by simpa using hn
      rw [this]; simp
  · rw [e, In.zero_has]
    obtain ⟨r0, r1⟩ := hx.2.1.2.2.2 h3
    obtain ⟨_, _, _, u3⟩ := up_spec (lo := x.s.lo) r0 r1
    cases hh : x.has n
    · rfl
    · unfold In.has at hh
      rw [Bool.and_eq_true, Cg.has_iff hx.2.1] at hh
      obtain ⟨hs, _, hc⟩ := hh
      unfold Sp.has at hs
      simp at hs
      rcases hc with ⟨hc, _⟩ | ⟨_, hc⟩
      · omega
      · have := u3 n hs.1.2 hc; omega
  · rw [e]
    have hs := (Sp.none_iff _).1 h1
    have hc : x.c.has n = (n % x.c.m == x.c.r) := by rw [Cg.has_std hx.2.1, h2, if_neg (by omega)]; rfl
    have hsn : x.s.has n = (decide (x.s.lo ≤ n) && decide (n ≤ x.s.hi)) := by unfold Sp.has; rw [hs.1]; rfl
    unfold In.has
    dsimp only
    rw [Sp.has_mk, hc, hsn]
    have hab : I64 a := by have := hx.1.1; have := hx.1.2; unfold I64 at *; omega
    rw [Bool.eq_iff_iff]
    simp only [Bool.and_eq_true, decide_eq_true_eq, beq_iff_eq]
    split
    · next h => 
      rw [Cg.one_has _ _ hab, beq_iff_eq]
      constructor
      · rintro ⟨⟨q1, q2⟩, q3⟩; subst q3; exact ⟨⟨by omega, by omega⟩, g4⟩
      · rintro ⟨⟨q1, q2⟩, q3⟩; have := g6 n q1 q2 q3; exact ⟨this, by omega⟩
    · rw [hc, beq_iff_eq]
      constructor
      · rintro ⟨⟨q1, q2⟩, q3⟩; exact ⟨⟨by omega, by omega⟩, q3⟩
      · rintro ⟨⟨q1, q2⟩, q3⟩; exact ⟨g6 n q1 q2 q3, q3⟩
theorem In.red_leq {x : In} (hx : x.std) : x.redC.s.leq x.s = true ∧ x.redC.c.leq x.c = true := by
  rcases In.red_cases hx with ⟨e0, e⟩ | ⟨h1, h2, h3, h4, e⟩ | ⟨h1, h2, h3, h4, e⟩ | ⟨h1, h2, h3, h4, e⟩ | ⟨h1, h2, h3, a, b, ea, eb, g1, g2, g3, g4, g5, g6, e⟩
  · rw [e]; exact ⟨Sp.leq_zero _, Cg.leq_zero _⟩
  · rw [e]
    have ec : Cg.mk true 0 x.c.r = x.c := Cg.ext' h2.symm h3.symm rfl
    dsimp only
    rw [ec]
    refine ⟨?_, Cg.leq_self hx.2.1⟩
    unfold Sp.leq
    dsimp only
    rw [h4]; simp
  · rw [e]; exact ⟨Sp.leq_zero _, Cg.leq_zero _⟩
  · rw [e]; exact ⟨Sp.leq_zero _, Cg.leq_zero _⟩
  · rw [e]
    dsimp only
    refine ⟨(Sp.leq_iff _ _).2 (Or.inr ⟨h1, g1, g3⟩), ?_⟩
    have hab : I64 a := by have := hx.1.1; have := hx.1.2; unfold I64 at *; omega
    split
    · exact Cg.leq_std hx.2.1 h3 h2 ⟨⟨I64_0, hab⟩, Int.le_refl 0, fun h => (by cases h), fun h => absurd h (by first | omega | (dsimp only; omega))⟩ (Int.dvd_zero _) g4
    · exact Cg.leq_self hx.2.1
theorem In.redR_eq {x : In} (hx : x.std) : x.redR = x.redC := by
  rcases In.red_cases hx with ⟨e0, e⟩ | ⟨h1, h2, h3, h4, e⟩ | ⟨h1, h2, h3, h4, e⟩ | ⟨h1, h2, h3, h4, e⟩ | ⟨h1, h2, h3, a, b, ea, eb, g1, g2, g3, g4, g5, g6, e⟩
  · rw [e, e0]; rfl
  · have hs := (Sp.none_iff _).1 h1
    rw [e]; unfold In.redR
    rw [if_neg (by rw [hs.1]; decide), if_pos h3, if_pos h4, Sp.of_f (by omega)]
  · have hs := (Sp.none_iff _).1 h1
    rw [e]; unfold In.redR
    rw [if_neg (by rw [hs.1]; decide), if_pos h3, if_neg (by rw [h4]; decide)]
  · have hs := (Sp.none_iff _).1 h1
    obtain ⟨r0, r1⟩ := hx.2.1.2.2.2 h3
    obtain ⟨d0, _, _, _⟩ := dn_spec (hi := x.s.hi) r0 r1
    rw [e]; unfold In.redR
    rw [if_neg (by rw [hs.1]; decide), if_neg (by omega), if_pos]
    rw [Bool.or_eq_true, decide_eq_true_eq]
    right; omega
  · have hs := (Sp.none_iff _).1 h1
    have hlo := hx.1.1; have hhi := hx.1.2
    rw [e]; unfold In.redR
    rw [if_neg (by rw [hs.1]; decide), if_neg (by omega), ← ea, ← eb, if_neg, Sp.of_f (by omega)]
    rw [(isI_iff a).2 (by unfold I64 at *; omega), (isI_iff b).2 (by unfold I64 at *; omega)]
    simp; omega
theorem In.red_red {x : In} (hx : x.std) : x.redC.redC = x.redC := by
  have hy := In.red_std hx
  rcases In.red_cases hx with ⟨e0, e⟩ | ⟨h1, h2, h3, h4, e⟩ | ⟨h1, h2, h3, h4, e⟩ | ⟨h1, h2, h3, h4, e⟩ | ⟨h1, h2, h3, a, b, ea, eb, g1, g2, g3, g4, g5, g6, e⟩
  · rw [e]; rfl
  · rw [e] at hy ⊢
    rcases In.red_cases hy with ⟨f0, _⟩ | ⟨f1, f2, f3, f4, f⟩ | ⟨f1, f2, f3, f4, f⟩ | ⟨f1, f2, f3, f4, f⟩ | ⟨f1, f2, f3, _⟩
    · cases f0
    · exact f
    · rw [Sp.has_mk] at f4; simp at f4
    · dsimp only at f3; omega
    · dsimp only at f3; omega
  · rw [e]; rfl
  · rw [e]; rfl
  · rw [e] at hy ⊢
    obtain ⟨r0, r1⟩ := hx.2.1.2.2.2 h3
    by_cases hab : a = b
    · subst hab
      rw [if_pos rfl] at hy ⊢
      rcases In.red_cases hy with ⟨f0, _⟩ | ⟨f1, f2, f3, f4, f⟩ | ⟨f1, f2, f3, f4, f⟩ | ⟨f1, f2, f3, f4, f⟩ | ⟨f1, f2, f3, _⟩
      · cases f0
      · exact f
      · rw [Sp.has_mk] at f4; simp at f4
      · dsimp only at f3; omega
      · dsimp only at f3; omega
    · rw [if_neg hab] at hy ⊢
      rcases In.red_cases hy with ⟨f0, _⟩ | ⟨f1, f2, f3, f4, f⟩ | ⟨f1, f2, f3, f4, f⟩ | ⟨f1, f2, f3, f4, f⟩ | ⟨f1, f2, f3, a', b', fa, fb, k1, k2, k3, k4, k5, k6, f⟩
      · cases f0
      · dsimp only at f3; omega
      · dsimp only at f3; omega
      · dsimp only at f4
        obtain ⟨_, _, _, u3⟩ := up_spec (lo := a) r0 r1
        have := u3 a (Int.le_refl _) g4; omega
      · dsimp only at k6 k1 k3 f fa fb
        have h5 := k6 a (Int.le_refl _) g2 g4
        have h6 := k6 b g2 (Int.le_refl _) g5
        have e1 : a' = a := by omega
        have e2 : b' = b := by omega
        rw [f, e1, e2, if_neg hab]
end Go.Proofs.Ytdpnphnafidpiaa
