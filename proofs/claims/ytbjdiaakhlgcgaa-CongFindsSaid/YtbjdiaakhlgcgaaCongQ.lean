/- What is in both congruences. Layer 5. -/
import Derived.Test.YtbjdiaakhlgcgaaCongP
namespace Go.Proofs.Ytbjdiaakhlgcgaa
open Go.RowKit

theorem Cg.has_std {c : Cg} (h : c.std) (n : Int) : c.has n = (c.s && (if c.m = 0 then n == c.r else n % c.m == c.r)) := by
  unfold Cg.has
  rw [Cg.std_clean h]
  unfold Cg.hasC
  by_cases h0 : c.m = 0
  · rw [if_pos h0, if_pos h0]
  · rw [if_neg h0, if_neg h0, modI_pos (by have := h.2.1; omega)]
theorem Cg.has_iff {c : Cg} (h : c.std) (n : Int) : c.has n = true ↔ c.s = true ∧ ((c.m = 0 ∧ n = c.r) ∨ (0 < c.m ∧ n % c.m = c.r)) := by
  rw [Cg.has_std h, Bool.and_eq_true]
  have h1 := h.2.1
  by_cases h0 : c.m = 0
  · rw [if_pos h0, beq_iff_eq]
    exact ⟨fun ⟨a, b⟩ => ⟨a, Or.inl ⟨h0, b⟩⟩, fun ⟨a, b⟩ => ⟨a, by rcases b with ⟨_, b⟩ | ⟨b, _⟩; exact b; omega⟩⟩
  · rw [if_neg h0, beq_iff_eq]
    exact ⟨fun ⟨a, b⟩ => ⟨a, Or.inr ⟨by omega, b⟩⟩, fun ⟨a, b⟩ => ⟨a, by rcases b with ⟨b, _⟩ | ⟨_, b⟩; omega; exact b⟩⟩
theorem Cg.has_none {c : Cg} (h : c.std) (hs : c.s = false) (n : Int) : c.has n = false := by rw [Cg.has_std h, hs]; rfl
/-- What an int leaves of a divisor of M is what R leaves. -/
theorem Cg.has_mod_dvd {c : Cg} (h : c.std) {n g : Int} (hn : c.has n = true) (hg : g ∣ c.m) : n % g = c.r % g := by
  obtain ⟨_, h2⟩ := (Cg.has_iff h n).1 hn
  rcases h2 with ⟨_, e⟩ | ⟨h1, e⟩
  · rw [e]
  · have hd : c.m ∣ n - c.r := by
      have h3 := h.2.2.2 h1
      have e2 : c.r % c.m = c.r := Int.emod_eq_of_lt h3.1 h3.2
      exact Int.dvd_of_emod_eq_zero (Int.emod_eq_emod_iff_emod_sub_eq_zero.1 (e.trans e2.symm))
    exact Int.emod_eq_emod_iff_emod_sub_eq_zero.2 (Int.emod_eq_zero_of_dvd (Int.dvd_trans hg hd))
theorem Cg.has_agrees {x y : Cg} (hx : x.std) (hy : y.std) {n : Int} (h1 : x.has n = true) (h2 : y.has n = true) : x.agrees y = true := by
  unfold Cg.agrees
  rw [beq_iff_eq]
  have g0 := gcdI_nonneg x.m y.m
  have d1 := gcdI_dvd_l y.m hx.2.1
  have d2 := gcdI_dvd_r x.m hy.2.1
  by_cases hg : gcdI x.m y.m = 0
  · obtain ⟨z1, z2⟩ := gcdI_zero hx.2.1 hy.2.1 hg
    rw [hg, modI_zero, modI_zero]
    obtain ⟨_, e1⟩ := (Cg.has_iff hx n).1 h1
    obtain ⟨_, e2⟩ := (Cg.has_iff hy n).1 h2
    omega
  · rw [modI_pos (by omega), modI_pos (by omega), ← Cg.has_mod_dvd hx h1 d1, ← Cg.has_mod_dvd hy h2 d2]
/-- Below: all ints of it. -/
theorem Cg.has_mono {a b : Cg} (ha : a.std) (hb : b.std) (h : a.leq b = true) {n : Int} (hn : a.has n = true) : b.has n = true := by
  obtain ⟨has1, h2⟩ := (Cg.has_iff ha n).1 hn
  have hl : Cg.leqC a b = true := by unfold Cg.leq at h; rwa [Cg.std_clean ha, Cg.std_clean hb] at h
  unfold Cg.leqC at hl
  rw [has1] at hl
  simp only [Bool.not_true, Bool.false_or, Bool.and_eq_true] at hl
  obtain ⟨bs, hl⟩ := hl
  by_cases h0 : b.m = 0
  · rw [if_pos h0] at hl
    simp only [Bool.and_eq_true, beq_iff_eq] at hl
    exact (Cg.has_iff hb n).2 ⟨bs, Or.inl ⟨h0, by omega⟩⟩
  · rw [if_neg h0] at hl
    simp only [Bool.and_eq_true, beq_iff_eq] at hl
    have hd := Int.dvd_of_tmod_eq_zero hl.1
    have hbm : 0 < b.m := by have := hb.2.1; omega
    obtain ⟨_, e⟩ := (Cg.has_iff hb a.r).1 hl.2
    refine (Cg.has_iff hb n).2 ⟨bs, Or.inr ⟨hbm, ?_⟩⟩
    rw [Cg.has_mod_dvd ha hn hd]
    omega
theorem Cg.leq_zero (b : Cg) : Cg.zero.leq b = true := Cg.leq_none b rfl
theorem Cg.zero_has (n : Int) : Cg.zero.has n = false := Cg.has_none Cg.zero_std rfl n

/-- One that is a single int, and agrees. -/
theorem Cg.one_leq {x y : Cg} (hx : x.std) (hy : y.std) (hxs : x.s = true) (hys : y.s = true) (h0 : x.m = 0) (ha : x.agrees y = true) : x.leq y = true := by
  unfold Cg.agrees at ha
  rw [beq_iff_eq, h0] at ha
  have e : gcdI 0 y.m = y.m := by unfold gcdI; rw [show (0 : Int).toNat = 0 from rfl, Nat.gcd_zero_left]; have := hy.2.1; omega
  rw [e] at ha
  by_cases h1 : y.m = 0
  · rw [h1, modI_zero, modI_zero] at ha
    rw [Cg.ext' (hxs.trans hys.symm) (h0.trans h1.symm) ha]
    exact Cg.leq_self hy
  · have hp : 0 < y.m := by have := hy.2.1; omega
    rw [modI_pos hp, modI_pos hp] at ha
    have h3 := hy.2.2.2 hp
    exact Cg.leq_std hy hp hys hx (by rw [h0]; exact Int.dvd_zero _) (ha.trans (Int.emod_eq_of_lt h3.1 h3.2))
theorem Cg.agrees_comm (x y : Cg) : x.agrees y = y.agrees x := by
  unfold Cg.agrees
  rw [gcdI_comm x.m y.m, Bool.eq_iff_iff, beq_iff_eq, beq_iff_eq]
  exact ⟨Eq.symm, Eq.symm⟩

theorem meetC_spec {x y : Cg} (hx : x.std) (hy : y.std) :
    (x.meetC y).std ∧ (∀ n, x.has n = true → y.has n = true → (x.meetC y).has n = true) ∧ ((x.meetC y).leq x = true ∨ (x.meetC y).leq y = true) ∧
    ((0 < x.m ∧ 0 < y.m ∧ 9223372036854775807 < lcmI x.m y.m) → (x.meetC y = x ∨ x.meetC y = y ∨ (x.meetC y).s = false)) ∧
    (¬ (0 < x.m ∧ 0 < y.m ∧ 9223372036854775807 < lcmI x.m y.m) → (x.meetC y).leq x = true ∧ (x.meetC y).leq y = true ∧ ∀ n, (x.meetC y).has n = (x.has n && y.has n)) := by
  have nil : x.meetC y = Cg.zero → (∀ n, ¬ (x.has n = true ∧ y.has n = true)) →
      (x.meetC y).std ∧ (∀ n, x.has n = true → y.has n = true → (x.meetC y).has n = true) ∧ ((x.meetC y).leq x = true ∨ (x.meetC y).leq y = true) ∧
      ((0 < x.m ∧ 0 < y.m ∧ 9223372036854775807 < lcmI x.m y.m) → (x.meetC y = x ∨ x.meetC y = y ∨ (x.meetC y).s = false)) ∧
      (¬ (0 < x.m ∧ 0 < y.m ∧ 9223372036854775807 < lcmI x.m y.m) → (x.meetC y).leq x = true ∧ (x.meetC y).leq y = true ∧ ∀ n, (x.meetC y).has n = (x.has n && y.has n)) := by
    intro e hn
    rw [e]
    refine ⟨Cg.zero_std, fun n h1 h2 => absurd ⟨h1, h2⟩ (hn n), Or.inl (Cg.leq_zero x), fun _ => Or.inr (Or.inr rfl), fun _ => ⟨Cg.leq_zero x, Cg.leq_zero y, fun n => ?_⟩⟩
    rw [Cg.zero_has]
    cases h1 : x.has n
    · rfl
    · cases h2 : y.has n
      · rfl
      · exact absurd ⟨h1, h2⟩ (hn n)
  cases hxs : x.s
  · exact nil (if_pos hxs) (fun n h => by rw [Cg.has_none hx hxs] at h; exact absurd h.1 (by decide))
  cases hys : y.s
  · exact nil ((if_neg (by rw [hxs]; decide)).trans (if_pos hys)) (fun n h => by rw [Cg.has_none hy hys] at h; exact absurd h.2 (by decide))
  have e0 : x.meetC y = _ := (if_neg (by rw [hxs]; decide)).trans (if_neg (by rw [hys]; decide))
  cases hag : x.agrees y
  · exact nil (e0.trans (if_pos hag)) (fun n h => by rw [Cg.has_agrees hx hy h.1 h.2] at hag; exact absurd hag (by decide))
  have e1 := e0.trans (if_neg (by rw [hag]; decide))
  by_cases hx0 : x.m = 0
  · have e2 := e1.trans (if_pos hx0)
    have hl := Cg.one_leq hx hy hxs hys hx0 hag
    rw [e2]
    refine ⟨hx, fun n h1 _ => h1, Or.inl (Cg.leq_self hx), fun h => by omega, fun _ => ⟨Cg.leq_self hx, hl, fun n => ?_⟩⟩
    cases h1 : x.has n
    · rfl
    · rw [Cg.has_mono hx hy hl h1]; rfl
  have e2 := e1.trans (if_neg hx0)
  by_cases hy0 : y.m = 0
  · have e3 := e2.trans (if_pos hy0)
    have hl := Cg.one_leq hy hx hys hxs hy0 (by rw [← Cg.agrees_comm]; exact hag)
    rw [e3]
    refine ⟨hy, fun n _ h2 => h2, Or.inr (Cg.leq_self hy), fun h => by omega, fun _ => ⟨hl, Cg.leq_self hy, fun n => ?_⟩⟩
    cases h1 : y.has n
    · rw [Bool.and_false]
    · rw [Cg.has_mono hy hx hl h1]; rfl
  have e3 := e2.trans (if_neg hy0)
  have h1 : 0 < x.m := by have := hx.2.1; omega
  have h2 : 0 < y.m := by have := hy.2.1; omega
  by_cases hl : lcmI x.m y.m ≤ 9223372036854775807
  · have e4 := e3.trans (if_pos hl)
    obtain ⟨c, ec, _, _, c0, c1, l0, dx, dy, mx, my, mn⟩ := crt hx hy h1 h2 hag
    rw [← ec, Cg.of_pos c l0, Int.emod_eq_of_lt c0 c1] at e4
    rw [e4]
    have st : (Cg.mk true (lcmI x.m y.m) c).std := ⟨⟨by unfold I64; dsimp only; omega, by unfold I64; dsimp only; omega⟩, by dsimp only; omega, fun h => (by cases h), fun _ => ⟨c0, c1⟩⟩
    have lx := Cg.leq_std hx h1 hxs st dx mx
    have ly := Cg.leq_std hy h2 hys st dy my
    have hn : ∀ n, (Cg.mk true (lcmI x.m y.m) c).has n = (x.has n && y.has n) := fun n => by
      rw [Bool.eq_iff_iff, Bool.and_eq_true, Cg.has_iff st, Cg.has_iff hx, Cg.has_iff hy]
      have h3 := mn n
      dsimp only
      constructor
      · rintro ⟨_, h | ⟨_, h⟩⟩
        · omega
        · obtain ⟨g1, g2⟩ := h3.1 h
          exact ⟨⟨hxs, Or.inr ⟨h1, g1⟩⟩, ⟨hys, Or.inr ⟨h2, g2⟩⟩⟩
      · rintro ⟨⟨_, g1⟩, ⟨_, g2⟩⟩
        exact ⟨rfl, Or.inr ⟨l0, h3.2 ⟨by omega, by omega⟩⟩⟩
    exact ⟨st, fun n a b => by rw [hn, a, b]; rfl, Or.inl lx, fun h => by omega, fun _ => ⟨lx, ly, hn⟩⟩
  · have e4 := e3.trans (if_neg hl)
    by_cases hlt : x.m < y.m
    · rw [e4.trans (if_pos hlt)]
      exact ⟨hy, fun n _ b => b, Or.inr (Cg.leq_self hy), fun _ => Or.inr (Or.inl rfl), fun h => absurd ⟨h1, h2, by omega⟩ h⟩
    · rw [e4.trans (if_neg hlt)]
      exact ⟨hx, fun n a _ => a, Or.inl (Cg.leq_self hx), fun _ => Or.inl rfl, fun h => absurd ⟨h1, h2, by omega⟩ h⟩
end Go.Proofs.Ytbjdiaakhlgcgaa
