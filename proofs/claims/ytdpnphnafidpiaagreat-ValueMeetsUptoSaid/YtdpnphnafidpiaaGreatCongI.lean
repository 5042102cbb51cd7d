/- Joining congruences: what it has, and how often it can change. Layer 5. -/
import Derived.Test.YtdpnphnafidpiaaGreatCongH
namespace Go.Proofs.YtdpnphnafidpiaaGreat
open Go.RowKit

/-- A congruence as cleaning leaves it. -/
def Cg.std (c : Cg) : Prop := c.ok ∧ 0 ≤ c.m ∧ (c.s = false → c = Cg.zero) ∧ (0 < c.m → 0 ≤ c.r ∧ c.r < c.m)
theorem Cg.ext' {a b : Cg} (h1 : a.s = b.s) (h2 : a.m = b.m) (h3 : a.r = b.r) : a = b := by
  cases a; cases b; simp only at h1 h2 h3; subst h1 h2 h3; rfl
theorem modI_pos {n m : Int} (h : 0 < m) : modI n m = n % m := if_neg (by omega)
theorem modI_zero (n : Int) : modI n 0 = n := if_pos (Int.le_refl 0)
theorem Cg.std_clean {c : Cg} (h : c.std) : c.clean = c := by
  obtain ⟨_, h1, h2, h3⟩ := h
  cases hs : c.s
  · rw [h2 hs]; rfl
  · rw [Cg.clean_pos hs (by omega)]
    refine Cg.ext' hs.symm rfl ?_
    dsimp only
    by_cases h0 : 0 < c.m
    · rw [modI_pos h0]; exact Int.emod_eq_of_lt (h3 h0).1 (h3 h0).2
    · exact if_pos (by omega)
theorem Cg.zero_std : Cg.zero.std := ⟨⟨I64_0, I64_0⟩, Int.le_refl 0, fun _ => rfl, fun h => absurd h (by decide)⟩
theorem Cg.clean_std {c : Cg} (h : c.ok) : c.clean.std := by
  have h1 := Cg.clean_ok h
  refine ⟨h1.1, h1.2, ?_⟩
  cases hs : c.s
  · rw [Cg.clean_no hs]; exact ⟨fun _ => rfl, fun h => absurd h (by decide)⟩
  · by_cases hm : c.m < 0
    · rw [Cg.clean_neg hs hm]
      refine ⟨fun h => (by cases h), fun _ => ?_⟩
      dsimp only
      rw [modI_pos (by omega)]; omega
    · rw [Cg.clean_pos hs hm]
      refine ⟨fun h => (by cases h), fun h => ?_⟩
      dsimp only at h ⊢
      rw [modI_pos h]
      exact ⟨Int.emod_nonneg _ (by omega), Int.emod_lt_of_pos _ h⟩
theorem Cg.of_std {m r : Int} (hm : I64 m) (hr : I64 r) : (Cg.of m r).std := Cg.clean_std ⟨hm, hr⟩
theorem Cg.of_pos {m : Int} (r : Int) (h : 0 < m) : Cg.of m r = ⟨true, m, r % m⟩ := by
  unfold Cg.of; rw [Cg.clean_pos rfl (by dsimp only; omega)]; dsimp only; rw [modI_pos h]
theorem Cg.of_nil (r : Int) : Cg.of 0 r = ⟨true, 0, r⟩ := by
  unfold Cg.of; rw [Cg.clean_pos rfl (by dsimp only; omega)]; dsimp only; rw [modI_zero]

theorem gcdI_comm (x y : Int) : gcdI x y = gcdI y x := by unfold gcdI; rw [Nat.gcd_comm]
theorem apI_comm (x y : Int) : apI x y = apI y x := by unfold apI; split <;> split <;> omega
theorem apI_nonneg (x y : Int) : 0 ≤ apI x y := by unfold apI; split <;> omega
theorem gcdI_dvd_l {x : Int} (y : Int) (h : 0 ≤ x) : gcdI x y ∣ x := by
  have := Int.natCast_dvd_natCast.2 (Nat.gcd_dvd_left x.toNat y.toNat)
  rwa [Int.toNat_of_nonneg h] at this
theorem gcdI_dvd_r (x : Int) {y : Int} (h : 0 ≤ y) : gcdI x y ∣ y := by rw [gcdI_comm]; exact gcdI_dvd_l x h
theorem gcdI_zero {x y : Int} (hx : 0 ≤ x) (hy : 0 ≤ y) (h : gcdI x y = 0) : x = 0 ∧ y = 0 := by
  have h1 := gcdI_dvd_l y hx
  have h2 := gcdI_dvd_r x hy
  rw [h] at h1 h2
  exact ⟨Int.zero_dvd.1 h1, Int.zero_dvd.1 h2⟩
theorem apI_dvd {k a b : Int} (h : k ∣ apI a b) : k ∣ a - b := by
  unfold apI at h
  split at h
  · exact h
  · have := Int.dvd_neg.2 h
    rwa [Int.neg_sub] at this

theorem Cg.leq_std {a b : Cg} (hb : b.std) (h0 : 0 < b.m) (hs : b.s = true) (ha : a.std) (h1 : b.m ∣ a.m) (h2 : a.r % b.m = b.r) : a.leq b = true := by
  unfold Cg.leq
  rw [Cg.std_clean ha, Cg.std_clean hb]
  unfold Cg.leqC
  rw [hs, if_neg (by omega), Int.tmod_eq_zero_of_dvd h1]
  unfold Cg.has Cg.hasC
  rw [Cg.std_clean hb, hs, if_neg (by omega), modI_pos h0, h2]
  simp
theorem Cg.leq_self {a : Cg} (ha : a.std) : a.leq a = true := by
  cases hs : a.s
  · unfold Cg.leq; rw [Cg.std_clean ha]; unfold Cg.leqC; rw [hs]; rfl
  · by_cases h0 : 0 < a.m
    · exact Cg.leq_std ha h0 hs ha (Int.dvd_refl _) (Int.emod_eq_of_lt (ha.2.2.2 h0).1 (ha.2.2.2 h0).2)
    · have : a.m = 0 := by have := ha.2.1; omega
      unfold Cg.leq; rw [Cg.std_clean ha]; unfold Cg.leqC; rw [hs, if_pos this, this]; simp
theorem Cg.leq_none {a : Cg} (b : Cg) (hs : a.s = false) : a.leq b = true := by
  unfold Cg.leq; rw [Cg.clean_no hs]; rfl
theorem Cg.leq_clean {a : Cg} (b : Cg) (h : a.ok) : a.leq b = a.clean.leq b := by
  unfold Cg.leq; rw [Cg.std_clean (Cg.clean_std h)]

/-- How often a congruence can still change by joining. -/
def Cg.rank (c : Cg) : Nat := if c.s = false then 65 else if c.m = 0 then 64 else Nat.log2 c.m.toNat
theorem Cg.rank_le {c : Cg} (hc : c.ok) : c.rank ≤ 65 := by
  unfold Cg.rank
  split
  · omega
  · split
    · omega
    · next h =>
      have h1 := hc.1; unfold I64 at h1
      by_cases h0 : c.m.toNat = 0
      · rw [h0, Nat.log2_zero]; omega
      · have := (Nat.log2_lt (n := c.m.toNat) (k := 63) h0).2 (by omega)
        omega
theorem log2_dvd {k m : Int} (hk : 0 < k) (hm : 0 < m) (h : k ∣ m) (hne : k ≠ m) : Nat.log2 k.toNat + 1 ≤ Nat.log2 m.toNat := by
  obtain ⟨q, hq⟩ := h
  have hq1 : 2 ≤ q := by
    rcases Int.lt_or_le q 1 with h1 | h1
    · have : k * q ≤ k * 0 := Int.mul_le_mul_of_nonneg_left (by omega) (by omega)
      rw [Int.mul_zero] at this; omega
    · rcases Int.lt_or_le q 2 with h2 | h2
      · obtain rfl : q = 1 := by omega
        rw [Int.mul_one] at hq; omega
      · exact h2
  have h2 : 2 * k ≤ m := by
    have : k * 2 ≤ k * q := Int.mul_le_mul_of_nonneg_left hq1 (by omega)
    omega
  have h3 := (Nat.le_log2 (n := k.toNat) (k := Nat.log2 k.toNat) (by omega)).1 (Nat.le_refl _)
  refine (Nat.le_log2 (by omega)).2 ?_
  rw [Nat.pow_succ]
  omega

theorem Cg.joinC_std {c y : Cg} (hc : c.std) (hy : y.std) :
    (Cg.joinC c y).std ∧ c.leq (Cg.joinC c y) = true ∧ y.leq (Cg.joinC c y) = true ∧ Cg.joinC y c = Cg.joinC c y ∧ (Cg.joinC c y ≠ c → (Cg.joinC c y).rank + 1 ≤ c.rank) := by
  cases hcs : c.s
  · have e : Cg.joinC c y = y := if_pos hcs
    rw [e]
    refine ⟨hy, Cg.leq_none _ hcs, Cg.leq_self hy, ?_, fun hne => ?_⟩
    · cases hys : y.s
      · unfold Cg.joinC; rw [if_pos hys, hc.2.2.1 hcs, hy.2.2.1 hys]
      · unfold Cg.joinC; rw [if_neg (by rw [hys]; decide), if_pos hcs]
    · cases hys : y.s
      · exact absurd ((hy.2.2.1 hys).trans (hc.2.2.1 hcs).symm) hne
      · unfold Cg.rank
        rw [if_pos hcs, if_neg (by rw [hys]; decide)]
        split
        · omega
        · have h1 := hy.1.1; unfold I64 at h1
          by_cases h0 : y.m.toNat = 0
          · rw [h0, Nat.log2_zero]; omega
          · have := (Nat.log2_lt (n := y.m.toNat) (k := 63) h0).2 (by omega)
            omega
  · cases hys : y.s
    · have e : Cg.joinC c y = c := by unfold Cg.joinC; rw [if_neg (by rw [hcs]; decide), if_pos hys]
      rw [e]
      exact ⟨hc, Cg.leq_self hc, Cg.leq_none _ hys, if_pos hys, fun h => absurd rfl h⟩
    · have e : Cg.joinC c y = if 9223372036854775807 < gcdI (gcdI c.m y.m) (apI c.r y.r) then Cg.of 1 0 else Cg.of (gcdI (gcdI c.m y.m) (apI c.r y.r)) c.r := by
        unfold Cg.joinC; rw [if_neg (by rw [hcs]; decide), if_neg (by rw [hys]; decide)]
      have e' : Cg.joinC y c = if 9223372036854775807 < gcdI (gcdI c.m y.m) (apI c.r y.r) then Cg.of 1 0 else Cg.of (gcdI (gcdI c.m y.m) (apI c.r y.r)) y.r := by
        unfold Cg.joinC; rw [if_neg (by rw [hys]; decide), if_neg (by rw [hcs]; decide), gcdI_comm y.m c.m, apI_comm y.r c.r]
      have d0 := gcdI_dvd_l (apI c.r y.r) (gcdI_nonneg c.m y.m)
      have d1 := Int.dvd_trans d0 (gcdI_dvd_l y.m hc.2.1)
      have d2 := Int.dvd_trans d0 (gcdI_dvd_r c.m hy.2.1)
      have d3 := apI_dvd (gcdI_dvd_r (gcdI c.m y.m) (apI_nonneg c.r y.r))
      have d4 := gcdI_nonneg (gcdI c.m y.m) (apI c.r y.r)
      rw [e, e']
      clear e e' d0
      generalize gcdI (gcdI c.m y.m) (apI c.r y.r) = k at *
      have hc1 := hc.1.1
      have hcm := hc.2.1
      unfold I64 at hc1
      have hlog : ∀ j : Int, 0 < j → j ≤ 9223372036854775807 → Nat.log2 j.toNat ≤ 62 := fun j h1 h2 => by
        have := (Nat.log2_lt (n := j.toNat) (k := 63) (by omega)).2 (by omega)
        omega
      by_cases hk : 9223372036854775807 < k
      · rw [if_pos hk, if_pos hk]
        have h0 : c.m = 0 := by
          rcases Int.lt_or_le 0 c.m with h | h
          · have := Int.le_of_dvd h d1; omega
          · omega
        rw [Cg.of_pos 0 (by omega)]
        have st : (Cg.mk true 1 (0 % 1)).std := by rw [← Cg.of_pos 0 (by omega)]; exact Cg.of_std I64_1 I64_0
        refine ⟨st, Cg.leq_std st (by dsimp only; omega) rfl hc (Int.one_dvd _) (by dsimp only; omega), Cg.leq_std st (by dsimp only; omega) rfl hy (Int.one_dvd _) (by dsimp only; omega), rfl, fun _ => ?_⟩
        have e1 : c.rank = 64 := by unfold Cg.rank; rw [if_neg (by rw [hcs]; decide), if_pos h0]
        have e2 : (Cg.mk true 1 (0 % 1)).rank = Nat.log2 1 := rfl
        rw [e1, e2]
        have := hlog 1 (by omega) (by omega)
        have e3 : (1 : Int).toNat = 1 := rfl
        rw [e3] at this; omega
      · rw [if_neg hk, if_neg hk]
        rcases Int.lt_or_le 0 k with hp | hp
        · have hmod : y.r % k = c.r % k := (Int.emod_eq_emod_iff_emod_sub_eq_zero.2 (Int.emod_eq_zero_of_dvd d3)).symm
          rw [Cg.of_pos _ hp, Cg.of_pos _ hp, hmod]
          have st : (Cg.mk true k (c.r % k)).std := by rw [← Cg.of_pos _ hp]; exact Cg.of_std (by unfold I64; omega) hc.1.2
          refine ⟨st, Cg.leq_std st hp rfl hc d1 rfl, Cg.leq_std st hp rfl hy d2 hmod, rfl, fun hne => ?_⟩
          have e2 : (Cg.mk true k (c.r % k)).rank = Nat.log2 k.toNat := by unfold Cg.rank; rw [if_neg (fun h => (by cases h)), if_neg (by dsimp only; omega)]
          rw [e2]
          by_cases h0 : c.m = 0
          · have e1 : c.rank = 64 := by unfold Cg.rank; rw [if_neg (by rw [hcs]; decide), if_pos h0]
            rw [e1]
            have := hlog k hp (by omega)
            omega
          · have e1 : c.rank = Nat.log2 c.m.toNat := by unfold Cg.rank; rw [if_neg (by rw [hcs]; decide), if_neg h0]
            rw [e1]
            refine log2_dvd hp (by omega) d1 (fun hkm => hne ?_)
            refine Cg.ext' hcs.symm hkm ?_
            dsimp only
            rw [hkm]
            exact Int.emod_eq_of_lt (hc.2.2.2 (by omega)).1 (hc.2.2.2 (by omega)).2
        · obtain rfl : k = 0 := by omega
          have z1 : c.m = 0 := Int.zero_dvd.1 d1
          have z2 : y.m = 0 := Int.zero_dvd.1 d2
          have z3 : c.r = y.r := by have := Int.zero_dvd.1 d3; omega
          have ec : Cg.of 0 c.r = c := by rw [Cg.of_nil]; exact Cg.ext' hcs.symm z1.symm rfl
          have ey : y = c := Cg.ext' (hys.trans hcs.symm) (z2.trans z1.symm) z3.symm
          rw [← z3, ec, ey]
          exact ⟨hc, Cg.leq_self hc, Cg.leq_self hc, rfl, fun h => absurd rfl h⟩

theorem Cg.join_std {c x : Cg} (hc : c.std) (hx : x.ok) :
    (c.join x).std ∧ c.leq (c.join x) = true ∧ x.leq (c.join x) = true ∧ x.join c = c.join x ∧ (c.join x ≠ c → (c.join x).rank + 1 ≤ c.rank) := by
  have h := Cg.joinC_std hc (Cg.clean_std hx)
  have e : c.join x = Cg.joinC c x.clean := by unfold Cg.join; rw [Cg.std_clean hc]
  have e' : x.join c = Cg.joinC x.clean c := by unfold Cg.join; rw [Cg.std_clean hc]
  rw [Cg.leq_clean _ hx, e, e']
  exact h
end Go.Proofs.YtdpnphnafidpiaaGreat
