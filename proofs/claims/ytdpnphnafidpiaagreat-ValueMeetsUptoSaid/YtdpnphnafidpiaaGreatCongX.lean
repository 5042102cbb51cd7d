/- What is in a clean congruence (pure). Layer 5. -/
import Derived.Test.YtdpnphnafidpiaaGreatCongM
namespace Go.Proofs.YtdpnphnafidpiaaGreat
open Go.RowKit

theorem Cg.has_std {c : Cg} (h : c.std) (n : Int) : c.has n = (c.s && (if c.m = 0 then n == c.r else n % c.m == c.r)) := by
  unfold Cg.has
  rw [Cg.std_clean h]
  unfold Cg.hasC
  by_cases h0 : c.m = 0
  · rw [if_pos h0, if_pos h0]
  · rw [if_neg h0, if_neg h0, modI_pos (by have := h.2.1; omega)]
theorem Cg.has_iff {c : Cg} (h : c.std) (n : Int) : c.has n = true ↔ c.s = true ∧ ((c.m = 0 ∧ n = c.r) ∨ (0 < c.m ∧ n % c.m = c.r)) := by
  rw [Cg.has_std h, Bool.and_eq_true]
  have h1 := h.2.1
  by_cases h0 : c.m = 0
  · rw [if_pos h0, beq_iff_eq]
    exact ⟨fun ⟨a, b⟩ => ⟨a, Or.inl ⟨h0, b⟩⟩, fun ⟨a, b⟩ => ⟨a, by rcases b with ⟨_, b⟩ | ⟨b, _⟩; exact b; omega⟩⟩
  · rw [if_neg h0, beq_iff_eq]
    exact ⟨fun ⟨a, b⟩ => ⟨a, Or.inr ⟨by omega, b⟩⟩, fun ⟨a, b⟩ => ⟨a, by rcases b with ⟨b, _⟩ | ⟨_, b⟩; omega; exact b⟩⟩
theorem Cg.has_none {c : Cg} (h : c.std) (hs : c.s = false) (n : Int) : c.has n = false := by rw [Cg.has_std h, hs]; rfl
/-- What an int leaves of a divisor of M is what R leaves. -/
theorem Cg.has_mod_dvd {c : Cg} (h : c.std) {n g : Int} (hn : c.has n = true) (hg : g ∣ c.m) : n % g = c.r % g := by
  obtain ⟨_, h2⟩ := (Cg.has_iff h n).1 hn
  rcases h2 with ⟨_, e⟩ | ⟨h1, e⟩
  · rw [e]
  · have hd : c.m ∣ n - c.r := by
      have h3 := h.2.2.2 h1
      have e2 : c.r % c.m = c.r := Int.emod_eq_of_lt h3.1 h3.2
      exact Int.dvd_of_emod_eq_zero (Int.emod_eq_emod_iff_emod_sub_eq_zero.1 (e.trans e2.symm))
    exact Int.emod_eq_emod_iff_emod_sub_eq_zero.2 (Int.emod_eq_zero_of_dvd (Int.dvd_trans hg hd))
/-- Below: all ints of it. -/
theorem Cg.has_mono {a b : Cg} (ha : a.std) (hb : b.std) (h : a.leq b = true) {n : Int} (hn : a.has n = true) : b.has n = true := by
  obtain ⟨has1, h2⟩ := (Cg.has_iff ha n).1 hn
  have hl : Cg.leqC a b = true := by unfold Cg.leq at h; rwa [Cg.std_clean ha, Cg.std_clean hb] at h
  unfold Cg.leqC at hl
  rw [has1] at hl
  simp only [Bool.not_true, Bool.false_or, Bool.and_eq_true] at hl
  obtain ⟨bs, hl⟩ := hl
  by_cases h0 : b.m = 0
  · rw [if_pos h0] at hl
    simp only [Bool.and_eq_true, beq_iff_eq] at hl
    exact (Cg.has_iff hb n).2 ⟨bs, Or.inl ⟨h0, by omega⟩⟩
  · rw [if_neg h0] at hl
    simp only [Bool.and_eq_true, beq_iff_eq] at hl
    have hd := Int.dvd_of_tmod_eq_zero hl.1
    have hbm : 0 < b.m := by have := hb.2.1; omega
    obtain ⟨_, e⟩ := (Cg.has_iff hb a.r).1 hl.2
    refine (Cg.has_iff hb n).2 ⟨bs, Or.inr ⟨hbm, ?_⟩⟩
    rw [Cg.has_mod_dvd ha hn hd]
    omega
theorem Cg.leq_zero (b : Cg) : Cg.zero.leq b = true := Cg.leq_none b rfl
theorem Cg.zero_has (n : Int) : Cg.zero.has n = false := Cg.has_none Cg.zero_std rfl n
end Go.Proofs.YtdpnphnafidpiaaGreat
