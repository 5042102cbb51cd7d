/- X-PARTIAL The code's token beside the document's: layer 10. -/
import Derived.Test.YtgaecojdebpcgaaDoorTokN
namespace Go.Proofs.YtgaecojdebpcgaaDoor
open Go.RowKit Go.Lib

theorem double_kinds {x : Str} (h : hasL doubles x = true) : ∀ y ∈ x, kB y ≠ 0 := by
  rw [hasL_iff] at h
  simp only [doubles, List.mem_cons, List.not_mem_nil, or_false] at h
  rcases h with h | h | h | h | h <;> (subst h; decide)
theorem mark_bytes (c : UInt8) (r : Str) (hk : kB c = 4) : (∀ x ∈ mark (c :: r), kB x ≠ 0) ∧ mark (c :: r) = (c :: r).take (mark (c :: r)).length := by
  unfold mark
  by_cases h : hasL doubles ((c :: r).take 2) = true
  · rw [if_pos h]
    exact ⟨double_kinds h, by rw [List.length_take, ← List.take_eq_take_min]⟩
  · rw [if_neg h]
    split
    · exact ⟨fun x hx => absurd hx (by simp), rfl⟩
    · refine ⟨fun x hx => ?_, by rw [List.length_take, ← List.take_eq_take_min]⟩
      rw [List.take_succ_cons, List.take_zero, List.mem_singleton] at hx
      subst hx; omega
theorem firstF_bytes (c : UInt8) (r : Str) : (∀ x ∈ (firstF (c :: r) (kB c)).t, kB x ≠ 0) ∧ (firstF (c :: r) (kB c)).t = (c :: r).take (firstF (c :: r) (kB c)).t.length := by
  unfold firstF
  have h0 : (∀ x ∈ ([] : Str), kB x ≠ 0) ∧ ([] : Str) = (c :: r).take ([] : Str).length := ⟨fun x hx => absurd hx (by simp), rfl⟩
  by_cases h2 : kB c = 2
  · rw [if_pos h2]
    unfold nameF
    split
    · exact h0
    · refine ⟨fun x hx => ?_, (pre_take 2 3 _).symm⟩
      have := pre_alnum _ x hx
      unfold alnum at this
      rw [Bool.or_eq_true, beq_iff_eq, beq_iff_eq] at this
      omega
  · rw [if_neg h2]
    by_cases h3 : kB c = 3
    · rw [if_pos h3]
      unfold numF
      split
      · exact h0
      · split
        · refine ⟨fun x hx => ?_, (pre_take 3 3 _).symm⟩
          have := kB_digit.2 (pre_digits _ x hx)
          omega
        · exact h0
    · rw [if_neg h3]
      by_cases h4 : kB c = 4
      · rw [if_pos h4]; exact mark_bytes c r h4
      · rw [if_neg h4]; exact h0

/-- The two ways of saying which token comes next. -/
theorem first_one (c : UInt8) (r : Str) :
    ((firstF (c :: r) (kB c)).e = 0 ∧ (firstF (c :: r) (kB c)).t = [] ∧ ∀ many, oneF (c :: r) many = .bad 3) ∨
    (((firstF (c :: r) (kB c)).e = 0 → (firstF (c :: r) (kB c)).t ≠ []) ∧ oneF (c :: r) true = .bad 6 ∧ oneF (c :: r) false = firstF (c :: r) (kB c)) := by
  simp only [oneF_cons]
  by_cases h : kB c = 2 ∨ kB c = 3
  · right
    rw [if_pos h, if_pos h]
    refine ⟨fun he ht => ?_, rfl, rfl⟩
    have := (firstF_len c r h he).1
    rw [ht] at this
    exact absurd this (by simp)
  · rw [if_neg h, if_neg h]
    have h2 : kB c ≠ 2 := fun e => h (Or.inl e)
    have h3 : kB c ≠ 3 := fun e => h (Or.inr e)
    by_cases h4 : kB c = 4
    · have e : firstF (c :: r) (kB c) = ⟨3, mark (c :: r), 0, 0⟩ := by unfold firstF; rw [if_neg h2, if_neg h3, if_pos h4]
      rw [e]
      by_cases hm : mark (c :: r) = []
      · left
        exact ⟨rfl, hm, fun many => by rw [if_neg h, if_neg (fun hh => hh.2 hm)]⟩
      · right
        have h5 : kB c = 4 ∧ mark (c :: r) ≠ [] := ⟨h4, hm⟩
        exact ⟨fun _ => hm, by rw [if_pos h5]; rfl, by rw [if_pos h5]; rfl⟩
    · have e : firstF (c :: r) (kB c) = ⟨0, [], 0, 0⟩ := by unfold firstF; rw [if_neg h2, if_neg h3, if_neg h4]
      rw [e]
      left
      exact ⟨rfl, rfl, fun many => by rw [if_neg h, if_neg (fun hh => h4 hh.1)]⟩
end Go.Proofs.YtgaecojdebpcgaaDoor
