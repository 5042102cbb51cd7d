/- Keys and their order: plain data of layer 26. -/
import Derived.Test.YtfammopenanapaaDoorNamA
import Derived.Lib.Bytealg
import Derived.Lib.Small
namespace Go.Proofs.YtfammopenanapaaDoor

/-- A key: a name, a number. -/
structure Ky where
  n : Str
  d : Int
def Ky.cl (k : Ky) : Ky := ⟨k.n, max k.d (-1)⟩
instance : DecidableEq Ky := fun a b => decidable_of_iff (a.n = b.n ∧ a.d = b.d) ⟨fun h => by cases a; cases b; simp_all, fun h => by subst h; exact ⟨rfl, rfl⟩⟩
theorem Ky.cl_neg {k : Ky} (h : k.d < 0) : k.cl = ⟨k.n, -1⟩ := by unfold Ky.cl; rw [Int.max_def]; split <;> first | rfl | omega
theorem Ky.cl_pos {k : Ky} (h : ¬ k.d < 0) : k.cl = k := by unfold Ky.cl; rw [Int.max_def]; split <;> first | rfl | omega
theorem Ky.cl_cl (k : Ky) : k.cl.cl = k.cl := by
  by_cases h : k.d < 0
  · rw [Ky.cl_neg h]; rfl
  · rw [Ky.cl_pos h, Ky.cl_pos h]
theorem Ky.ext {a b : Ky} (h1 : a.n = b.n) (h2 : a.d = b.d) : a = b := by cases a; cases b; simp_all

theorem comp_is : ∀ a b : Str, Lib.compareBytes a b = if a < b then -1 else if a = b then 0 else 1
  | [], [] => rfl
  | [], y :: b => by rw [Lib.compareBytes, if_pos (List.nil_lt_cons _ _)]
  | x :: a, [] => by
    have h : ¬ (x :: a : Str) < [] := List.not_lt_nil _
    rw [Lib.compareBytes, if_neg h, if_neg (by simp)]
  | x :: a, y :: b => by
    have ih := comp_is a b
    rw [Lib.compareBytes]
    by_cases h1 : x < y
    · rw [if_pos h1, if_pos (List.cons_lt_cons_iff.2 (Or.inl h1))]
    · by_cases h2 : y < x
      · have hne : x ≠ y := fun e => by subst e; exact h1 h2
        rw [if_neg h1, if_pos h2, if_neg (fun h => by
          rcases List.cons_lt_cons_iff.1 h with h | h
          · exact h1 h
          · exact hne h.1), if_neg (fun h => hne (List.cons.inj h).1)]
      · have he : x = y := by
          have a1 : ¬ x.toNat < y.toNat := h1
          have a2 : ¬ y.toNat < x.toNat := h2
          exact UInt8.toNat_inj.1 (by omega)
        subst he
        rw [if_neg h1, if_neg h1, ih]
        by_cases h3 : a < b
        · rw [if_pos h3, if_pos (List.cons_lt_cons_iff.2 (Or.inr ⟨rfl, h3⟩))]
        · have h5 : ¬ (x :: a : Str) < x :: b := fun h => by
            rcases List.cons_lt_cons_iff.1 h with h | h
            · exact h1 h
            · exact h3 h.2
          rw [if_neg h3, if_neg h5]
          by_cases h4 : a = b
          · rw [if_pos h4, if_pos (by rw [h4])]
          · rw [if_neg h4, if_neg (fun h => h4 (List.cons.inj h).2)]

/-- How two keys stand. -/
def Ky.cmp (a b : Ky) : Int := if Lib.compareBytes a.n b.n ≠ 0 then Lib.compareBytes a.n b.n else Lib.compareInt a.cl.d b.cl.d
/-- One clean key ahead of another one. -/
def Ky.less (a b : Ky) : Bool := if a.n ≠ b.n then decide (a.n < b.n) else decide (a.d < b.d)

theorem comp_eq {a b : Str} : Lib.compareBytes a b = 0 ↔ a = b := by
  rw [comp_is]
  by_cases h : a < b
  · rw [if_pos h]; exact ⟨fun h' => by omega, fun e => absurd e (str_ne h)⟩
  · rw [if_neg h]
    by_cases e : a = b
    · rw [if_pos e]; exact ⟨fun _ => e, fun _ => rfl⟩
    · rw [if_neg e]; exact ⟨fun h' => by omega, fun h' => absurd h' e⟩
theorem cmpI_is (x y : Int) : Lib.compareInt x y = if x < y then -1 else if x = y then 0 else 1 := by
  unfold Lib.compareInt
  split
  · rfl
  · split
    · rw [if_neg (by omega)]
    · rw [if_pos (by omega)]

theorem Ky.cmp_is (a b : Ky) : a.cmp b = if a.cl.less b.cl = true then -1 else if a.cl = b.cl then 0 else 1 := by
  unfold Ky.cmp
  by_cases h : a.n = b.n
  · rw [if_neg (not_not_intro (comp_eq.2 h)), cmpI_is]
    have hl : a.cl.less b.cl = decide (a.cl.d < b.cl.d) := by
      unfold Ky.less
      rw [if_neg (not_not_intro (show a.cl.n = b.cl.n from h))]
    rw [hl]
    by_cases h1 : a.cl.d < b.cl.d
    · rw [if_pos h1, if_pos (decide_eq_true h1)]
    · rw [if_neg h1, if_neg (fun h => h1 (of_decide_eq_true h))]
      by_cases h2 : a.cl.d = b.cl.d
      · rw [if_pos h2, if_pos (Ky.ext (a := a.cl) (b := b.cl) h h2)]
      · rw [if_neg h2, if_neg (fun e => h2 (by rw [e]))]
  · rw [if_pos (fun e => h (comp_eq.1 e)), comp_is]
    have hl : a.cl.less b.cl = decide (a.n < b.n) := by
      unfold Ky.less
      rw [if_pos (show a.cl.n ≠ b.cl.n from h)]
      rfl
    rw [hl]
    by_cases h1 : a.n < b.n
    · rw [if_pos h1, if_pos (decide_eq_true h1)]
    · rw [if_neg h1, if_neg h, if_neg (fun h => h1 (of_decide_eq_true h)), if_neg (show ¬ a.cl = b.cl from fun e => h (show a.cl.n = b.cl.n by rw [e]))]

theorem Ky.less_irrefl (a : Ky) : a.less a = false := by
  unfold Ky.less; rw [if_neg (not_not_intro rfl)]; simp
theorem Ky.less_tri {a b : Ky} (h1 : a.less b = false) (h2 : b.less a = false) : a = b := by
  unfold Ky.less at h1 h2
  by_cases h : a.n = b.n
  · rw [if_neg (not_not_intro h)] at h1
    rw [if_neg (not_not_intro h.symm)] at h2
    simp at h1 h2
    exact Ky.ext h (by omega)
  · rw [if_pos h] at h1
    rw [if_pos (fun e => h e.symm)] at h2
    exact absurd (str_tri (by simpa using h1) (by simpa using h2)) h
theorem Ky.less_trans {a b c : Ky} (h1 : a.less b = true) (h2 : b.less c = true) : a.less c = true := by
  unfold Ky.less at h1 h2 ⊢
  by_cases e1 : a.n = b.n
  · rw [if_neg (not_not_intro e1)] at h1
    by_cases e2 : b.n = c.n
    · rw [if_neg (not_not_intro e2)] at h2
      rw [if_neg (not_not_intro (e1.trans e2))]
      simp at h1 h2 ⊢
      omega
    · rw [if_pos e2] at h2
      rw [if_pos (by rw [e1]; exact e2), e1]
      exact h2
  · rw [if_pos e1] at h1
    by_cases e2 : b.n = c.n
    · rw [if_pos (by rw [← e2]; exact e1), ← e2]
      exact h1
    · rw [if_pos e2] at h2
      have h3 := List.lt_trans (of_decide_eq_true h1) (of_decide_eq_true h2)
      rw [if_pos (str_ne h3)]
      exact decide_eq_true h3
theorem Ky.less_asymm {a b : Ky} (h : a.less b = true) : b.less a = false := by
  cases hb : b.less a with
  | false => rfl
  | true => exact absurd (Ky.less_trans h hb) (by rw [Ky.less_irrefl]; decide)

theorem Ky.cmp_neg (a b : Ky) : b.cmp a = - a.cmp b := by
  rw [Ky.cmp_is, Ky.cmp_is]
  by_cases h : a.cl.less b.cl = true
  · rw [if_pos h, Ky.less_asymm h, if_neg (by decide), if_neg (fun e => by rw [e, Ky.less_irrefl] at h; exact absurd h (by decide))]
    rfl
  · rw [if_neg h]
    by_cases h2 : b.cl.less a.cl = true
    · rw [if_pos h2, if_neg (fun e => by rw [e, Ky.less_irrefl] at h2; exact absurd h2 (by decide))]
    · have e := Ky.less_tri (by simpa using h) (by simpa using h2)
      rw [if_neg h2, if_pos e, if_pos e.symm]
      rfl
theorem Ky.cmp_zero (a b : Ky) : a.cmp b = 0 ↔ a.cl = b.cl := by
  rw [Ky.cmp_is]
  by_cases h : a.cl.less b.cl = true
  · rw [if_pos h]
    exact ⟨fun h' => by omega, fun e => by rw [e, Ky.less_irrefl] at h; exact absurd h (by decide)⟩
  · rw [if_neg h]
    by_cases e : a.cl = b.cl
    · rw [if_pos e]; exact ⟨fun _ => e, fun _ => rfl⟩
    · rw [if_neg e]; exact ⟨fun h' => by omega, fun h' => absurd h' e⟩
theorem Ky.cmp_low (a b : Ky) : -1 ≤ a.cmp b ∧ a.cmp b ≤ 1 := by
  rw [Ky.cmp_is]; split
  · omega
  · split <;> omega
theorem Ky.cmp_less (a b : Ky) : decide (a.cmp b < 0) = a.cl.less b.cl := by
  rw [Ky.cmp_is]
  cases h : a.cl.less b.cl with
  | true => rfl
  | false => rw [if_neg (by decide)]; split <;> rfl
theorem Ky.cmp_trans {a b c : Ky} (h1 : a.cmp b ≤ 0) (h2 : b.cmp c ≤ 0) : a.cmp c ≤ 0 := by
  have le : ∀ x y : Ky, x.cmp y ≤ 0 → x.cl.less y.cl = true ∨ x.cl = y.cl := by
    intro x y h
    rw [Ky.cmp_is] at h
    by_cases h1 : x.cl.less y.cl = true
    · exact Or.inl h1
    · rw [if_neg h1] at h
      by_cases e : x.cl = y.cl
      · exact Or.inr e
      · rw [if_neg e] at h; omega
  have hac : a.cl.less c.cl = true ∨ a.cl = c.cl := by
    rcases le _ _ h1 with h1 | h1
    · rcases le _ _ h2 with h2 | h2
      · exact Or.inl (Ky.less_trans h1 h2)
      · rw [← h2]; exact Or.inl h1
    · rw [h1]; exact le _ _ h2
  rw [Ky.cmp_is]
  rcases hac with h | h
  · rw [if_pos h]; omega
  · rw [h, Ky.less_irrefl, if_neg (by decide), if_pos rfl]; omega
end Go.Proofs.YtfammopenanapaaDoor
