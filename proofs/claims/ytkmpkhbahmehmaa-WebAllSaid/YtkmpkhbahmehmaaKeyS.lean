/- X-PARTIAL Rows of keys without what stands twice: layer 26. -/
import Derived.Test.YtkmpkhbahmehmaaKeyK
namespace Go.Proofs.Ytkmpkhbahmehmaa
open Go.RowKit Go.Lib

/-- Without what is the same as what stands ahead of it. -/
def ddK : List Ky → List Ky
  | [] => []
  | [x] => [x]
  | x :: y :: r => if x = y then ddK (y :: r) else x :: ddK (y :: r)
theorem ddK_snoc (a b : Ky) : ∀ m : List Ky, ddK (m ++ [a, b]) = if b = a then ddK (m ++ [a]) else ddK (m ++ [a]) ++ [b]
  | [] => by
    show (if a = b then [b] else a :: [b]) = if b = a then [a] else [a] ++ [b]
    by_cases h : a = b
    · subst h; rw [if_pos rfl, if_pos rfl]
    · rw [if_neg h, if_neg (fun e => h e.symm)]; rfl
  | [x] => by
    have ih := ddK_snoc a b []
    rw [List.nil_append, List.nil_append] at ih
    show (if x = a then ddK [a, b] else x :: ddK [a, b]) = if b = a then (if x = a then ddK [a] else x :: ddK [a]) else (if x = a then ddK [a] else x :: ddK [a]) ++ [b]
    rw [ih]
    by_cases h1 : x = a <;> by_cases h2 : b = a <;> simp [h1, h2]
  | x :: y :: m => by
    have ih := ddK_snoc a b (y :: m)
    rw [List.cons_append, List.cons_append] at ih
    show (if x = y then ddK (y :: (m ++ [a, b])) else x :: ddK (y :: (m ++ [a, b]))) = if b = a then (if x = y then ddK (y :: (m ++ [a])) else x :: ddK (y :: (m ++ [a]))) else (if x = y then ddK (y :: (m ++ [a])) else x :: ddK (y :: (m ++ [a]))) ++ [b]
    rw [ih]
    by_cases h1 : x = y <;> by_cases h2 : b = a <;> simp [h1, h2]
theorem ddK_next {l : List Ky} {k : Nat} (h : k + 1 < l.length) : ddK (l.take (k + 2)) = if l[k + 1] = l[k] then ddK (l.take (k + 1)) else ddK (l.take (k + 1)) ++ [l[k + 1]] := by
  have e1 : l.take (k + 1) = l.take k ++ [l[k]] := List.take_succ_eq_append_getElem (by omega)
  have e2 : l.take (k + 2) = l.take k ++ [l[k], l[k + 1]] := by
    rw [List.take_succ_eq_append_getElem h, e1, List.append_assoc]; rfl
  rw [e2, e1]
  exact ddK_snoc _ _ _
theorem ddK_one {l : List Ky} (h : 0 < l.length) : ddK (l.take 1) = l.take 1 := by
  cases l with
  | nil => simp at h
  | cons x r => rfl
theorem ddK_len : ∀ l : List Ky, (ddK l).length ≤ l.length
  | [] => Nat.le_refl _
  | [x] => Nat.le_refl _
  | x :: y :: r => by
    have ih := ddK_len (y :: r)
    show (if x = y then ddK (y :: r) else x :: ddK (y :: r)).length ≤ _
    split
    · simp at ih ⊢; omega
    · simp at ih ⊢; omega

theorem own_prefix {w : World} {base : Nat} {e : TypeId} {size n n' g cap : Nat} {xs : List Value} (h : w.ownsRow base e size (.slice (some ⟨g, 0, none⟩) n cap) n xs) (hn : n' ≤ n) :
    w.ownsRow base e size (.slice (some ⟨g, 0, none⟩) n' cap) n' (xs.take (n' * size)) := by
  have hle : n' * size ≤ n * size := Nat.mul_le_mul_right _ hn
  have hl := h.1
  refine ⟨by rw [List.length_take, hl]; omega, ?_⟩
  rcases h.2 with ⟨h', _⟩ | ⟨g', cap', cur, h', hb, hg, h1, h2, h3, h4⟩
  · cases h'
  · cases h'
    exact Or.inr ⟨g, cap, cur, rfl, hb, hg, by omega, h2, h3, by rw [← h4, List.take_take, Nat.min_eq_left hle]⟩
theorem own_sets {base : Nat} {e : TypeId} {size n g cap : Nat} : ∀ (vs : List Value) (o : Nat) (w : World) (xs : List Value), w.ownsRow base e size (.slice (some ⟨g, 0, none⟩) n cap) n xs →
    ∃ ys : List Value, (w.setCells g o vs).ownsRow base e size (.slice (some ⟨g, 0, none⟩) n cap) n ys ∧ ys.take o = xs.take o
  | [], o, w, xs, h => ⟨xs, h, rfl⟩
  | v :: r, o, w, xs, h => by
    obtain ⟨ys, h1, h2⟩ := own_sets r (o + 1) (w.setCell ⟨g, o, none⟩ v) (xs.set o v) (h.stored o v).1
    refine ⟨ys, h1, ?_⟩
    have e1 : ys.take o = (ys.take (o + 1)).take o := by rw [List.take_take, Nat.min_eq_left (by omega)]
    rw [e1, h2, List.take_take, Nat.min_eq_left (by omega), List.take_set_of_le (by omega)]
theorem grown_trans {A B C : World} {r : Option Nat} (h : A.grownBy B r) (k : B.grownBy C r) : A.grownBy C r :=
  ⟨k.os.trans h.os, k.tape.trans h.tape, k.output.trans h.output, Nat.le_trans h.size k.size, fun j hj hne => (k.block j (Nat.lt_of_lt_of_le hj h.size) hne).trans (h.block j hj hne)⟩
theorem grown_refl (A : World) (r : Option Nat) : A.grownBy A r := ⟨rfl, rfl, rfl, Nat.le_refl _, fun _ _ _ => rfl⟩
theorem grown_drew {A B : World} {r : Option Nat} (h : A.grownBy B r) : A.grownBy B.drew r := ⟨h.os, h.tape, h.output, h.size, h.block⟩
theorem own_drew {w : World} {base : Nat} {e : TypeId} {size n : Nat} {v : Value} {xs : List Value} (h : w.ownsRow base e size v n xs) : w.drew.ownsRow base e size v n xs := h

theorem kcells_take : ∀ (l : List Ky) (k : Nat), (kcells l).take (k * 2) = kcells (l.take k)
  | [], k => by simp [kcells]
  | x :: l, 0 => by simp [kcells]
  | x :: l, k + 1 => by
    rw [show (k + 1) * 2 = k * 2 + 1 + 1 by omega]
    show encStr x.n :: .int .i64 x.d :: (kcells l).take (k * 2) = _
    rw [kcells_take l k]
    rfl
theorem kcells_set : ∀ (l : List Ky) (k : Nat) (x : Ky), k < l.length → ((kcells l).set (k * 2) (encStr x.n)).set (k * 2 + 1) (.int .i64 x.d) = kcells (l.set k x)
  | y :: l, 0, x, _ => rfl
  | y :: l, k + 1, x, h => by
    have ih := kcells_set l k x (by simpa using h)
    rw [show (k + 1) * 2 = k * 2 + 1 + 1 by omega]
    show encStr y.n :: .int .i64 y.d :: ((kcells l).set (k * 2) (encStr x.n)).set (k * 2 + 1) (.int .i64 x.d) = _
    rw [ih]
    rfl
end Go.Proofs.Ytkmpkhbahmehmaa
