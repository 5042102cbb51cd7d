/- X-PARTIAL Which sign stands at a text's beginning; digits among letters: layer 10. -/
import Derived.Test.YtgaecojdebpcgaaDoorTokJ
namespace Go.Proofs.YtgaecojdebpcgaaDoor
open Go.RowKit Go.Lib

def singles : List UInt8 := [40, 41, 123, 125, 91, 93, 59, 44, 61, 60, 43, 45, 42, 47, 37, 33, 38]
def signsL : List Str := [[61, 61], [33, 61], [60, 61], [38, 38], [124, 124], [40], [41], [123], [125], [91], [93], [59], [44], [61], [60], [43], [45], [42], [47], [37], [33], [38]]
theorem signsL_is : signsL = doubles ++ singles.map fun a => [a] := rfl
/-- Does a sign stand at a text's beginning? -/
def isPre (g t : Str) : Bool := decide (g.length ≤ t.length) && (t.take g.length == g)

theorem find_doubles (t : Str) : ∀ D : List Str, (∀ x ∈ D, x.length = 2) → D.find? (isPre · t) = if hasL D (t.take 2) = true then some (t.take 2) else none
  | [], _ => rfl
  | x :: D, h => by
    have hx := h x List.mem_cons_self
    have ih := find_doubles t D fun y hy => h y (List.mem_cons_of_mem _ hy)
    rw [List.find?_cons]
    unfold isPre at ih ⊢
    have hh : hasL (x :: D) (t.take 2) = ((x == t.take 2) || hasL D (t.take 2)) := rfl
    rw [hh, hx]
    by_cases he : t.take 2 = x
    · have hl : 2 ≤ t.length := by
        have := congrArg List.length he
        rw [List.length_take, hx] at this
        omega
      rw [he, decide_eq_true hl]
      simp
    · have e1 : (t.take 2 == x) = false := by simpa using he
      have e2 : (x == t.take 2) = false := by simpa using fun h => he h.symm
      rw [e1, e2, Bool.and_false, Bool.false_or]
      exact ih
theorem find_singles (c : UInt8) (r : Str) : ∀ S : List UInt8, (S.map fun a => [a]).find? (isPre · (c :: r)) = if c ∈ S then some [c] else none
  | [] => rfl
  | a :: S => by
    rw [List.map_cons, List.find?_cons, find_singles c r S]
    have e : isPre [a] (c :: r) = (c == a) := by
      unfold isPre
      simp
    rw [e]
    by_cases h : c = a
    · subst h; simp
    · have e1 : (c == a) = false := by simpa using h
      rw [e1]
      simp [h]

set_option maxRecDepth 100000 in
theorem kind4 : ∀ n : Nat, n < 256 → ((kindOf (n : Int) == 4) = (singles.contains (UInt8.ofNat n) || (UInt8.ofNat n == 124))) := by decide
theorem kB_4 (c : UInt8) : kB c = 4 ↔ c ∈ singles ∨ c = 124 := by
  have h := kind4 c.toNat c.toNat_lt
  rw [UInt8.ofNat_toNat, Bool.eq_iff_iff] at h
  simpa [kB] using h
theorem double_head {x : Str} (h : hasL doubles x = true) : ∃ a b, x = [a, b] ∧ (a ∈ singles ∨ a = 124) := by
  rw [hasL_iff] at h
  simp only [doubles, List.mem_cons, List.not_mem_nil, or_false] at h
  rcases h with h | h | h | h | h <;> (subst h; exact ⟨_, _, rfl, by decide⟩)

/-- The first sign that stands at a text's beginning is its mark. -/
theorem find_signs (c : UInt8) (r : Str) : signsL.find? (isPre · (c :: r)) = if kB c = 4 ∧ mark (c :: r) ≠ [] then some (mark (c :: r)) else none := by
  rw [signsL_is, List.find?_append, find_doubles (c :: r) doubles (by decide), find_singles]
  unfold mark
  by_cases hd : hasL doubles ((c :: r).take 2) = true
  · obtain ⟨a, b, he, ha⟩ := double_head hd
    have hc : c = a := by
      rw [List.take_succ_cons] at he
      exact (List.cons.inj he).1
    have hk : kB c = 4 := (kB_4 c).2 (hc ▸ ha)
    rw [if_pos hd, if_pos hd, Option.some_or, if_pos ⟨hk, by rw [he]; simp⟩]
  · rw [if_neg hd, if_neg hd, Option.none_or]
    by_cases h124 : c = 124
    · subst h124
      rw [if_neg (by decide), if_pos (show (124 :: r : Str).head? = some 124 from rfl), if_neg (by simp)]
    · rw [if_neg (show ¬ (c :: r).head? = some 124 by simpa using h124)]
      by_cases hs : c ∈ singles
      · rw [if_pos hs, if_pos ⟨(kB_4 c).2 (Or.inl hs), by simp⟩]
        rfl
      · rw [if_neg hs, if_neg (fun h => by
          rcases (kB_4 c).1 h.1 with h' | h'
          · exact hs h'
          · exact h124 h')]

/-- The digits at a beginning, among letters and digits. -/
def isD (c : UInt8) : Bool := kB c == 3
theorem pre33 (t : Str) : pre 3 3 t = t.takeWhile isD := by
  unfold pre isD
  simp only [Bool.or_self]
theorem pre33_pre (t : Str) : pre 3 3 t = (pre 2 3 t).takeWhile isD := by
  rw [pre33, pre_is]
  induction t with
  | nil => rfl
  | cons c r ih =>
    by_cases hd : isD c = true
    · have ha : alnum c = true := by unfold alnum; unfold isD at hd; rw [hd, Bool.or_true]
      rw [List.takeWhile_cons, if_pos hd, List.takeWhile_cons, if_pos ha, List.takeWhile_cons, if_pos hd, ih]
    · rw [List.takeWhile_cons, if_neg hd, List.takeWhile_cons]
      split
      · rw [List.takeWhile_cons, if_neg hd]
      · rfl
theorem pre33_all {t : Str} (h : (pre 2 3 t).all isD = true) : pre 3 3 t = pre 2 3 t := by
  have := takeWhile_id (p := isD) (pre 2 3 t)
  rw [h, beq_iff_eq] at this
  rw [pre33_pre, this]
theorem pre33_short {t : Str} (h : (pre 2 3 t).all isD = false) : (pre 3 3 t).length < (pre 2 3 t).length := by
  have h1 := takeWhile_id (p := isD) (pre 2 3 t)
  rw [h, beq_eq_false_iff_ne] at h1
  rw [pre33_pre]
  have hs := List.takeWhile_sublist isD (l := pre 2 3 t)
  rcases Nat.lt_or_ge ((pre 2 3 t).takeWhile isD).length (pre 2 3 t).length with h' | h'
  · exact h'
  · exact absurd (hs.eq_of_length_le h') h1
end Go.Proofs.YtgaecojdebpcgaaDoor
