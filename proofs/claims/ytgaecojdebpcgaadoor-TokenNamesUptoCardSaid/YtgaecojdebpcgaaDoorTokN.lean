/- X-PARTIAL What a text is, token by token: layer 10. -/
import Derived.Test.YtgaecojdebpcgaaDoorTokK
import Derived.Test.YtgaecojdebpcgaaDoorTokM
namespace Go.Proofs.YtgaecojdebpcgaaDoor
open Go.RowKit Go.Lib

theorem mark_len {l : Str} (_h : l ≠ []) : (mark l).length ≤ l.length := by
  unfold mark
  split
  · rw [List.length_take]; omega
  · split
    · simp
    · rw [List.length_take]; omega
theorem firstF_len (c : UInt8) (r : Str) (h : kB c = 2 ∨ kB c = 3) (he : (firstF (c :: r) (kB c)).e = 0) :
    1 ≤ (firstF (c :: r) (kB c)).t.length ∧ (firstF (c :: r) (kB c)).t.length ≤ (c :: r).length := by
  rcases h with h | h
  · have hne := pre_cons c r (by unfold alnum; rw [h]; rfl)
    have hp := List.length_pos_iff.2 hne
    have hl := pre_len 2 3 (c :: r)
    have e : firstF (c :: r) (kB c) = nameF (pre 2 3 (c :: r)) := by rw [h]; rfl
    rw [e] at he ⊢
    unfold nameF at he ⊢
    split at he
    · exact absurd he (by decide)
    · rename_i h20; rw [if_neg h20]; exact ⟨hp, hl⟩
  · have hd : isD c = true := by unfold isD; rw [h]; rfl
    have hne : pre 3 3 (c :: r) ≠ [] := by rw [pre33, List.takeWhile_cons, if_pos hd]; simp
    have hp := List.length_pos_iff.2 hne
    have hl := pre_len 3 3 (c :: r)
    have e : firstF (c :: r) (kB c) = numF (pre 2 3 (c :: r)).length (pre 3 3 (c :: r)) := by rw [h]; rfl
    rw [e] at he ⊢
    unfold numF at he ⊢
    split at he
    · exact absurd he (by decide)
    · rename_i h1
      rw [if_neg h1]
      split at he
      · rename_i h2; rw [if_pos h2]; exact ⟨hp, hl⟩
      · exact absurd he (by decide)
theorem oneF_cons (c : UInt8) (r : Str) (many : Bool) : oneF (c :: r) many = (if kB c = 2 ∨ kB c = 3 then (if many = true then .bad 6 else firstF (c :: r) (kB c))
    else if kB c = 4 ∧ mark (c :: r) ≠ [] then (if many = true then .bad 6 else ⟨3, mark (c :: r), 0, 0⟩)
    else .bad 3) := rfl
theorem oneF_len {t : Str} {many : Bool} (he : (oneF t many).e = 0) : many = false ∧ 1 ≤ (oneF t many).t.length ∧ (oneF t many).t.length ≤ t.length := by
  cases t with
  | nil => exact absurd (show (3 : Int) = 0 from he) (by decide)
  | cons c r =>
    rw [oneF_cons] at he ⊢
    by_cases h : kB c = 2 ∨ kB c = 3
    · rw [if_pos h] at he ⊢
      cases many
      · exact ⟨rfl, firstF_len c r h he⟩
      · exact absurd (show (6 : Int) = 0 from he) (by decide)
    · rw [if_neg h] at he ⊢
      by_cases h4 : kB c = 4 ∧ mark (c :: r) ≠ []
      · rw [if_pos h4] at he ⊢
        cases many
        · exact ⟨rfl, List.length_pos_iff.2 h4.2, mark_len (by simp)⟩
        · exact absurd (show (6 : Int) = 0 from he) (by decide)
      · rw [if_neg h4] at he; exact absurd (show (3 : Int) = 0 from he) (by decide)

/-- A text's tokens from a place on, behind those that were read; or where it is wrong first, and why. -/
def readG (s : Str) (a : Nat) (L : List Tok) : List Tok × Int × Int :=
  if h : a < s.length then
    if kB s[a] = 1 then readG s (a + 1) L
    else if (oneF (s.drop a) (decide (4000 ≤ L.length))).e = 0 then
      readG s (a + max 1 (oneF (s.drop a) (decide (4000 ≤ L.length))).t.length) (L ++ [⟨(oneF (s.drop a) (decide (4000 ≤ L.length))).k, (oneF (s.drop a) (decide (4000 ≤ L.length))).t, (oneF (s.drop a) (decide (4000 ≤ L.length))).n, a⟩])
    else ([], (a : Int), (oneF (s.drop a) (decide (4000 ≤ L.length))).e)
  else (L ++ [⟨0, [], 0, s.length⟩], 0, 0)
termination_by s.length - a

theorem readG_end {s : Str} {a : Nat} {L : List Tok} (h : ¬ a < s.length) : readG s a L = (L ++ [⟨0, [], 0, s.length⟩], 0, 0) := by
  rw [readG, dif_neg h]
theorem readG_blank {s : Str} {a : Nat} {L : List Tok} (h : a < s.length) (hk : kB s[a] = 1) : readG s a L = readG s (a + 1) L := by
  rw [readG, dif_pos h, if_pos hk]
theorem readG_bad {s : Str} {a : Nat} {L : List Tok} {r : TR} (h : a < s.length) (hk : kB s[a] ≠ 1) (hr : oneF (s.drop a) (decide (4000 ≤ L.length)) = r) (he : r.e ≠ 0) : readG s a L = ([], (a : Int), r.e) := by
  rw [readG, dif_pos h, if_neg hk, hr, if_neg he]
theorem readG_tok {s : Str} {a : Nat} {L : List Tok} {r : TR} (h : a < s.length) (hk : kB s[a] ≠ 1) (hr : oneF (s.drop a) (decide (4000 ≤ L.length)) = r) (he : r.e = 0) :
    readG s a L = readG s (a + r.t.length) (L ++ [⟨r.k, r.t, r.n, a⟩]) ∧ L.length < 4000 ∧ 1 ≤ r.t.length ∧ a + r.t.length ≤ s.length := by
  have hl := oneF_len (t := s.drop a) (many := decide (4000 ≤ L.length)) (by rw [hr]; exact he)
  rw [hr, List.length_drop] at hl
  refine ⟨?_, by have := of_decide_eq_false hl.1; omega, hl.2.1, by omega⟩
  rw [readG, dif_pos h, if_neg hk, hr, if_pos he, Nat.max_eq_right hl.2.1]

def readF (s : Str) : List Tok × Int × Int := if 20000 < s.length then ([], 0, 6) else readG s 0 []
end Go.Proofs.YtgaecojdebpcgaaDoor
