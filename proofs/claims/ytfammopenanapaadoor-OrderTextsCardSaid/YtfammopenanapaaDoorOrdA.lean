/- X-PARTIAL Pieces of a text that blanks part: plain: layer 37. -/
import Derived.Test.YtfammopenanapaaDoorKeyL
import Derived.Test.YtfammopenanapaaDoorKeyB
import Derived.Lib.Bytealg
namespace Go.Proofs.YtfammopenanapaaDoor
open Go.RowKit Go.Lib

/-- What stands ahead of the first blank, and behind it. -/
def aheadB (s : Str) : Str := s.takeWhile (· != 32)
def behindB (s : Str) : Str := s.drop ((aheadB s).length + 1)
def blankB (s : Str) : Bool := !decide ((aheadB s).length = s.length)
theorem aheadB_len (s : Str) : (aheadB s).length ≤ s.length := List.Sublist.length_le (List.takeWhile_sublist _)
theorem aheadB_take (s : Str) : s.take (aheadB s).length = aheadB s := (List.prefix_iff_eq_take.1 (List.takeWhile_prefix _)).symm
theorem blank_is : ∀ s : Str, Lib.indexByte s 32 = if (aheadB s).length = s.length then -1 else ((aheadB s).length : Int)
  | [] => rfl
  | b :: l => by
    have ih := blank_is l
    have hle := aheadB_len l
    unfold aheadB at *
    rw [Lib.indexByte, List.takeWhile_cons]
    by_cases h : b = 32
    · have hb : (b == 32) = true := by simpa using h
      have hn : (b != 32) = false := by simpa using h
      rw [if_pos hb, hn]
      simp
    · have hb : (b == 32) = false := by simpa using h
      have hn : (b != 32) = true := by simpa using h
      rw [hb, hn, if_neg Bool.false_ne_true, if_pos rfl, ih]
      by_cases he : (l.takeWhile (· != 32)).length = l.length
      · rw [if_pos he, if_pos (by decide), if_pos (by simp [he])]
      · rw [if_neg he, if_neg (by first | (simp; done) | (simp; omega)), if_neg (by simp; exact he)]
        rfl

/-- The pieces. -/
def splitB : Str → List Str
  | [] => [[]]
  | c :: s => if c = 32 then [] :: splitB s else ((c :: (splitB s).headD []) :: (splitB s).tail)
theorem splitB_ne : ∀ s : Str, splitB s ≠ []
  | [] => by simp [splitB]
  | c :: s => by unfold splitB; split <;> simp
theorem splitB_len : ∀ s : Str, (splitB s).length = s.count 32 + 1
  | [] => rfl
  | c :: s => by
    have ih := splitB_len s
    have hne := splitB_ne s
    unfold splitB
    by_cases h : c = 32
    · rw [if_pos h, List.length_cons, ih, h, List.count_cons_self]
    · rw [if_neg h, List.length_cons, List.length_tail, ih, List.count_cons_of_ne (fun e => h e)]
      omega
theorem splitB_none : ∀ {s : Str}, (aheadB s).length = s.length → splitB s = [s]
  | [], _ => rfl
  | c :: s, h => by
    unfold aheadB at h
    rw [List.takeWhile_cons] at h
    by_cases hc : c = 32
    · subst hc; simp at h
    · have hn : (c != 32) = true := by simpa using hc
      rw [hn, if_pos rfl, List.length_cons, List.length_cons] at h
      have ih := splitB_none (s := s) (by unfold aheadB; omega)
      unfold splitB
      rw [if_neg hc, ih]
      rfl
theorem splitB_some : ∀ {s : Str}, ¬ (aheadB s).length = s.length → splitB s = aheadB s :: splitB (behindB s)
  | [], h => absurd rfl h
  | c :: s, h => by
    by_cases hc : c = 32
    · subst hc
      conv => lhs; unfold splitB
      rw [if_pos rfl]
      have e1 : aheadB (32 :: s) = [] := by unfold aheadB; rw [List.takeWhile_cons]; simp
      have e2 : behindB (32 :: s) = s := by unfold behindB; rw [e1]; rfl
      rw [e1, e2]
    · have hn : (c != 32) = true := by simpa using hc
      have e1 : aheadB (c :: s) = c :: aheadB s := by unfold aheadB; rw [List.takeWhile_cons, hn, if_pos rfl]
      have e2 : behindB (c :: s) = behindB s := by unfold behindB; rw [e1]; rfl
      rw [e1, List.length_cons, List.length_cons] at h
      have ih := splitB_some (s := s) (by omega)
      rw [e1, e2]
      conv => lhs; unfold splitB
      rw [if_neg hc, ih]
      rfl
theorem behindB_len (s : Str) : (behindB s).length ≤ s.length := by unfold behindB; rw [List.length_drop]; omega
theorem blankB_false {s : Str} (h : blankB s = false) : (aheadB s).length = s.length := by
  unfold blankB at h
  rw [Bool.not_eq_false'] at h
  exact of_decide_eq_true h
theorem blankB_true {s : Str} (h : blankB s = true) : ¬ (aheadB s).length = s.length := by
  unfold blankB at h
  rw [Bool.not_eq_true'] at h
  exact of_decide_eq_false h
theorem head_split (s : Str) : (splitB s).headD [] = aheadB s := by
  by_cases h : (aheadB s).length = s.length
  · rw [splitB_none h]
    show s = aheadB s
    rw [← aheadB_take s, h, List.take_length]
  · rw [splitB_some h]; rfl

/-- The words ahead of commands. -/
def wordsO : List Str := [[], [102, 117, 110, 99], [103, 108, 111, 98, 97, 108], [100, 114, 111, 112], [118, 97, 108, 117, 101], [114, 101, 97, 99, 104], [97, 115, 115, 101, 114, 116], [112, 111, 105, 110, 116, 115], [119, 104, 111, 108, 101], [98, 117, 100, 103, 101, 116]]
def kindO (s : Str) : Nat := if s = wordsO[1] then 1 else if s = wordsO[2] then 2 else if s = wordsO[3] then 3 else if s = wordsO[4] then 4 else if s = wordsO[5] then 5 else if s = wordsO[6] then 6 else if s = wordsO[7] then 7 else if s = wordsO[8] then 8 else if s = wordsO[9] then 9 else 0

/-- A command. -/
structure Cmd where
  k : Int
  f : Str
  d : Int
  n : Str
  m : Int
  t : Str
def Cmd.none : Cmd := ⟨0, [], 0, [], 0, []⟩
/-- A node's name and number, an error. -/
def nodeO (s : Str) : Ky × Int := if (readK s).2 ≠ 0 then (⟨[], 0⟩, (readK s).2) else if (readK s).1.d < 0 then (⟨[], 0⟩, 3) else readK s
def argsO (k : Nat) (l : List Str) : Cmd × Int :=
  if k = 3 ∨ k = 8 then (if l.length = 1 then (if isName (l.headD []) then (⟨k, [], 0, l.headD [], 0, []⟩, 0) else (Cmd.none, 3)) else (Cmd.none, 3))
  else if k = 9 then (if l.length = 1 then (if (nodeO (120 :: 46 :: l.headD [])).2 = 0 then (⟨k, [], 0, [], (nodeO (120 :: 46 :: l.headD [])).1.d, []⟩, 0) else (Cmd.none, (nodeO (120 :: 46 :: l.headD [])).2)) else (Cmd.none, 3))
  else if l.length = 1 then (if k = 7 then (Cmd.none, 3) else if (nodeO (l.headD [])).2 = 0 then (⟨k, (nodeO (l.headD [])).1.n, (nodeO (l.headD [])).1.d, [], 0, []⟩, 0) else (Cmd.none, (nodeO (l.headD [])).2))
  else if l.length = 2 ∧ (k = 4 ∨ k = 7) then (if (nodeO (l.headD [])).2 = 0 then (if isName (l.getD 1 []) then (⟨k, (nodeO (l.headD [])).1.n, (nodeO (l.headD [])).1.d, l.getD 1 [], 0, []⟩, 0) else (Cmd.none, 3)) else (Cmd.none, (nodeO (l.headD [])).2))
  else (Cmd.none, 3)
def readO (s : Str) : Cmd × Int :=
  if kindO (aheadB s) = 0 ∨ blankB s = false then (Cmd.none, 3)
  else if kindO (aheadB s) ≤ 2 then (⟨kindO (aheadB s), [], 0, [], 0, behindB s⟩, 0)
  else argsO (kindO (aheadB s)) (splitB (behindB s))
/-- A command's text. -/
def textO (c : Cmd) : Str :=
  if c.k ≤ 0 ∨ 10 ≤ c.k then []
  else if c.k = 1 ∨ c.k = 2 then (wordsO.getD c.k.toNat []) ++ [32] ++ c.t
  else if c.k = 3 ∨ c.k = 8 then (wordsO.getD c.k.toNat []) ++ [32] ++ c.n
  else if c.k = 9 then (wordsO.getD c.k.toNat []) ++ [32] ++ Lib.itoa c.m
  else if c.k = 7 ∨ (c.k = 4 ∧ c.n ≠ []) then (wordsO.getD c.k.toNat []) ++ [32] ++ textK ⟨c.f, c.d⟩ ++ [32] ++ c.n
  else (wordsO.getD c.k.toNat []) ++ [32] ++ textK ⟨c.f, c.d⟩
end Go.Proofs.YtfammopenanapaaDoor
