/- X-PARTIAL What texts keys are read from: plain data of layer 26. -/
import Derived.Test.YtfammopenanapaaDoorKeyA
import Derived.Test.YtfammopenanapaaDoorTokE
import Derived.Test.YtfammopenanapaaDoorTokF
import Derived.Lib.IndexLaws
namespace Go.Proofs.YtfammopenanapaaDoor
open Go.RowKit Go.Lib

/-- What stands ahead of the first dot. -/
def ahead (s : Str) : Str := s.takeWhile (· != 46)
theorem ahead_len (s : Str) : (ahead s).length ≤ s.length := List.Sublist.length_le (List.takeWhile_sublist _)
theorem ahead_take (s : Str) : s.take (ahead s).length = ahead s := (List.prefix_iff_eq_take.1 (List.takeWhile_prefix _)).symm
theorem dot_is : ∀ s : Str, Lib.indexByte s 46 = if (ahead s).length = s.length then -1 else ((ahead s).length : Int)
  | [] => rfl
  | b :: l => by
    have ih := dot_is l
    have hle := ahead_len l
    unfold ahead at *
    rw [Lib.indexByte, List.takeWhile_cons]
    by_cases h : b = 46
    · have hb : (b == 46) = true := by simpa using h
      have hn : (b != 46) = false := by simpa using h
      rw [if_pos hb, hn]
      simp
    · have hb : (b == 46) = false := by simpa using h
      have hn : (b != 46) = true := by simpa using h
      rw [hb, hn, if_neg Bool.false_ne_true, if_pos rfl, ih]
      by_cases he : (l.takeWhile (· != 46)).length = l.length
      · rw [if_pos he, if_pos (by decide), if_pos (by simp [he])]
      · rw [if_neg he, if_neg (by first | (simp; done) | (simp; omega)), if_neg (by simp; exact he)]
        rfl

/-- A number of the language. -/
def isDg (c : UInt8) : Bool := decide (48 ≤ c.toNat) && decide (c.toNat ≤ 57)
def isNum (s : Str) : Bool := s.all isDg && (s == [48] || s != [] && s.head? != some 48)
def readK (s : Str) : Ky × Int :=
  if isName (ahead s) = false then (⟨[], 0⟩, 3) else if (ahead s).length = s.length then (⟨s, -1⟩, 0)
  else if isNum (s.drop ((ahead s).length + 1)) = false then (⟨[], 0⟩, 3)
  else if numV 0 (s.drop ((ahead s).length + 1)) ≤ 9223372036854775807 then (⟨ahead s, numV 0 (s.drop ((ahead s).length + 1))⟩, 0) else (⟨[], 0⟩, 4)
end Go.Proofs.YtfammopenanapaaDoor
