/- X-PARTIAL Signs, names and numbers as tokens: layer 10. Made by gentokh.py. -/
import Derived.Test.YtfammopenanapaaDoorTokG
import Derived.Test.YtfammopenanapaaDoorAtoiLay
import Derived.Lib.SmallJoins
namespace Go.Proofs.YtfammopenanapaaDoor
open Go.RowKit Go.Lib

def doubles : List Str := [[61, 61], [33, 61], [60, 61], [38, 38], [124, 124]]
/-- The sign with which a text begins. -/
def mark (l : Str) : Str := if hasL doubles (l.take 2) = true then l.take 2 else if l.head? = some 124 then [] else l.take 1

theorem hasL_doubles (x : Str) : hasL doubles x = (x == [61, 61] || x == [33, 61] || x == [60, 61] || x == [38, 38] || x == [124, 124]) := by
  unfold hasL doubles
  simp only [List.any_cons, List.any_nil, Bool.or_false]
  rw [Bool.eq_iff_iff]
  simp only [Bool.or_eq_true, beq_iff_eq, or_assoc]
  constructor
  · rintro (h | h | h | h | h) <;> (subst h; decide)
  · rintro (h | h | h | h | h) <;> (subst h; decide)

theorem doubles_len {x : Str} (h : hasL doubles x = true) : x.length = 2 := by
  rw [hasL_iff] at h
  simp only [doubles, List.mem_cons, List.not_mem_nil, or_false] at h
  rcases h with h | h | h | h | h <;> (subst h; rfl)

def nameK (l : Str) : Int := if isWord l = true then 3 else 1

end Go.Proofs.YtfammopenanapaaDoor
