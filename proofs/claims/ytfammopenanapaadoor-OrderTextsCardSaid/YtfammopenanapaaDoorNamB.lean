/- X-PARTIAL Slices of strings that read as lists; looking a string up in one: layer 7. -/
import Derived.Test.YtfammopenanapaaDoorRow
import Derived.Test.YtfammopenanapaaDoorNamA
import Derived.Test.YtfammopenanapaaDoorKit
import Derived.Test.YtfammopenanapaaDoorSeqg
import Derived.Sort.EncStr
import Derived.Sort.Walk0
import Derived.LoopTactic
import Derived.Test.YtfammopenanapaaDoorRows
import Derived.Deep.RegionHeld3
import Derived.StillTactics
import Derived.Laws.Pointers
import Derived.Laws.Strings
import Derived.Laws.Cover1
import Derived.Deep.DeepCutAuto
import Derived.RegionTactic
import Derived.ChangeAlike
import Derived.IntWalk
namespace Go.Proofs.YtfammopenanapaaDoor
open Go.RowKit


/-- A slice of strings. -/
def SRow (w : World) (A : Option Addr) (l : List Str) : Prop := Row w A (l.map encStr)

theorem SRow.cell {w : World} {A : Option Addr} {l : List Str} (h : SRow w A l) {k : Nat} (hk : k < l.length) :
    ∃ b o : Nat, A = some ⟨b, o, none⟩ ∧ w.cell? ⟨b, o + k, none⟩ = some (encStr l[k]) ∧ b < w.heap.size := by
  obtain ⟨b, o, e, h1, h2⟩ := Row.cell h (k := k) (by simpa using hk)
  exact ⟨b, o, e, by have := h1 k (by simpa using hk); simpa using this, h2⟩

theorem SRow.mono {w w' : World} {A : Option Addr} {l : List Str} (h : SRow w A l) (hb : Below w.heap.size w w') : SRow w' A l := Row.mono h hb

def hasL (l : List Str) (x : Str) : Bool := l.any (· == x)

theorem hasL_take (l : List Str) (x : Str) (k : Nat) (h : k < l.length) : hasL (l.take (k + 1)) x = (hasL (l.take k) x || (l[k] == x)) := by
  unfold hasL
  rw [take_snoc' l k h, List.any_append]
  simp

theorem hasL_hit {l : List Str} {x : Str} {k : Nat} (h : k < l.length) (he : (l[k] == x) = true) : hasL l x = true := by
  unfold hasL
  rw [List.any_eq_true]
  exact ⟨l[k], List.getElem_mem h, he⟩

theorem hasL_iff (l : List Str) (x : Str) : hasL l x = true ↔ x ∈ l := by
  unfold hasL
  rw [List.any_eq_true]
  constructor
  · rintro ⟨y, hy, h⟩; rw [beq_iff_eq] at h; subst h; exact hy
  · intro h; exact ⟨x, h, by simp⟩

def LisRel (l : List Str) (x : Str) (i : Value) : Prop := ∃ k : Nat, k ≤ l.length ∧ i = .int .i64 k ∧ hasL (l.take k) x = false

end Go.Proofs.YtfammopenanapaaDoor
