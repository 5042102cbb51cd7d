/- Small inequalities that the end of a walk asks for. -/
import Derived.Test.YtfammopenanapaaDoorKit
import Derived.BigCall
namespace Go.Proofs.YtfammopenanapaaDoor

@[simp] theorem lt_2 (n : Nat) : n < n + 1 + 1 := by omega
@[simp] theorem lt_3 (n : Nat) : n < n + 1 + 1 + 1 := by omega
@[simp] theorem lt_4 (n : Nat) : n < n + 1 + 1 + 1 + 1 := by omega
@[simp] theorem lt_5 (n : Nat) : n < n + 1 + 1 + 1 + 1 + 1 := by omega
@[simp] theorem lt_6 (n : Nat) : n < n + 1 + 1 + 1 + 1 + 1 + 1 := by omega
end Go.Proofs.YtfammopenanapaaDoor
