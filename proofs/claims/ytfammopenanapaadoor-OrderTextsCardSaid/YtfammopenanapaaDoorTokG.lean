/- X-PARTIAL Numbers of texts, walked: layer 10. -/
import Derived.Test.YtfammopenanapaaDoorTokE
import Derived.Test.YtfammopenanapaaDoorTokF
namespace Go.Proofs.YtfammopenanapaaDoor
open Go.RowKit Go.Lib

def NumRel (d : Str) (v i : Value) : Prop := ∃ k : Nat, k ≤ d.length ∧ i = .int .i64 k ∧ v = .int .u64 (numV 0 (d.take k))

theorem numV_next {d : Str} {k : Nat} (h : k < d.length) : numV 0 (d.take (k + 1)) = numV 0 (d.take k) * 10 + (d[k].toNat - 48) := by
  rw [List.take_succ_eq_append_getElem h, numV_snoc]

end Go.Proofs.YtfammopenanapaaDoor
