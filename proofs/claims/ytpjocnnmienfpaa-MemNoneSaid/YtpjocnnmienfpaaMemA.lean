/- X-PARTIAL A memory of one array of two places: layer 19. -/
import Derived.Test.YtpjocnnmienfpaaRows
import Derived.Test.YtpjocnnmienfpaaMapK
import Derived.Test.YtpjocnnmienfpaaKit
namespace Go.Proofs.Ytpjocnnmienfpaa
open Go.RowKit Go.Lib

theorem check_cell (em : Bool) (s : ByteArray) (i : Int) (w : World) : (Instr.checkKey em 10000 23 (.agg #[.string s, .int .i64 i])).run Try.prog w = .ok () w := by
  have c0 : (Instr.checkKey em 9999 9 (.string s)).run Try.prog w = .ok () w := by
    rw [show (9999 : Nat) = 9998 + 1 from rfl]; unfold Instr.checkKey; simp [run_underlying Try.underlying9]
  have c1 : (Instr.checkKey em 9999 3 (.int .i64 i)).run Try.prog w = .ok () w := by
    rw [show (9999 : Nat) = 9998 + 1 from rfl]; unfold Instr.checkKey; simp [run_underlying Try.underlying3]
  rw [show (10000 : Nat) = 9999 + 1 from rfl]
  unfold Instr.checkKey
  simp [run_underlying Try.underlying23, go_sem, c0, c1]
theorem find_cell_hit (s : ByteArray) (i : Int) (v : Value) (n : Nat) (w : World) : (Instr.findKey 23 (.agg #[.string s, .int .i64 i]) [{ key := .agg #[.string s, .int .i64 i], val := v, born := n }]).run Try.prog w = .ok (some (0, v)) w := by
  refine (run_findKey_eq (P := Try.prog) (k := 23) w (by rw [Try.underlying23]) _ _).trans ?_
  simp [Instr.findAsking, Op.equal, Op.maxDepth, go_sem]
theorem find_cell_miss (s : ByteArray) (i j : Int) (h : (i == j) = false) (v : Value) (n : Nat) (w : World) : (Instr.findKey 23 (.agg #[.string s, .int .i64 i]) [{ key := .agg #[.string s, .int .i64 j], val := v, born := n }]).run Try.prog w = .ok none w := by
  refine (run_findKey_eq (P := Try.prog) (k := 23) w (by rw [Try.underlying23]) _ _).trans ?_
  simp [Instr.findAsking, Op.equal, Op.maxDepth, go_sem, h]
end Go.Proofs.Ytpjocnnmienfpaa
