/-
  No cell of these rows narrows 'for every input' (looked for: loops, veiled, ifaces, maps, wideKeys, modest, calm, conditions, laid).
  DERIVED. THE GIVEN ROWS OF THIS SEAT. 2 by the template 'for every input the law returns true; each argument reads behind the call as it read before'; 0 by the template 'total and deterministic' (their statements: YtdpnphnafidpiaaTotals.lean).
  GIVEN WITH THE SEED: the statements are not yours to turn. If you find one false, say at which input.
  Laid BY PROGRAM, IN A SANDBOX (cutbox-rows.mjs): the forced cells as the released guide's own fill.sh prints them over the translation aaf944270b28e28d… (all of the seat's roots in one cut). By AI agents, Wed Nov 11 2026. No macro, syntax, notation, axiom, sorry.
-/
import Derived.Test.YtdpnphnafidpiaaChecked
import GoSem.Claim
import GoSem.ClaimJoined
import GoSem.ClaimMapViews
import Derived.JoinedTies
import Derived.KernelRfl
namespace Go.Proofs.Ytdpnphnafidpiaa
/- THE CELL 'sum', in the pinned program and in every row, IS THE sha256 OF THE DUMP (.gsa) THAT YtdpnphnafidpiaaProg.lean LOADS. Nothing in Lean hashes anything: it is a label: what it is worth is what the hold of that sum in a sandbox is worth. -/
noncomputable def Try.pinned : Pinned := { name := "ytdpnphnafidpiaa", sum := "aaf944270b28e28d9057fa703fedb56a52af5876b08f97836347f226dd12a2f6", checked := Try.checked }
namespace Rows
def none {H : Type} : Left H := { results := [], args := [] }

/-- 'sondagelaw08.ValueReduces': WHATEVER THE INPUT: true; the input reads as it did. -/
def valueReducesSpec : ChangeSpec := { name := "valueReduces", fn := fun _ => fun
  | [d1, d2] => { results := [.lit (.bool true)], args := [d1, d2] }
  | _ => none }
def valueReducesRow : OpenClaim := { program := "ytdpnphnafidpiaa", sum := "aaf944270b28e28d9057fa703fedb56a52af5876b08f97836347f226dd12a2f6", func := "sondage/sondagelaw08.ValueReduces", spec := "valueReduces", inPlace := ["internal/reflectlite.ValueOf", "internal/reflectlite.Swapper", "(internal/reflectlite.Value).Len"], unfollowed := true, recurses := true, apart := false }
def ValueReducesSaid : Prop := valueReducesRow.holds Try.pinned (OpenSpec.ofChange valueReducesSpec)

/-- ITS FALSE NEIGHBOUR: 'it returns false'. Refute it at one input. -/
def valueReducesWrong : ChangeSpec := { name := "valueReduces", fn := fun _ => fun
  | [d1, d2] => { results := [.lit (.bool false)], args := [d1, d2] }
  | _ => none }
def ValueReducesWrongFalsely : Prop := valueReducesRow.holds Try.pinned (OpenSpec.ofChange valueReducesWrong)

/-- 'sondagelaw08.ValueClimbs': WHATEVER THE INPUT: true; the input reads as it did. -/
def valueClimbsSpec : ChangeSpec := { name := "valueClimbs", fn := fun _ => fun
  | [d1, d2] => { results := [.lit (.bool true)], args := [d1, d2] }
  | _ => none }
def valueClimbsRow : OpenClaim := { program := "ytdpnphnafidpiaa", sum := "aaf944270b28e28d9057fa703fedb56a52af5876b08f97836347f226dd12a2f6", func := "sondage/sondagelaw08.ValueClimbs", spec := "valueClimbs", inPlace := ["internal/reflectlite.ValueOf", "internal/reflectlite.Swapper", "(internal/reflectlite.Value).Len", "math/bits.Sub64"], unfollowed := true, recurses := true, apart := false }
def ValueClimbsSaid : Prop := valueClimbsRow.holds Try.pinned (OpenSpec.ofChange valueClimbsSpec)

/-- ITS FALSE NEIGHBOUR: 'it returns false'. Refute it at one input. -/
def valueClimbsWrong : ChangeSpec := { name := "valueClimbs", fn := fun _ => fun
  | [d1, d2] => { results := [.lit (.bool false)], args := [d1, d2] }
  | _ => none }
def ValueClimbsWrongFalsely : Prop := valueClimbsRow.holds Try.pinned (OpenSpec.ofChange valueClimbsWrong)

/- THE SECOND FORM. 'bulk': how many values and letters a reading holds, each counted each time it is reached (what is shared counts as often as it is met; a slice's spare places count too). A statement '..UptoSaid' is the law's where the arguments, and the package variables that the reading takes, are together of bulk at most 1048576: NARROWER than '..Said'. Prove '..Said' where nothing that the law and all that it calls make is longer than what came in: it says more and counts as full. Else prove '..UptoSaid'. A law counts once. -/
mutual
def uptoBulk {H : Type} : DataW H → Nat
  | .lit (.string bytes) => bytes.length + 1
  | .lit _ => 1
  | .nil => 1
  | .ptr d => uptoBulk d + 1
  | .slice elems spare => uptoBulkAll elems + uptoBulkAll spare + 1
  | .agg parts => uptoBulkAll parts + 1
  | .iface _ d => uptoBulk d + 1
  | .map entries => uptoBulkEntries entries + 1
  | .held _ => 1
def uptoBulkAll {H : Type} : List (DataW H) → Nat
  | [] => 0
  | d :: r => uptoBulk d + uptoBulkAll r
def uptoBulkEntries {H : Type} : List (Lit × DataW H) → Nat
  | [] => 0
  | x :: r => uptoBulkEntry x + uptoBulkEntries r
def uptoBulkEntry {H : Type} : Lit × DataW H → Nat
  | (.string bytes, d) => bytes.length + uptoBulk d + 1
  | (_, d) => uptoBulk d + 1
 end
def uptoSmall : (H : Type) → List (DataW H) → Bool := fun _ ds => decide (uptoBulkAll ds ≤ 1048576)
def OpenSpec.upto (s : _root_.Go.ChangeSpec) : _root_.Go.OpenSpec := { _root_.Go.OpenSpec.ofChange s with cond := some uptoSmall }

/-- 'sondagelaw08.ValueReduces', WHERE WHAT IT READS IS OF BULK AT MOST 1048576: true; the input reads as it did. -/
def valueReducesUptoRow : OpenClaim := { program := "ytdpnphnafidpiaa", sum := "aaf944270b28e28d9057fa703fedb56a52af5876b08f97836347f226dd12a2f6", func := "sondage/sondagelaw08.ValueReduces", spec := "valueReduces", inPlace := ["internal/reflectlite.ValueOf", "internal/reflectlite.Swapper", "(internal/reflectlite.Value).Len"], unfollowed := true, recurses := true, apart := false, narrowed := true }
def ValueReducesUptoSaid : Prop := valueReducesUptoRow.holds Try.pinned (OpenSpec.upto valueReducesSpec)

/-- 'sondagelaw08.ValueClimbs', WHERE WHAT IT READS IS OF BULK AT MOST 1048576: true; the input reads as it did. -/
def valueClimbsUptoRow : OpenClaim := { program := "ytdpnphnafidpiaa", sum := "aaf944270b28e28d9057fa703fedb56a52af5876b08f97836347f226dd12a2f6", func := "sondage/sondagelaw08.ValueClimbs", spec := "valueClimbs", inPlace := ["internal/reflectlite.ValueOf", "internal/reflectlite.Swapper", "(internal/reflectlite.Value).Len", "math/bits.Sub64"], unfollowed := true, recurses := true, apart := false, narrowed := true }
def ValueClimbsUptoSaid : Prop := valueClimbsUptoRow.holds Try.pinned (OpenSpec.upto valueClimbsSpec)

end Rows
end Go.Proofs.Ytdpnphnafidpiaa
