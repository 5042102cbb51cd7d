/-
  No cell of these rows narrows 'for every input' (looked for: loops, veiled, ifaces, maps, wideKeys, modest, calm, conditions, laid).
  DERIVED. THE GIVEN ROWS OF THIS SEAT. 12 by the template 'for every input the law returns true; each argument reads behind the call as it read before'; 0 by the template 'total and deterministic' (their statements: YtphicgdllhmgdaaTotals.lean).
  GIVEN WITH THE SEED: the statements are not yours to turn. If you find one false, say at which input.
  Laid BY PROGRAM, IN A SANDBOX (cutbox-rows.mjs): the forced cells as the released guide's own fill.sh prints them over the translation 8026465337213720… (all of the seat's roots in one cut). By AI agents, Wed Nov 11 2026. No macro, syntax, notation, axiom, sorry.
-/
import Derived.Test.YtphicgdllhmgdaaChecked
import GoSem.Claim
import GoSem.ClaimJoined
import GoSem.ClaimMapViews
import Derived.JoinedTies
import Derived.KernelRfl
namespace Go.Proofs.Ytphicgdllhmgdaa
/- THE CELL 'sum', in the pinned program and in every row, IS THE sha256 OF THE DUMP (.gsa) THAT YtphicgdllhmgdaaProg.lean LOADS. Nothing in Lean hashes anything: it is a label: what it is worth is what the hold of that sum in a sandbox is worth. -/
noncomputable def Try.pinned : Pinned := { name := "ytphicgdllhmgdaa", sum := "8026465337213720cd5c8f25ec41061eb60e8f72240304e788d5761efd43f3a6", checked := Try.checked }
namespace Rows
def none {H : Type} : Left H := { results := [], args := [] }

/-- 'sondagelaw01.WideSums': WHATEVER THE INPUT: true; the input reads as it did. -/
def wideSumsSpec : ChangeSpec := { name := "wideSums", fn := fun _ => fun
  | [d1, d2] => { results := [.lit (.bool true)], args := [d1, d2] }
  | _ => none }
def wideSumsRow : OpenClaim := { program := "ytphicgdllhmgdaa", sum := "8026465337213720cd5c8f25ec41061eb60e8f72240304e788d5761efd43f3a6", func := "sondage/sondagelaw01.WideSums", spec := "wideSums", inPlace := ["math/bits.Add64", "math/bits.Sub64"], apart := false }
def WideSumsSaid : Prop := wideSumsRow.holds Try.pinned (OpenSpec.ofChange wideSumsSpec)

/-- ITS FALSE NEIGHBOUR: 'it returns false'. Refute it at one input. -/
def wideSumsWrong : ChangeSpec := { name := "wideSums", fn := fun _ => fun
  | [d1, d2] => { results := [.lit (.bool false)], args := [d1, d2] }
  | _ => none }
def WideSumsWrongFalsely : Prop := wideSumsRow.holds Try.pinned (OpenSpec.ofChange wideSumsWrong)

/-- 'sondagelaw01.WideProducts': WHATEVER THE INPUT: true; the input reads as it did. -/
def wideProductsSpec : ChangeSpec := { name := "wideProducts", fn := fun _ => fun
  | [d1, d2] => { results := [.lit (.bool true)], args := [d1, d2] }
  | _ => none }
def wideProductsRow : OpenClaim := { program := "ytphicgdllhmgdaa", sum := "8026465337213720cd5c8f25ec41061eb60e8f72240304e788d5761efd43f3a6", func := "sondage/sondagelaw01.WideProducts", spec := "wideProducts", apart := false }
def WideProductsSaid : Prop := wideProductsRow.holds Try.pinned (OpenSpec.ofChange wideProductsSpec)

/-- ITS FALSE NEIGHBOUR: 'it returns false'. Refute it at one input. -/
def wideProductsWrong : ChangeSpec := { name := "wideProducts", fn := fun _ => fun
  | [d1, d2] => { results := [.lit (.bool false)], args := [d1, d2] }
  | _ => none }
def WideProductsWrongFalsely : Prop := wideProductsRow.holds Try.pinned (OpenSpec.ofChange wideProductsWrong)

/-- 'sondagelaw01.WideStands': WHATEVER THE INPUT: true; the input reads as it did. -/
def wideStandsSpec : ChangeSpec := { name := "wideStands", fn := fun _ => fun
  | [d1, d2] => { results := [.lit (.bool true)], args := [d1, d2] }
  | _ => none }
def wideStandsRow : OpenClaim := { program := "ytphicgdllhmgdaa", sum := "8026465337213720cd5c8f25ec41061eb60e8f72240304e788d5761efd43f3a6", func := "sondage/sondagelaw01.WideStands", spec := "wideStands", apart := false }
def WideStandsSaid : Prop := wideStandsRow.holds Try.pinned (OpenSpec.ofChange wideStandsSpec)

/-- ITS FALSE NEIGHBOUR: 'it returns false'. Refute it at one input. -/
def wideStandsWrong : ChangeSpec := { name := "wideStands", fn := fun _ => fun
  | [d1, d2] => { results := [.lit (.bool false)], args := [d1, d2] }
  | _ => none }
def WideStandsWrongFalsely : Prop := wideStandsRow.holds Try.pinned (OpenSpec.ofChange wideStandsWrong)

/-- 'sondagelaw01.WideBests': WHATEVER THE INPUT: true; the input reads as it did. -/
def wideBestsSpec : ChangeSpec := { name := "wideBests", fn := fun _ => fun
  | [d1, d2] => { results := [.lit (.bool true)], args := [d1, d2] }
  | _ => none }
def wideBestsRow : OpenClaim := { program := "ytphicgdllhmgdaa", sum := "8026465337213720cd5c8f25ec41061eb60e8f72240304e788d5761efd43f3a6", func := "sondage/sondagelaw01.WideBests", spec := "wideBests", apart := false }
def WideBestsSaid : Prop := wideBestsRow.holds Try.pinned (OpenSpec.ofChange wideBestsSpec)

/-- ITS FALSE NEIGHBOUR: 'it returns false'. Refute it at one input. -/
def wideBestsWrong : ChangeSpec := { name := "wideBests", fn := fun _ => fun
  | [d1, d2] => { results := [.lit (.bool false)], args := [d1, d2] }
  | _ => none }
def WideBestsWrongFalsely : Prop := wideBestsRow.holds Try.pinned (OpenSpec.ofChange wideBestsWrong)

/-- 'sondagelaw01.WideRules': WHATEVER THE INPUT: true; the input reads as it did. -/
def wideRulesSpec : ChangeSpec := { name := "wideRules", fn := fun _ => fun
  | [d1, d2, d3] => { results := [.lit (.bool true)], args := [d1, d2, d3] }
  | _ => none }
def wideRulesRow : OpenClaim := { program := "ytphicgdllhmgdaa", sum := "8026465337213720cd5c8f25ec41061eb60e8f72240304e788d5761efd43f3a6", func := "sondage/sondagelaw01.WideRules", spec := "wideRules", inPlace := ["math/bits.Add64", "math/bits.Sub64"], apart := false }
def WideRulesSaid : Prop := wideRulesRow.holds Try.pinned (OpenSpec.ofChange wideRulesSpec)

/-- ITS FALSE NEIGHBOUR: 'it returns false'. Refute it at one input. -/
def wideRulesWrong : ChangeSpec := { name := "wideRules", fn := fun _ => fun
  | [d1, d2, d3] => { results := [.lit (.bool false)], args := [d1, d2, d3] }
  | _ => none }
def WideRulesWrongFalsely : Prop := wideRulesRow.holds Try.pinned (OpenSpec.ofChange wideRulesWrong)

/-- 'sondagelaw02.WrapDoes': WHATEVER THE INPUT: true; the input reads as it did. -/
def wrapDoesSpec : ChangeSpec := { name := "wrapDoes", fn := fun _ => fun
  | [d1, d2, d3] => { results := [.lit (.bool true)], args := [d1, d2, d3] }
  | _ => none }
def wrapDoesRow : OpenClaim := { program := "ytphicgdllhmgdaa", sum := "8026465337213720cd5c8f25ec41061eb60e8f72240304e788d5761efd43f3a6", func := "sondage/sondagelaw02.WrapDoes", spec := "wrapDoes", inPlace := ["math/bits.Add64", "math/bits.Sub64"], apart := false }
def WrapDoesSaid : Prop := wrapDoesRow.holds Try.pinned (OpenSpec.ofChange wrapDoesSpec)

/-- ITS FALSE NEIGHBOUR: 'it returns false'. Refute it at one input. -/
def wrapDoesWrong : ChangeSpec := { name := "wrapDoes", fn := fun _ => fun
  | [d1, d2, d3] => { results := [.lit (.bool false)], args := [d1, d2, d3] }
  | _ => none }
def WrapDoesWrongFalsely : Prop := wrapDoesRow.holds Try.pinned (OpenSpec.ofChange wrapDoesWrong)

/-- 'sondagelaw02.WrapOnes': WHATEVER THE INPUT: true; the input reads as it did. -/
def wrapOnesSpec : ChangeSpec := { name := "wrapOnes", fn := fun _ => fun
  | [d1, d2] => { results := [.lit (.bool true)], args := [d1, d2] }
  | _ => none }
def wrapOnesRow : OpenClaim := { program := "ytphicgdllhmgdaa", sum := "8026465337213720cd5c8f25ec41061eb60e8f72240304e788d5761efd43f3a6", func := "sondage/sondagelaw02.WrapOnes", spec := "wrapOnes", inPlace := ["math/bits.Sub64", "math/bits.Add64"], apart := false }
def WrapOnesSaid : Prop := wrapOnesRow.holds Try.pinned (OpenSpec.ofChange wrapOnesSpec)

/-- ITS FALSE NEIGHBOUR: 'it returns false'. Refute it at one input. -/
def wrapOnesWrong : ChangeSpec := { name := "wrapOnes", fn := fun _ => fun
  | [d1, d2] => { results := [.lit (.bool false)], args := [d1, d2] }
  | _ => none }
def WrapOnesWrongFalsely : Prop := wrapOnesRow.holds Try.pinned (OpenSpec.ofChange wrapOnesWrong)

/-- 'sondagelaw02.WrapFits': WHATEVER THE INPUT: true; the input reads as it did. -/
def wrapFitsSpec : ChangeSpec := { name := "wrapFits", fn := fun _ => fun
  | [d1, d2, d3] => { results := [.lit (.bool true)], args := [d1, d2, d3] }
  | _ => none }
def wrapFitsRow : OpenClaim := { program := "ytphicgdllhmgdaa", sum := "8026465337213720cd5c8f25ec41061eb60e8f72240304e788d5761efd43f3a6", func := "sondage/sondagelaw02.WrapFits", spec := "wrapFits", inPlace := ["math/bits.Add64", "math/bits.Sub64"], apart := false }
def WrapFitsSaid : Prop := wrapFitsRow.holds Try.pinned (OpenSpec.ofChange wrapFitsSpec)

/-- ITS FALSE NEIGHBOUR: 'it returns false'. Refute it at one input. -/
def wrapFitsWrong : ChangeSpec := { name := "wrapFits", fn := fun _ => fun
  | [d1, d2, d3] => { results := [.lit (.bool false)], args := [d1, d2, d3] }
  | _ => none }
def WrapFitsWrongFalsely : Prop := wrapFitsRow.holds Try.pinned (OpenSpec.ofChange wrapFitsWrong)

/-- 'sondagelaw02.WrapParts': WHATEVER THE INPUT: true; the input reads as it did. -/
def wrapPartsSpec : ChangeSpec := { name := "wrapParts", fn := fun _ => fun
  | [d1, d2] => { results := [.lit (.bool true)], args := [d1, d2] }
  | _ => none }
def wrapPartsRow : OpenClaim := { program := "ytphicgdllhmgdaa", sum := "8026465337213720cd5c8f25ec41061eb60e8f72240304e788d5761efd43f3a6", func := "sondage/sondagelaw02.WrapParts", spec := "wrapParts", inPlace := ["math/bits.Add64", "math/bits.Sub64"], apart := false }
def WrapPartsSaid : Prop := wrapPartsRow.holds Try.pinned (OpenSpec.ofChange wrapPartsSpec)

/-- ITS FALSE NEIGHBOUR: 'it returns false'. Refute it at one input. -/
def wrapPartsWrong : ChangeSpec := { name := "wrapParts", fn := fun _ => fun
  | [d1, d2] => { results := [.lit (.bool false)], args := [d1, d2] }
  | _ => none }
def WrapPartsWrongFalsely : Prop := wrapPartsRow.holds Try.pinned (OpenSpec.ofChange wrapPartsWrong)

/-- 'sondagelaw35.GaugeCounts': WHATEVER THE INPUT: true; the input reads as it did. -/
def gaugeCountsSpec : ChangeSpec := { name := "gaugeCounts", fn := fun _ => fun
  | [d] => { results := [.lit (.bool true)], args := [d] }
  | _ => none }
def gaugeCountsRow : OpenClaim := { program := "ytphicgdllhmgdaa", sum := "8026465337213720cd5c8f25ec41061eb60e8f72240304e788d5761efd43f3a6", func := "sondage/sondagelaw35.GaugeCounts", spec := "gaugeCounts", apart := false }
def GaugeCountsSaid : Prop := gaugeCountsRow.holds Try.pinned (OpenSpec.ofChange gaugeCountsSpec)

/-- ITS FALSE NEIGHBOUR: 'it returns false'. Refute it at one input. -/
def gaugeCountsWrong : ChangeSpec := { name := "gaugeCounts", fn := fun _ => fun
  | [d] => { results := [.lit (.bool false)], args := [d] }
  | _ => none }
def GaugeCountsWrongFalsely : Prop := gaugeCountsRow.holds Try.pinned (OpenSpec.ofChange gaugeCountsWrong)

/-- 'sondagelaw35.GaugeOrder': WHATEVER THE INPUT: true; the input reads as it did. -/
def gaugeOrderSpec : ChangeSpec := { name := "gaugeOrder", fn := fun _ => fun
  | [d1, d2] => { results := [.lit (.bool true)], args := [d1, d2] }
  | _ => none }
def gaugeOrderRow : OpenClaim := { program := "ytphicgdllhmgdaa", sum := "8026465337213720cd5c8f25ec41061eb60e8f72240304e788d5761efd43f3a6", func := "sondage/sondagelaw35.GaugeOrder", spec := "gaugeOrder", apart := false }
def GaugeOrderSaid : Prop := gaugeOrderRow.holds Try.pinned (OpenSpec.ofChange gaugeOrderSpec)

/-- ITS FALSE NEIGHBOUR: 'it returns false'. Refute it at one input. -/
def gaugeOrderWrong : ChangeSpec := { name := "gaugeOrder", fn := fun _ => fun
  | [d1, d2] => { results := [.lit (.bool false)], args := [d1, d2] }
  | _ => none }
def GaugeOrderWrongFalsely : Prop := gaugeOrderRow.holds Try.pinned (OpenSpec.ofChange gaugeOrderWrong)

/-- 'sondagelaw35.GaugeNone': WHATEVER THE INPUT: true; the input reads as it did. -/
def gaugeNoneSpec : ChangeSpec := { name := "gaugeNone", fn := fun _ => fun
  | [d1, d2] => { results := [.lit (.bool true)], args := [d1, d2] }
  | _ => none }
def gaugeNoneRow : OpenClaim := { program := "ytphicgdllhmgdaa", sum := "8026465337213720cd5c8f25ec41061eb60e8f72240304e788d5761efd43f3a6", func := "sondage/sondagelaw35.GaugeNone", spec := "gaugeNone", apart := false }
def GaugeNoneSaid : Prop := gaugeNoneRow.holds Try.pinned (OpenSpec.ofChange gaugeNoneSpec)

/-- ITS FALSE NEIGHBOUR: 'it returns false'. Refute it at one input. -/
def gaugeNoneWrong : ChangeSpec := { name := "gaugeNone", fn := fun _ => fun
  | [d1, d2] => { results := [.lit (.bool false)], args := [d1, d2] }
  | _ => none }
def GaugeNoneWrongFalsely : Prop := gaugeNoneRow.holds Try.pinned (OpenSpec.ofChange gaugeNoneWrong)

/- THE SECOND FORM. 'bulk': how many values and letters a reading holds, each counted each time it is reached (what is shared counts as often as it is met; a slice's spare places count too). A statement '..UptoSaid' is the law's where the arguments, and the package variables that the reading takes, are together of bulk at most 1048576: NARROWER than '..Said'. Prove '..Said' where nothing that the law and all that it calls make is longer than what came in: it says more and counts as full. Else prove '..UptoSaid'. A law counts once. -/
mutual
def uptoBulk {H : Type} : DataW H → Nat
  | .lit (.string bytes) => bytes.length + 1
  | .lit _ => 1
  | .nil => 1
  | .ptr d => uptoBulk d + 1
  | .slice elems spare => uptoBulkAll elems + uptoBulkAll spare + 1
  | .agg parts => uptoBulkAll parts + 1
  | .iface _ d => uptoBulk d + 1
  | .map entries => uptoBulkEntries entries + 1
  | .held _ => 1
def uptoBulkAll {H : Type} : List (DataW H) → Nat
  | [] => 0
  | d :: r => uptoBulk d + uptoBulkAll r
def uptoBulkEntries {H : Type} : List (Lit × DataW H) → Nat
  | [] => 0
  | x :: r => uptoBulkEntry x + uptoBulkEntries r
def uptoBulkEntry {H : Type} : Lit × DataW H → Nat
  | (.string bytes, d) => bytes.length + uptoBulk d + 1
  | (_, d) => uptoBulk d + 1
 end
def uptoSmall : (H : Type) → List (DataW H) → Bool := fun _ ds => decide (uptoBulkAll ds ≤ 1048576)
def OpenSpec.upto (s : _root_.Go.ChangeSpec) : _root_.Go.OpenSpec := { _root_.Go.OpenSpec.ofChange s with cond := some uptoSmall }

/-- 'sondagelaw01.WideSums', WHERE WHAT IT READS IS OF BULK AT MOST 1048576: true; the input reads as it did. -/
def wideSumsUptoRow : OpenClaim := { program := "ytphicgdllhmgdaa", sum := "8026465337213720cd5c8f25ec41061eb60e8f72240304e788d5761efd43f3a6", func := "sondage/sondagelaw01.WideSums", spec := "wideSums", inPlace := ["math/bits.Add64", "math/bits.Sub64"], apart := false, narrowed := true }
def WideSumsUptoSaid : Prop := wideSumsUptoRow.holds Try.pinned (OpenSpec.upto wideSumsSpec)

/-- 'sondagelaw01.WideProducts', WHERE WHAT IT READS IS OF BULK AT MOST 1048576: true; the input reads as it did. -/
def wideProductsUptoRow : OpenClaim := { program := "ytphicgdllhmgdaa", sum := "8026465337213720cd5c8f25ec41061eb60e8f72240304e788d5761efd43f3a6", func := "sondage/sondagelaw01.WideProducts", spec := "wideProducts", apart := false, narrowed := true }
def WideProductsUptoSaid : Prop := wideProductsUptoRow.holds Try.pinned (OpenSpec.upto wideProductsSpec)

/-- 'sondagelaw01.WideStands', WHERE WHAT IT READS IS OF BULK AT MOST 1048576: true; the input reads as it did. -/
def wideStandsUptoRow : OpenClaim := { program := "ytphicgdllhmgdaa", sum := "8026465337213720cd5c8f25ec41061eb60e8f72240304e788d5761efd43f3a6", func := "sondage/sondagelaw01.WideStands", spec := "wideStands", apart := false, narrowed := true }
def WideStandsUptoSaid : Prop := wideStandsUptoRow.holds Try.pinned (OpenSpec.upto wideStandsSpec)

/-- 'sondagelaw01.WideBests', WHERE WHAT IT READS IS OF BULK AT MOST 1048576: true; the input reads as it did. -/
def wideBestsUptoRow : OpenClaim := { program := "ytphicgdllhmgdaa", sum := "8026465337213720cd5c8f25ec41061eb60e8f72240304e788d5761efd43f3a6", func := "sondage/sondagelaw01.WideBests", spec := "wideBests", apart := false, narrowed := true }
def WideBestsUptoSaid : Prop := wideBestsUptoRow.holds Try.pinned (OpenSpec.upto wideBestsSpec)

/-- 'sondagelaw01.WideRules', WHERE WHAT IT READS IS OF BULK AT MOST 1048576: true; the input reads as it did. -/
def wideRulesUptoRow : OpenClaim := { program := "ytphicgdllhmgdaa", sum := "8026465337213720cd5c8f25ec41061eb60e8f72240304e788d5761efd43f3a6", func := "sondage/sondagelaw01.WideRules", spec := "wideRules", inPlace := ["math/bits.Add64", "math/bits.Sub64"], apart := false, narrowed := true }
def WideRulesUptoSaid : Prop := wideRulesUptoRow.holds Try.pinned (OpenSpec.upto wideRulesSpec)

/-- 'sondagelaw02.WrapDoes', WHERE WHAT IT READS IS OF BULK AT MOST 1048576: true; the input reads as it did. -/
def wrapDoesUptoRow : OpenClaim := { program := "ytphicgdllhmgdaa", sum := "8026465337213720cd5c8f25ec41061eb60e8f72240304e788d5761efd43f3a6", func := "sondage/sondagelaw02.WrapDoes", spec := "wrapDoes", inPlace := ["math/bits.Add64", "math/bits.Sub64"], apart := false, narrowed := true }
def WrapDoesUptoSaid : Prop := wrapDoesUptoRow.holds Try.pinned (OpenSpec.upto wrapDoesSpec)

/-- 'sondagelaw02.WrapOnes', WHERE WHAT IT READS IS OF BULK AT MOST 1048576: true; the input reads as it did. -/
def wrapOnesUptoRow : OpenClaim := { program := "ytphicgdllhmgdaa", sum := "8026465337213720cd5c8f25ec41061eb60e8f72240304e788d5761efd43f3a6", func := "sondage/sondagelaw02.WrapOnes", spec := "wrapOnes", inPlace := ["math/bits.Sub64", "math/bits.Add64"], apart := false, narrowed := true }
def WrapOnesUptoSaid : Prop := wrapOnesUptoRow.holds Try.pinned (OpenSpec.upto wrapOnesSpec)

/-- 'sondagelaw02.WrapFits', WHERE WHAT IT READS IS OF BULK AT MOST 1048576: true; the input reads as it did. -/
def wrapFitsUptoRow : OpenClaim := { program := "ytphicgdllhmgdaa", sum := "8026465337213720cd5c8f25ec41061eb60e8f72240304e788d5761efd43f3a6", func := "sondage/sondagelaw02.WrapFits", spec := "wrapFits", inPlace := ["math/bits.Add64", "math/bits.Sub64"], apart := false, narrowed := true }
def WrapFitsUptoSaid : Prop := wrapFitsUptoRow.holds Try.pinned (OpenSpec.upto wrapFitsSpec)

/-- 'sondagelaw02.WrapParts', WHERE WHAT IT READS IS OF BULK AT MOST 1048576: true; the input reads as it did. -/
def wrapPartsUptoRow : OpenClaim := { program := "ytphicgdllhmgdaa", sum := "8026465337213720cd5c8f25ec41061eb60e8f72240304e788d5761efd43f3a6", func := "sondage/sondagelaw02.WrapParts", spec := "wrapParts", inPlace := ["math/bits.Add64", "math/bits.Sub64"], apart := false, narrowed := true }
def WrapPartsUptoSaid : Prop := wrapPartsUptoRow.holds Try.pinned (OpenSpec.upto wrapPartsSpec)

/-- 'sondagelaw35.GaugeCounts', WHERE WHAT IT READS IS OF BULK AT MOST 1048576: true; the input reads as it did. -/
def gaugeCountsUptoRow : OpenClaim := { program := "ytphicgdllhmgdaa", sum := "8026465337213720cd5c8f25ec41061eb60e8f72240304e788d5761efd43f3a6", func := "sondage/sondagelaw35.GaugeCounts", spec := "gaugeCounts", apart := false, narrowed := true }
def GaugeCountsUptoSaid : Prop := gaugeCountsUptoRow.holds Try.pinned (OpenSpec.upto gaugeCountsSpec)

/-- 'sondagelaw35.GaugeOrder', WHERE WHAT IT READS IS OF BULK AT MOST 1048576: true; the input reads as it did. -/
def gaugeOrderUptoRow : OpenClaim := { program := "ytphicgdllhmgdaa", sum := "8026465337213720cd5c8f25ec41061eb60e8f72240304e788d5761efd43f3a6", func := "sondage/sondagelaw35.GaugeOrder", spec := "gaugeOrder", apart := false, narrowed := true }
def GaugeOrderUptoSaid : Prop := gaugeOrderUptoRow.holds Try.pinned (OpenSpec.upto gaugeOrderSpec)

/-- 'sondagelaw35.GaugeNone', WHERE WHAT IT READS IS OF BULK AT MOST 1048576: true; the input reads as it did. -/
def gaugeNoneUptoRow : OpenClaim := { program := "ytphicgdllhmgdaa", sum := "8026465337213720cd5c8f25ec41061eb60e8f72240304e788d5761efd43f3a6", func := "sondage/sondagelaw35.GaugeNone", spec := "gaugeNone", apart := false, narrowed := true }
def GaugeNoneUptoSaid : Prop := gaugeNoneUptoRow.holds Try.pinned (OpenSpec.upto gaugeNoneSpec)

end Rows
end Go.Proofs.Ytphicgdllhmgdaa
