/- Maps whose entries are known: what a look-up, a store, a step of a range comes to. General: over any program. -/
import Derived.MapKept
import Derived.BigCall
import Derived.WideKeyRuns
import Derived.WideMake
import Derived.Laws.StructEq
namespace Go.Proofs.Ytkmpkhbahmehmaa
open Go.RowKit

section
variable {P : Program}
theorem look_hit {w : World} {mt kt et : TypeId} {r clock i : Nat} {es : Array MapEntry} {key v : Value} (ok : Bool) (hm : P.underlying mt = some (.map kt et)) (hb : w.heap[r]? = some (.map es clock))
    (hc : (Instr.checkKey es.isEmpty 10000 kt key).run P w = .ok () w) (hf : (Instr.findKey kt key es.toList).run P w = .ok (some (i, v)) w) :
    (Instr.lookup mt (.map (some r)) key ok).run P w = .ok (if ok then .tuple #[v, .bool true] else v) w := by
  simp [Instr.lookup, run_underlying hm, run_getObj_map w r es clock hb, hc, hf]
theorem look_miss {w : World} {mt kt et : TypeId} {r clock : Nat} {es : Array MapEntry} {key z : Value} (ok : Bool) (hm : P.underlying mt = some (.map kt et)) (hb : w.heap[r]? = some (.map es clock))
    (hc : (Instr.checkKey es.isEmpty 10000 kt key).run P w = .ok () w) (hf : (Instr.findKey kt key es.toList).run P w = .ok none w) (hz : (zeroValue et).run P w = .ok z w) :
    (Instr.lookup mt (.map (some r)) key ok).run P w = .ok (if ok then .tuple #[z, .bool false] else z) w := by
  simp [Instr.lookup, run_underlying hm, run_getObj_map w r es clock hb, hc, hf, hz]
theorem store_new {w : World} {mt kt et : TypeId} {r clock : Nat} {es : Array MapEntry} {key v : Value} (hm : P.underlying mt = some (.map kt et)) (hb : w.heap[r]? = some (.map es clock))
    (hc : (Instr.checkKey false 10000 kt key).run P w = .ok () w) (hf : (Instr.findKey kt key es.toList).run P w = .ok none w) :
    (Instr.mapUpdate mt (.map (some r)) key v).run P w = .ok () { w with heap := w.heap.setIfInBounds r (.map (es.push { key, val := v, born := clock }) (clock + 1)) } := by
  simp [Instr.mapUpdate, run_underlying hm, run_getObj_map w r es clock hb, hc, hf, MapKept.run_setObj_map _ hb]

/-- Keys that are strings. -/
theorem check_str {w : World} {kt : TypeId} {s : ByteArray} (hk : P.underlying kt = some .string) (em : Bool) : (Instr.checkKey em 10000 kt (.string s)).run P w = .ok () w := by
  rw [show (10000 : Nat) = 9999 + 1 from rfl]
  unfold Instr.checkKey
  simp [run_underlying hk]
theorem find_str_hit {w : World} {kt : TypeId} {s : ByteArray} {v : Value} {n : Nat} (hk : P.underlying kt = some .string) : (Instr.findKey kt (.string s) [{ key := .string s, val := v, born := n }]).run P w = .ok (some (0, v)) w := by
  have hs : (s == s) = true := (MapKept.bytes_beq s s).2 rfl
  simp [hs, Instr.findKey, run_underlying hk, Instr.findNow, Instr.sameNow]
theorem find_none {w : World} {kt : TypeId} {d : TypeDesc} {key : Value} (hk : P.underlying kt = some d) : (Instr.findKey kt key []).run P w = .ok none w := by
  simp [Instr.findKey, run_underlying hk, Instr.findNow]
end
end Go.Proofs.Ytkmpkhbahmehmaa
