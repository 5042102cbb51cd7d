/- A map of one entry, gone through. General: over any program. -/
import Derived.Test.YtpjocnnmienfpaaMapK
import Derived.RangeFuncRecord
import Derived.Maps.RangeRun
import Derived.Laws.NewFold
namespace Go.Proofs.Ytpjocnnmienfpaa
open Go.RowKit

section
variable {P : Program}
theorem range_one {w : World} {mt kt et : TypeId} {r clock : Nat} {es : Array MapEntry} (hm : P.underlying mt = some (.map kt et)) (hb : w.heap[r]? = some (.map es clock)) :
    (Instr.range mt (.map (some r))).run P w = .ok (.pointer (some ⟨w.heap.size, 0, none⟩)) (w.alloc (.mapIter (some r) clock #[] clock)) := by
  simp [Instr.range, run_underlying hm, run_getObj_map w r es clock hb]
theorem run_getObj_iter {w : World} {r : Nat} {m : Option Nat} {s c : Nat} {seen : Array Nat} (hb : w.heap[r]? = some (.mapIter m s seen c)) : (getObj r).run P w = .ok (.mapIter m s seen c) w := by
  simp [getObj, Sem.run, hb]
theorem next_one {w : World} {it m : Nat} {k v : Value} (hi : w.heap[it]? = some (.mapIter (some m) 1 #[] 1)) (hb : w.heap[m]? = some (.map #[{ key := k, val := v, born := 0 }] 1)) (ty : TypeId) :
    (Instr.next (.pointer (some ⟨it, 0, none⟩)) false ty).run P w = .ok (.tuple #[.bool true, k, v]) (w.putObj it (.mapIter (some m) 1 #[0] 1)) := by
  have hs := run_setObj_at (P := P) hi (.mapIter (some m) 1 #[0] 1)
  simp [Instr.next, run_getObj_iter hi, run_getObj_map w m _ _ hb, hs, Question.forced]
  rfl
theorem next_over {w : World} {it m : Nat} {k v : Value} (hi : w.heap[it]? = some (.mapIter (some m) 1 #[0] 1)) (hb : w.heap[m]? = some (.map #[{ key := k, val := v, born := 0 }] 1)) (ty : TypeId) :
    (Instr.next (.pointer (some ⟨it, 0, none⟩)) false ty).run P w = .ok (.tuple #[.bool false]) w := by
  simp [Instr.next, run_getObj_iter hi, run_getObj_map w m _ _ hb, Question.forced]
theorem entry_one {w : World} {it m : Nat} {k v : Value} (hi : w.heap[it]? = some (.mapIter (some m) 1 #[0] 1)) (hb : w.heap[m]? = some (.map #[{ key := k, val := v, born := 0 }] 1)) :
    (Instr.entry (.pointer (some ⟨it, 0, none⟩))).run P w = .ok (.tuple #[k, v]) w := by
  simp [Instr.entry, run_getObj_iter hi, run_getObj_map w m _ _ hb]
end
end Go.Proofs.Ytpjocnnmienfpaa
