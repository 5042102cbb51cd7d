/- X-PARTIAL Texts and slices of bytes: layers 10, 37. -/
import Derived.Test.YtfammopenanapaaDoorRow
import Derived.Test.YtfammopenanapaaDoorSeqg
import Derived.Test.YtfammopenanapaaDoorRows
import Derived.Test.YtfammopenanapaaDoorKeyB
import Derived.Laws.BytesArg
import Derived.Lib.Bytealg
import Derived.Maps.AppendAt
import Derived.Lib.ConvBytes
import Derived.Lib.AtoiErrMem
namespace Go.Proofs.YtfammopenanapaaDoor
open Go.RowKit Go.Lib

/-- A slice of bytes that reads as a text. -/
def BRow (w : World) (A : Option Addr) (l : Str) : Prop := Row w A (l.map fun c => Value.int .u8 c.toNat)
theorem BRow.mono {w w' : World} {A : Option Addr} {l : Str} (h : BRow w A l) (hb : Below w.heap.size w w') : BRow w' A l := Row.mono h hb
theorem nums_bytes (l : Str) : strOfNums (l.map fun c => (c.toNat : Int)) = ⟨l.toArray⟩ := by
  unfold strOfNums
  rw [List.map_map]
  have : ((fun n : Int => UInt8.ofNat n.toNat) ∘ fun c : UInt8 => (c.toNat : Int)) = id := by funext c; simp
  rw [this, List.map_id]
theorem conv_bytes {w : World} {A : Option Addr} {l : Str} (h : BRow w A l) (c : Nat) :
    (convert 22 9 (.slice A l.length c)).run Tryd.prog w = .ok (encStr l) w := by
  cases A with
  | none =>
    have : l = [] := by
      have h' : (l.map fun c => Value.int .u8 c.toNat) = [] := h
      simpa using h'
    subst this
    exact run_convert_bytes_nil w 22 5 Tryd.underlying22 Tryd.underlying5 0 c 9 Tryd.underlying9
  | some a =>
    by_cases hl : l = []
    · subst hl
      have e : (loadCells a 0).run Tryd.prog w = .ok (([] : List Int).map (Value.int .u8)).toArray w := by
        simpa using run_loadCells_list (P := Tryd.prog) w a [] (by simp)
      show (convert 22 9 (.slice (some a) 0 c)).run Tryd.prog w = _
      rw [run_convert_bytes_string w 22 9 5 (some a) 0 c Tryd.underlying22 Tryd.underlying5 Tryd.underlying9, run_bytesToString w a 0 c [] e]
      rfl
    · have hpos : 0 < l.length := List.length_pos_iff.2 hl
      obtain ⟨b, o, e, h1, -⟩ := Row.cell h (k := 0) (by simpa using hpos)
      cases e
      have hx := run_convert_bytes_arg w 22 5 Tryd.underlying22 Tryd.underlying5 b o l.length c (l.map fun c => (c.toNat : Int)) (by simp) (fun i hi => by
        rw [h1 i (by simpa using hi), List.getD_eq_getElem?_getD, List.getElem?_map, List.getElem?_eq_getElem hi, List.getElem_map]
        rfl) 9 Tryd.underlying9
      rw [hx, nums_bytes]
theorem conv_text (x : Str) (w : World) : ∃ (c : Nat) (W : World), (convert 9 22 (encStr x)).run Tryd.prog w = .ok (.slice (some ⟨w.heap.size, 0, none⟩) x.length c) W ∧ BRow W (some ⟨w.heap.size, 0, none⟩) x ∧ Below w.heap.size w W := by
  have h := Lib.run_convert_string_bytes (P := Tryd.prog) w 9 22 5 ⟨x.toArray⟩ Tryd.underlying9 Tryd.underlying22 Tryd.underlying5
  rw [mk_size] at h
  refine ⟨_, _, h, fun i hi => ?_, Lib.bytesWorld_below _ _ _⟩
  rw [List.length_map] at hi
  have ea : (⟨w.heap.size, 0, none⟩ : Addr).add i = ⟨w.heap.size, i, none⟩ := by
    unfold Addr.add
    split
    · simp_all
    · simp
  rw [ea, Lib.bytesWorld_cell _ _ _ _ (by rw [mk_size]; exact hi)]
  show some (Value.int .u8 ((x.getD i 0).toNat : Int)) = _
  rw [List.getD_eq_getElem?_getD, List.getElem?_eq_getElem hi, Option.getD_some, List.getElem_map]

end Go.Proofs.YtfammopenanapaaDoor
