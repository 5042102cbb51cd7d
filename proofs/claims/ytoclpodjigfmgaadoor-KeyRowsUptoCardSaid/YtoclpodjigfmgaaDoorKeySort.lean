/- X-PARTIAL slices.SortFunc over keys, laid at this program. -/
import Derived.Test.YtoclpodjigfmgaaDoorRows
import Derived.Test.YtoclpodjigfmgaaDoorKeyH
import Derived.Shelf.SlSortCmp.WholeK
import Derived.Shelf.SlGeneric
import Derived.Laws.OwnMore
namespace Go.Proofs.YtoclpodjigfmgaaDoor
open Go.Shelf Go.RowKit Go.Lib Go.Sort
def Tryd.sortK_ren : Go.Shelf.Ren := ⟨fun | 6 => 31 | 15 => 48 | 14 => 47 | 28 => 67 | 29 => 68 | 20 => 59 | 21 => 60 | 22 => 61 | 23 => 62 | 24 => 63 | 25 => 64 | 26 => 65 | 27 => 66 | 46 => 78 | 47 => 79 | 48 => 80 | 49 => 81 | 50 => 82 | 57 => 95 | n => n, fun | 22 => 22 | 24 => 24 | 25 => 34 | 3 => 3 | 39 => 66 | 0 => 0 | 53 => 83 | 55 => 85 | 4 => 4 | 46 => 76 | 45 => 75 | 50 => 80 | 5 => 5 | 9 => 9 | 66 => 94 | 70 => 98 | 76 => 113 | 77 => 60 | n => n, fun | n => n⟩
theorem Tryd.sortK : Go.Proofs.SlLaysF0.n6 Tryd.prog Tryd.sortK_ren := {
  mixed := by kernel_rfl
  f6 := ⟨Tryd.f31.name, by decide, Tryd.func31.trans (congrArg some (by kernel_rfl))⟩
  f14 := ⟨Tryd.f47.name, by decide, Tryd.func47.trans (congrArg some (by kernel_rfl))⟩
  f15 := Tryd.func48.trans (congrArg some (by kernel_rfl))
  f20 := ⟨Tryd.f59.name, by decide, Tryd.func59.trans (congrArg some (by kernel_rfl))⟩
  f21 := ⟨Tryd.f60.name, by decide, Tryd.func60.trans (congrArg some (by kernel_rfl))⟩
  f22 := ⟨Tryd.f61.name, by decide, Tryd.func61.trans (congrArg some (by kernel_rfl))⟩
  f23 := ⟨Tryd.f62.name, by decide, Tryd.func62.trans (congrArg some (by kernel_rfl))⟩
  f24 := ⟨Tryd.f63.name, by decide, Tryd.func63.trans (congrArg some (by kernel_rfl))⟩
  f25 := ⟨Tryd.f64.name, by decide, Tryd.func64.trans (congrArg some (by kernel_rfl))⟩
  f26 := ⟨Tryd.f65.name, by decide, Tryd.func65.trans (congrArg some (by kernel_rfl))⟩
  f27 := ⟨Tryd.f66.name, by decide, Tryd.func66.trans (congrArg some (by kernel_rfl))⟩
  f28 := Tryd.func67.trans (congrArg some (by kernel_rfl))
  f29 := Tryd.func68.trans (congrArg some (by kernel_rfl))
  f46 := ⟨Tryd.f78.name, by decide, Tryd.func78.trans (congrArg some (by kernel_rfl))⟩
  f47 := Tryd.func79.trans (congrArg some (by kernel_rfl))
  f48 := Tryd.func80.trans (congrArg some (by kernel_rfl))
  f49 := ⟨Tryd.f81.name, by decide, Tryd.func81.trans (congrArg some (by kernel_rfl))⟩
  f50 := ⟨Tryd.f82.name, by decide, Tryd.func82.trans (congrArg some (by kernel_rfl))⟩
  f57 := ⟨Tryd.f95.name, by decide, Tryd.func95.trans (congrArg some (by kernel_rfl))⟩
  t0 := Tryd.underlying0
  a0 := Tryd.isAgg0
  z0 := Tryd.sizeOf0
  v0 := Tryd.zeroValue0
  t3 := Tryd.underlying3
  a3 := Tryd.isAgg3
  z3 := Tryd.sizeOf3
  v3 := Tryd.zeroValue3
  t4 := Tryd.underlying4
  a4 := Tryd.isAgg4
  z4 := Tryd.sizeOf4
  v4 := Tryd.zeroValue4
  t5 := Tryd.underlying5
  a5 := Tryd.isAgg5
  z5 := Tryd.sizeOf5
  v5 := Tryd.zeroValue5
  t9 := Tryd.underlying9
  a9 := Tryd.isAgg9
  z9 := Tryd.sizeOf9
  v9 := Tryd.zeroValue9
  t22 := Tryd.underlying22
  a22 := Tryd.isAgg22
  z22 := Tryd.sizeOf22
  v22 := Tryd.zeroValue22
  t25 := Tryd.underlying34
  a25 := Tryd.isAgg34
  z25 := Tryd.sizeOf34
  v25 := Tryd.zeroValue34
  t39 := Tryd.underlying66
  a39 := Tryd.isAgg66
  z39 := Tryd.sizeOf66
  v39 := Tryd.zeroValue66
  t45 := Tryd.underlying75
  a45 := Tryd.isAgg75
  z45 := Tryd.sizeOf75
  v45 := Tryd.zeroValue75
  t46 := Tryd.underlying76
  a46 := Tryd.isAgg76
  z46 := Tryd.sizeOf76
  v46 := Tryd.zeroValue76
  t50 := Tryd.underlying80
  a50 := Tryd.isAgg80
  z50 := Tryd.sizeOf80
  v50 := Tryd.zeroValue80
  t53 := Tryd.underlying83
  a53 := Tryd.isAgg83
  z53 := Tryd.sizeOf83
  v53 := Tryd.zeroValue83
  t55 := Tryd.underlying85
  a55 := Tryd.isAgg85
  z55 := Tryd.sizeOf85
  v55 := Tryd.zeroValue85
  t66 := Tryd.underlying94
  a66 := Tryd.isAgg94
  z66 := Tryd.sizeOf94
  v66 := Tryd.zeroValue94
  t70 := Tryd.underlying98
  a70 := Tryd.isAgg98
  z70 := Tryd.sizeOf98
  v70 := Tryd.zeroValue98
  t76 := Tryd.underlying113
  a76 := Tryd.isAgg113
  z76 := Tryd.sizeOf113
  v76 := Tryd.zeroValue113
  t77 := Tryd.underlying60
  a77 := Tryd.isAgg60
  z77 := Tryd.sizeOf60
  v77 := Tryd.zeroValue60 }

def kcells : List Ky → List Value
  | [] => []
  | k :: l => encStr k.n :: .int .i64 k.d :: kcells l
theorem kcells_append (l m : List Ky) : kcells (l ++ m) = kcells l ++ kcells m := by
  induction l with
  | nil => rfl
  | cons x l ih => show _ :: _ :: kcells (l ++ m) = _; rw [ih]; rfl
theorem kcells_len : ∀ l : List Ky, (kcells l).length = l.length * 2
  | [] => rfl
  | x :: l => by
    have := kcells_len l
    show (kcells l).length + 1 + 1 = (l.length + 1) * 2
    omega
theorem kcells_get : ∀ (l : List Ky) (i : Nat) (h : i < l.length), (kcells l)[i * 2]? = some (encStr l[i].n) ∧ (kcells l)[i * 2 + 1]? = some (.int .i64 l[i].d)
  | x :: l, 0, _ => ⟨rfl, rfl⟩
  | x :: l, i + 1, h => by
    have := kcells_get l i (by simpa using h)
    rw [show (i + 1) * 2 = i * 2 + 1 + 1 by omega]
    exact this
instance : Inhabited Ky := ⟨⟨[], 0⟩⟩
def encK (k : Ky) : List Value := [encStr k.n, .int .i64 k.d]
theorem flat_kcells (l : List Ky) : (flatK encK 2 l.toArray).toList = kcells l := by
  apply List.ext_getElem?
  intro t
  by_cases ht : t < l.length * 2
  · have hq : t / 2 < l.length := by omega
    obtain ⟨g0, g1⟩ := kcells_get l (t / 2) hq
    have e : (flatK encK 2 l.toArray).toList[t]? = some ((encK l[t / 2])[t % 2]!) := by
      rw [Array.getElem?_toList, Array.getElem?_eq_getElem (by simpa using ht)]
      congr 1
      have := get_flatK encK 2 l.toArray t (by simpa using ht)
      rw [getElem!_pos _ t (by simpa using ht)] at this
      rw [this]
      simp [hq]
    rw [e]
    rcases Nat.mod_two_eq_zero_or_one t with h | h
    · rw [h]; rw [show t / 2 * 2 = t by omega] at g0; rw [g0]; rfl
    · rw [h]; rw [show t / 2 * 2 + 1 = t by omega] at g1; rw [g1]; rfl
  · rw [List.getElem?_eq_none (by simp; omega), List.getElem?_eq_none (by rw [kcells_len]; omega)]

theorem grownBy_putF {w : World} {g n : Nat} {os : Array Obj} (d : Array Value) : w.grownBy (grow (putRow id (Sort.ahead w n) g 0 d) os) (some g) := by
  refine ⟨rfl, rfl, rfl, by simp, fun k hk hne => ?_⟩
  rw [heap_grow_old _ _ (by simpa using hk)]
  have : g ≠ k := fun e => hne (by rw [e])
  simp [putRow, mapBlock, Sort.ahead, Array.getElem?_modify, this]
theorem heap_putF {w : World} {g n : Nat} {os : Array Obj} {cur : Array Value} {e : TypeId} {fr : Nat × Nat} (d : Array Value) (hb : w.heap[g]? = some (.cells cur e fr)) :
    (grow (putRow id (Sort.ahead w n) g 0 d) os).heap[g]? = some (.cells (putCells id 0 d cur) e fr) := by
  have hg : g < w.heap.size := (Array.getElem?_eq_some_iff.1 hb).1
  rw [heap_grow_old _ _ (by simpa using hg)]
  simp [putRow, mapBlock, Sort.ahead, Array.getElem?_modify, hb, onCells]
theorem take_putF (cur : Array Value) (ts : Array Value) (h : ts.size ≤ cur.size) : (putCells id 0 ts cur).toList.take ts.size = ts.toList := by
  apply List.ext_getElem?
  intro j
  by_cases hj : j < ts.size
  · rw [List.getElem?_take_of_lt hj, Array.getElem?_toList, Array.getElem?_toList]
    simp [putCells, hj, show j < cur.size by omega]
  · rw [List.getElem?_take_eq_none (by omega), List.getElem?_eq_none (by simp; omega)]

theorem cmp_lays (blk off size : Nat) (w : World) : CmpLays Tryd.prog 20 #[] encK 2 Ky.cmp blk off size w :=
  fun _ _ _ _ x y => key_CmpG x y _

set_option maxHeartbeats 1000000 in
/-- The row behind the sort. -/
theorem key_sort (l : List Ky) (g cap base : Nat) (w : World) (hown : w.ownsRow base 24 2 (.slice (some ⟨g, 0, none⟩) l.length cap) l.length (kcells l)) (hm : l.length ≤ 140737488355328) :
    Calls Tryd.prog 31 #[.slice (some ⟨g, 0, none⟩) l.length cap, .func (.func 20) #[] #[]] w fun e w' => e = .returned (.tuple #[]) ∧
      ∃ l' : List Ky, l'.Perm l ∧ l'.Pairwise (fun a b => b.cl.less a.cl = false) ∧ w'.ownsRow base 24 2 (.slice (some ⟨g, 0, none⟩) l.length cap) l.length (kcells l') ∧ w.grownBy w' (some g) := by
  have hblk : g < w.heap.size := (hown.lt g rfl).2
  have hH : HoldsK encK 2 w g 0 l.toArray := by
    intro j hj
    have hj2 : j < l.length * 2 := by simpa using hj
    rw [Nat.zero_add, hown.cellAt j hj2]
    refine ⟨?_, hown.frozenAt j⟩
    rw [← flat_kcells, Array.getElem?_toList, Array.getElem?_eq_getElem (by simpa using hj2), getElem!_pos _ j (by simpa using hj2)]
    rfl
  have h := AnyQ.slices_SortFunc Tryd.sortK 2 Tryd.isAgg24 Tryd.sizeOf24 encK (fun _ => rfl) (fun x v hv => by simp [encK] at hv; rcases hv with rfl | rfl <;> rfl) Ky.cmp swo_key 20 #[] g 0 cap l.toArray w (enters_of Tryd.func20 (by kernel_rfl) rfl) (cmp_lays g 0 _ w) hH hblk (by simp; omega)
  refine Calls.mono (show Calls Tryd.prog 31 #[.slice (some ⟨g, 0, none⟩) l.toArray.size cap, .func (.func 20) #[] #[]] w _ from h) ?_
  rintro e w' ⟨rfl, d', n, os, hp, hs, rfl⟩
  obtain ⟨hsz, -, hperm⟩ := hp
  have hdl : d'.size = l.length := by simpa using hsz
  have e1 : (d'.extract 0 l.toArray.size) = d' := by rw [← hsz]; exact Array.extract_size
  rw [e1] at hperm
  have e2 : (l.toArray.extract 0 l.toArray.size) = l.toArray := Array.extract_size
  rw [e2] at hperm
  refine ⟨rfl, d'.toList, by simpa using hperm, ?_, ?_, grownBy_putF _⟩
  · rw [List.pairwise_iff_getElem]
    intro i j hi hj hij
    have hj' : j < d'.size := by simpa using hj
    have hi' : i < d'.size := by simpa using hi
    have := hs i j (Nat.zero_le _) hij (by rw [← hsz]; exact hj')
    rw [ltOf_key, getElem!_pos _ j hj', getElem!_pos _ i hi'] at this
    simpa using this
  · have hk : kcells d'.toList = (flatK encK 2 d').toList := by rw [← flat_kcells]
    rcases hown.2 with ⟨h0, _⟩ | ⟨g', cap', cur, hv, hb, hg, h1, h2, h3, h4⟩
    · cases h0
    · cases hv
      refine ⟨by rw [kcells_len]; simp [hdl], .inr ⟨g, cap, _, rfl, hb, heap_putF _ hg, h1, h2, by simp [putCells, h3], ?_⟩⟩
      rw [hk, ← take_putF cur (flatK encK 2 d') (by rw [size_flatK, h3, hdl]; omega), size_flatK, hdl]
end Go.Proofs.YtoclpodjigfmgaaDoor
