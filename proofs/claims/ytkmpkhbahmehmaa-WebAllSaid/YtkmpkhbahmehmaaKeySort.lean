/- X-PARTIAL slices.SortFunc over keys, laid at this program. -/
import Derived.Test.YtkmpkhbahmehmaaRows
import Derived.Test.YtkmpkhbahmehmaaKeyH
import Derived.Shelf.SlSortCmp.WholeK
import Derived.Shelf.SlGeneric
import Derived.Laws.OwnMore
namespace Go.Proofs.Ytkmpkhbahmehmaa
open Go.Shelf Go.RowKit Go.Lib Go.Sort
def Try.sortK_ren : Go.Shelf.Ren := ⟨fun | 6 => 36 | 15 => 41 | 14 => 40 | 28 => 52 | 29 => 53 | 20 => 44 | 21 => 45 | 22 => 46 | 23 => 47 | 24 => 48 | 25 => 49 | 26 => 50 | 27 => 51 | 46 => 56 | 47 => 57 | 48 => 58 | 49 => 59 | 50 => 60 | 57 => 62 | n => n, fun | 22 => 30 | 24 => 24 | 25 => 65 | 3 => 3 | 39 => 70 | 0 => 0 | 53 => 82 | 55 => 84 | 4 => 4 | 46 => 75 | 45 => 74 | 50 => 79 | 5 => 5 | 9 => 9 | 66 => 86 | 70 => 90 | 76 => 92 | 77 => 93 | n => n, fun | n => n⟩
theorem Try.sortK : Go.Proofs.SlLaysF0.n6 Try.prog Try.sortK_ren := {
  mixed := by kernel_rfl
  f6 := ⟨Try.f36.name, by decide, Try.func36.trans (congrArg some (by kernel_rfl))⟩
  f14 := ⟨Try.f40.name, by decide, Try.func40.trans (congrArg some (by kernel_rfl))⟩
  f15 := Try.func41.trans (congrArg some (by kernel_rfl))
  f20 := ⟨Try.f44.name, by decide, Try.func44.trans (congrArg some (by kernel_rfl))⟩
  f21 := ⟨Try.f45.name, by decide, Try.func45.trans (congrArg some (by kernel_rfl))⟩
  f22 := ⟨Try.f46.name, by decide, Try.func46.trans (congrArg some (by kernel_rfl))⟩
  f23 := ⟨Try.f47.name, by decide, Try.func47.trans (congrArg some (by kernel_rfl))⟩
  f24 := ⟨Try.f48.name, by decide, Try.func48.trans (congrArg some (by kernel_rfl))⟩
  f25 := ⟨Try.f49.name, by decide, Try.func49.trans (congrArg some (by kernel_rfl))⟩
  f26 := ⟨Try.f50.name, by decide, Try.func50.trans (congrArg some (by kernel_rfl))⟩
  f27 := ⟨Try.f51.name, by decide, Try.func51.trans (congrArg some (by kernel_rfl))⟩
  f28 := Try.func52.trans (congrArg some (by kernel_rfl))
  f29 := Try.func53.trans (congrArg some (by kernel_rfl))
  f46 := ⟨Try.f56.name, by decide, Try.func56.trans (congrArg some (by kernel_rfl))⟩
  f47 := Try.func57.trans (congrArg some (by kernel_rfl))
  f48 := Try.func58.trans (congrArg some (by kernel_rfl))
  f49 := ⟨Try.f59.name, by decide, Try.func59.trans (congrArg some (by kernel_rfl))⟩
  f50 := ⟨Try.f60.name, by decide, Try.func60.trans (congrArg some (by kernel_rfl))⟩
  f57 := ⟨Try.f62.name, by decide, Try.func62.trans (congrArg some (by kernel_rfl))⟩
  t0 := Try.underlying0
  a0 := Try.isAgg0
  z0 := Try.sizeOf0
  v0 := Try.zeroValue0
  t3 := Try.underlying3
  a3 := Try.isAgg3
  z3 := Try.sizeOf3
  v3 := Try.zeroValue3
  t4 := Try.underlying4
  a4 := Try.isAgg4
  z4 := Try.sizeOf4
  v4 := Try.zeroValue4
  t5 := Try.underlying5
  a5 := Try.isAgg5
  z5 := Try.sizeOf5
  v5 := Try.zeroValue5
  t9 := Try.underlying9
  a9 := Try.isAgg9
  z9 := Try.sizeOf9
  v9 := Try.zeroValue9
  t22 := Try.underlying30
  a22 := Try.isAgg30
  z22 := Try.sizeOf30
  v22 := Try.zeroValue30
  t25 := Try.underlying65
  a25 := Try.isAgg65
  z25 := Try.sizeOf65
  v25 := Try.zeroValue65
  t39 := Try.underlying70
  a39 := Try.isAgg70
  z39 := Try.sizeOf70
  v39 := Try.zeroValue70
  t45 := Try.underlying74
  a45 := Try.isAgg74
  z45 := Try.sizeOf74
  v45 := Try.zeroValue74
  t46 := Try.underlying75
  a46 := Try.isAgg75
  z46 := Try.sizeOf75
  v46 := Try.zeroValue75
  t50 := Try.underlying79
  a50 := Try.isAgg79
  z50 := Try.sizeOf79
  v50 := Try.zeroValue79
  t53 := Try.underlying82
  a53 := Try.isAgg82
  z53 := Try.sizeOf82
  v53 := Try.zeroValue82
  t55 := Try.underlying84
  a55 := Try.isAgg84
  z55 := Try.sizeOf84
  v55 := Try.zeroValue84
  t66 := Try.underlying86
  a66 := Try.isAgg86
  z66 := Try.sizeOf86
  v66 := Try.zeroValue86
  t70 := Try.underlying90
  a70 := Try.isAgg90
  z70 := Try.sizeOf90
  v70 := Try.zeroValue90
  t76 := Try.underlying92
  a76 := Try.isAgg92
  z76 := Try.sizeOf92
  v76 := Try.zeroValue92
  t77 := Try.underlying93
  a77 := Try.isAgg93
  z77 := Try.sizeOf93
  v77 := Try.zeroValue93 }

def kcells : List Ky → List Value
  | [] => []
  | k :: l => encStr k.n :: .int .i64 k.d :: kcells l
theorem kcells_append (l m : List Ky) : kcells (l ++ m) = kcells l ++ kcells m := by
  induction l with
  | nil => rfl
  | cons x l ih => show _ :: _ :: kcells (l ++ m) = _; rw [ih]; rfl
theorem kcells_len : ∀ l : List Ky, (kcells l).length = l.length * 2
  | [] => rfl
  | x :: l => by
    have := kcells_len l
    show (kcells l).length + 1 + 1 = (l.length + 1) * 2
    omega
theorem kcells_get : ∀ (l : List Ky) (i : Nat) (h : i < l.length), (kcells l)[i * 2]? = some (encStr l[i].n) ∧ (kcells l)[i * 2 + 1]? = some (.int .i64 l[i].d)
  | x :: l, 0, _ => ⟨rfl, rfl⟩
  | x :: l, i + 1, h => by
    have := kcells_get l i (by simpa using h)
    rw [show (i + 1) * 2 = i * 2 + 1 + 1 by omega]
    exact this
instance : Inhabited Ky := ⟨⟨[], 0⟩⟩
def encK (k : Ky) : List Value := [encStr k.n, .int .i64 k.d]
theorem flat_kcells (l : List Ky) : (flatK encK 2 l.toArray).toList = kcells l := by
  apply List.ext_getElem?
  intro t
  by_cases ht : t < l.length * 2
  · have hq : t / 2 < l.length := by omega
    obtain ⟨g0, g1⟩ := kcells_get l (t / 2) hq
    have e : (flatK encK 2 l.toArray).toList[t]? = some ((encK l[t / 2])[t % 2]!) := by
      rw [Array.getElem?_toList, Array.getElem?_eq_getElem (by simpa using ht)]
      congr 1
      have := get_flatK encK 2 l.toArray t (by simpa using ht)
      rw [getElem!_pos _ t (by simpa using ht)] at this
      rw [this]
      simp [hq]
    rw [e]
    rcases Nat.mod_two_eq_zero_or_one t with h | h
    · rw [h]; rw [show t / 2 * 2 = t by omega] at g0; rw [g0]; rfl
    · rw [h]; rw [show t / 2 * 2 + 1 = t by omega] at g1; rw [g1]; rfl
  · rw [List.getElem?_eq_none (by simp; omega), List.getElem?_eq_none (by rw [kcells_len]; omega)]

theorem grownBy_putF {w : World} {g n : Nat} {os : Array Obj} (d : Array Value) : w.grownBy (grow (putRow id (Sort.ahead w n) g 0 d) os) (some g) := by
  refine ⟨rfl, rfl, rfl, by simp, fun k hk hne => ?_⟩
  rw [heap_grow_old _ _ (by simpa using hk)]
  have : g ≠ k := fun e => hne (by rw [e])
  simp [putRow, mapBlock, Sort.ahead, Array.getElem?_modify, this]
theorem heap_putF {w : World} {g n : Nat} {os : Array Obj} {cur : Array Value} {e : TypeId} {fr : Nat × Nat} (d : Array Value) (hb : w.heap[g]? = some (.cells cur e fr)) :
    (grow (putRow id (Sort.ahead w n) g 0 d) os).heap[g]? = some (.cells (putCells id 0 d cur) e fr) := by
  have hg : g < w.heap.size := (Array.getElem?_eq_some_iff.1 hb).1
  rw [heap_grow_old _ _ (by simpa using hg)]
  simp [putRow, mapBlock, Sort.ahead, Array.getElem?_modify, hb, onCells]
theorem take_putF (cur : Array Value) (ts : Array Value) (h : ts.size ≤ cur.size) : (putCells id 0 ts cur).toList.take ts.size = ts.toList := by
  apply List.ext_getElem?
  intro j
  by_cases hj : j < ts.size
  · rw [List.getElem?_take_of_lt hj, Array.getElem?_toList, Array.getElem?_toList]
    simp [putCells, hj, show j < cur.size by omega]
  · rw [List.getElem?_take_eq_none (by omega), List.getElem?_eq_none (by simp; omega)]

theorem cmp_lays (blk off size : Nat) (w : World) : CmpLays Try.prog 37 #[] encK 2 Ky.cmp blk off size w :=
  fun _ _ _ _ x y => key_CmpG x y _

set_option maxHeartbeats 1000000 in
/-- The row behind the sort. -/
theorem key_sort (l : List Ky) (g cap base : Nat) (w : World) (hown : w.ownsRow base 24 2 (.slice (some ⟨g, 0, none⟩) l.length cap) l.length (kcells l)) (hm : l.length ≤ 140737488355328) :
    Calls Try.prog 36 #[.slice (some ⟨g, 0, none⟩) l.length cap, .func (.func 37) #[] #[]] w fun e w' => e = .returned (.tuple #[]) ∧
      ∃ l' : List Ky, l'.Perm l ∧ l'.Pairwise (fun a b => b.cl.less a.cl = false) ∧ w'.ownsRow base 24 2 (.slice (some ⟨g, 0, none⟩) l.length cap) l.length (kcells l') ∧ w.grownBy w' (some g) := by
  have hblk : g < w.heap.size := (hown.lt g rfl).2
  have hH : HoldsK encK 2 w g 0 l.toArray := by
    intro j hj
    have hj2 : j < l.length * 2 := by simpa using hj
    rw [Nat.zero_add, hown.cellAt j hj2]
    refine ⟨?_, hown.frozenAt j⟩
    rw [← flat_kcells, Array.getElem?_toList, Array.getElem?_eq_getElem (by simpa using hj2), getElem!_pos _ j (by simpa using hj2)]
    rfl
  have h := AnyQ.slices_SortFunc Try.sortK 2 Try.isAgg24 Try.sizeOf24 encK (fun _ => rfl) (fun x v hv => by simp [encK] at hv; rcases hv with rfl | rfl <;> rfl) Ky.cmp swo_key 37 #[] g 0 cap l.toArray w (enters_of Try.func37 (by kernel_rfl) rfl) (cmp_lays g 0 _ w) hH hblk (by simp; omega)
  refine Calls.mono (show Calls Try.prog 36 #[.slice (some ⟨g, 0, none⟩) l.toArray.size cap, .func (.func 37) #[] #[]] w _ from h) ?_
  rintro e w' ⟨rfl, d', n, os, hp, hs, rfl⟩
  obtain ⟨hsz, -, hperm⟩ := hp
  have hdl : d'.size = l.length := by simpa using hsz
  have e1 : (d'.extract 0 l.toArray.size) = d' := by rw [← hsz]; exact Array.extract_size
  rw [e1] at hperm
  have e2 : (l.toArray.extract 0 l.toArray.size) = l.toArray := Array.extract_size
  rw [e2] at hperm
  refine ⟨rfl, d'.toList, by simpa using hperm, ?_, ?_, grownBy_putF _⟩
  · rw [List.pairwise_iff_getElem]
    intro i j hi hj hij
    have hj' : j < d'.size := by simpa using hj
    have hi' : i < d'.size := by simpa using hi
    have := hs i j (Nat.zero_le _) hij (by rw [← hsz]; exact hj')
    rw [ltOf_key, getElem!_pos _ j hj', getElem!_pos _ i hi'] at this
    simpa using this
  · have hk : kcells d'.toList = (flatK encK 2 d').toList := by rw [← flat_kcells]
    rcases hown.2 with ⟨h0, _⟩ | ⟨g', cap', cur, hv, hb, hg, h1, h2, h3, h4⟩
    · cases h0
    · cases hv
      refine ⟨by rw [kcells_len]; simp [hdl], .inr ⟨g, cap, _, rfl, hb, heap_putF _ hg, h1, h2, by simp [putCells, h3], ?_⟩⟩
      rw [hk, ← take_putF cur (flatK encK 2 d') (by rw [size_flatK, h3, hdl]; omega), size_flatK, hdl]
end Go.Proofs.Ytkmpkhbahmehmaa
