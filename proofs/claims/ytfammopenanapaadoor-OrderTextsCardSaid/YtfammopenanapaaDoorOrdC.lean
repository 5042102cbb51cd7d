/- X-PARTIAL strings.Split at a blank: layer 37. -/
import Derived.Test.YtfammopenanapaaDoorOrdB
import Derived.Test.YtfammopenanapaaDoorNamB
import Derived.Test.YtfammopenanapaaDoorAlloc
import Derived.Shelf.Strings.Count
import Derived.Laws.OwnMore
import Derived.Deep.OwnRows
namespace Go.Proofs.YtfammopenanapaaDoor
open Go.RowKit Go.Lib Go.Shelf

def Tryd.lays138_ren : Go.Shelf.Ren := ⟨fun | 138 => 40 | 195 => 54 | 218 => 56 | 143 => 41 | 219 => 36 | 217 => 44 | 225 => 45 | 224 => 46 | 267 => 47 | 266 => 61 | 314 => 62 | n => n, fun | 9 => 9 | 3 => 3 | 4 => 4 | 5 => 5 | 0 => 0 | 46 => 72 | 146 => 89 | 51 => 88 | n => n, fun | 1 => 1 | n => n⟩
theorem Tryd.lays138 : Go.Proofs.Lays.n138 Tryd.prog Tryd.lays138_ren := {
  mixed := by kernel_rfl
  f138 := Tryd.func40.trans (congrArg some (by kernel_rfl))
  f143 := Tryd.func41.trans (congrArg some (by kernel_rfl))
  f195 := Tryd.func54.trans (congrArg some (by kernel_rfl))
  f217 := Tryd.func44.trans (congrArg some (by kernel_rfl))
  f218 := Tryd.func56.trans (congrArg some (by kernel_rfl))
  f219 := Tryd.func36.trans (congrArg some (by kernel_rfl))
  f224 := Tryd.func46.trans (congrArg some (by kernel_rfl))
  f225 := Tryd.func45.trans (congrArg some (by kernel_rfl))
  f266 := Tryd.func61.trans (congrArg some (by kernel_rfl))
  f267 := Tryd.func47.trans (congrArg some (by kernel_rfl))
  f314 := Tryd.func62.trans (congrArg some (by kernel_rfl))
  t0 := Tryd.underlying0
  a0 := Tryd.isAgg0
  z0 := Tryd.sizeOf0
  v0 := Tryd.zeroValue0
  t3 := Tryd.underlying3
  a3 := Tryd.isAgg3
  z3 := Tryd.sizeOf3
  v3 := Tryd.zeroValue3
  t4 := Tryd.underlying4
  a4 := Tryd.isAgg4
  z4 := Tryd.sizeOf4
  v4 := Tryd.zeroValue4
  t5 := Tryd.underlying5
  a5 := Tryd.isAgg5
  z5 := Tryd.sizeOf5
  v5 := Tryd.zeroValue5
  t9 := Tryd.underlying9
  a9 := Tryd.isAgg9
  z9 := Tryd.sizeOf9
  v9 := Tryd.zeroValue9
  t46 := Tryd.underlying72
  a46 := Tryd.isAgg72
  z46 := Tryd.sizeOf72
  v46 := Tryd.zeroValue72
  t51 := Tryd.underlying88
  a51 := Tryd.isAgg88
  z51 := Tryd.sizeOf88
  v51 := Tryd.zeroValue88
  t146 := Tryd.underlying89
  a146 := Tryd.isAgg89
  z146 := Tryd.sizeOf89
  v146 := Tryd.zeroValue89
  g1 := by kernel_rfl }
theorem strings_CountB (s : Str) (w : World) :
    Calls Tryd.prog 40 #[encStr s, encStr [32]] w fun e w' => e = .returned (.int .i64 (s.count 32 : Nat)) ∧ w' = w := by
  exact Any.strings_Count_one Tryd.lays138 ⟨s.toArray⟩ 32 w

set_option maxRecDepth 1000000 in
theorem strings_IndexBl (s : Str) (w : World) :
    Calls Tryd.prog 41 #[encStr s, encStr [32]] w fun e w' => e = .returned (.int .i64 (Lib.indexByte s 32)) ∧ w' = w := by
  have HH := Lib.hid (slite_IndexBl s w)
  go_enter Tryd.func41, Tryd.ntmps41
  go_wp2_with fail
  go_at_call 36
  refine HH.out.mono ?_
  rintro e w1 ⟨rfl, rfl⟩
  go_wp2_with fail
  go_ret
  exact ⟨rfl, rfl⟩

/-- The pieces ahead of what is left. -/
theorem drop_some {s r : Str} {k : Nat} (h : (splitB s).drop k = splitB r) (hk : k + 1 < (splitB s).length) :
    ¬ (aheadB r).length = r.length ∧ (splitB s)[k]? = some (aheadB r) ∧ (splitB s).drop (k + 1) = splitB (behindB r) := by
  have hl : (splitB r).length = (splitB s).length - k := by rw [← h, List.length_drop]
  have hn : ¬ (aheadB r).length = r.length := by
    intro e
    rw [splitB_none e] at hl
    simp at hl
    omega
  refine ⟨hn, ?_, ?_⟩
  · have : (splitB s)[k]? = ((splitB s).drop k)[0]? := by rw [List.getElem?_drop, Nat.add_zero]
    rw [this, h, splitB_some hn]
    rfl
  · rw [← List.tail_drop, h, splitB_some hn]
    rfl
theorem drop_none {s r : Str} {k : Nat} (h : (splitB s).drop k = splitB r) (hk : k + 1 = (splitB s).length) : (splitB s)[k]? = some r := by
  have hl : (splitB r).length = 1 := by rw [← h, List.length_drop]; omega
  have hn : (aheadB r).length = r.length := by
    refine Classical.byContradiction fun hn => ?_
    rw [splitB_some hn, List.length_cons] at hl
    have := splitB_len (behindB r)
    omega
  have : (splitB s)[k]? = ((splitB s).drop k)[0]? := by rw [List.getElem?_drop, Nat.add_zero]
  rw [this, h, splitB_none hn]
  rfl

/-- The first k texts, and empty ones behind. -/
def textsS (L : List Str) (k : Nat) : List Value := (L.take k).map encStr ++ List.replicate (L.length - k) (encStr [])
theorem textsS_zero (L : List Str) : textsS L 0 = List.replicate L.length (encStr []) := by
  unfold textsS; rw [List.take_zero, List.map_nil, List.nil_append, Nat.sub_zero]
theorem textsS_len (L : List Str) {k : Nat} (h : k ≤ L.length) : (textsS L k).length = L.length := by
  unfold textsS; simp; omega
theorem textsS_old (L : List Str) {k : Nat} (h : k < L.length) : (textsS L k)[k]? = some (encStr []) := by
  unfold textsS
  rw [List.getElem?_append_right (by simp; omega), List.length_map, List.length_take, Nat.min_eq_left (by omega), Nat.sub_self, List.getElem?_replicate, if_pos (by omega)]
theorem textsS_next (L : List Str) {k : Nat} {x : Str} (h : L[k]? = some x) : (textsS L k).set k (encStr x) = textsS L (k + 1) := by
  obtain ⟨h1, h2⟩ := List.getElem?_eq_some_iff.1 h
  subst h2
  unfold textsS
  rw [List.set_append_right _ _ (by simp; omega), List.take_succ_eq_append_getElem h1, List.map_append, List.append_assoc]
  congr 1
  rw [List.length_map, List.length_take, Nat.min_eq_left (by omega), Nat.sub_self]
  obtain ⟨m, hm⟩ : ∃ m, L.length - k = m + 1 := ⟨L.length - k - 1, by omega⟩
  rw [hm, show L.length - (k + 1) = m by omega, List.replicate_succ]
  rfl
theorem textsS_all (L : List Str) : textsS L L.length = L.map encStr := by
  unfold textsS; rw [List.take_length, Nat.sub_self, List.replicate_zero, List.append_nil]
theorem own_allocS {w : World} {base : Nat} {e : TypeId} {size n : Nat} {v : Value} {xs : List Value} (h : w.ownsRow base e size v n xs) (o : Obj) : (w.alloc o).ownsRow base e size v n xs := by
  refine ⟨h.1, ?_⟩
  rcases h.2 with h' | ⟨g, cap, cur, e, hb', hg, h1⟩
  · exact Or.inl h'
  · exact Or.inr ⟨g, cap, cur, e, hb', by rw [Below.heap_alloc _ _ _ (blk_lt hg)]; exact hg, h1⟩
theorem own_SRow {w : World} {base g cp : Nat} {e : TypeId} {L : List Str} (h : w.ownsRow base e 1 (.slice (some ⟨g, 0, none⟩) L.length cp) L.length (L.map encStr)) : SRow w (some ⟨g, 0, none⟩) L := by
  intro i hi
  have h1 := h.cellAt i (by simpa using hi)
  rw [List.getElem?_eq_getElem hi] at h1
  by_cases h0 : i = 0
  · subst h0; simpa [Addr.add] using h1
  · simpa [Addr.add, h0] using h1
end Go.Proofs.YtfammopenanapaaDoor
