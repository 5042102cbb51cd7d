/- Maps as lists of keys and values: look-ups, stores, deletions, clearing, length, ranges. General: over any program and any type of keys. -/
import Derived.Test.YtkmpkhbahmehmaaMapK
import Derived.RangeFuncRecord
import Derived.Maps.RangeRun
import Derived.Laws.NewFold
namespace Go.Proofs.Ytkmpkhbahmehmaa
open Go.RowKit

section
variable {α : Type} [DecidableEq α]
def getL (a : α) : List (α × Value) → Option Value
  | [] => none
  | (k, v) :: L => if k = a then some v else getL a L
def setL (a : α) (v : Value) : List (α × Value) → List (α × Value)
  | [] => [(a, v)]
  | (k, u) :: L => if k = a then (k, v) :: L else (k, u) :: setL a v L
def delL (a : α) : List (α × Value) → List (α × Value)
  | [] => []
  | (k, u) :: L => if k = a then L else (k, u) :: delL a L
def keysL (L : List (α × Value)) : List α := L.map (·.1)

theorem getL_none {a : α} : ∀ {L : List (α × Value)}, getL a L = none ↔ a ∉ keysL L
  | [] => by simp [getL, keysL]
  | (k, v) :: L => by
    have ih := getL_none (a := a) (L := L)
    unfold getL
    by_cases h : k = a
    · simp [h, keysL]
    · rw [if_neg h, ih]
      have h' : ¬ a = k := fun e => h e.symm
      simp [keysL, h']
theorem getL_mem {a : α} {v : Value} : ∀ {L : List (α × Value)}, getL a L = some v → (a, v) ∈ L
  | [], h => by simp [getL] at h
  | (k, u) :: L, h => by
    unfold getL at h
    split at h
    · rename_i e
      simp at h
      rw [e, h]; exact List.mem_cons_self
    · exact List.mem_cons_of_mem _ (getL_mem h)
theorem getL_of_mem {a : α} {v : Value} : ∀ {L : List (α × Value)}, (keysL L).Nodup → (a, v) ∈ L → getL a L = some v
  | [], _, h => by simp at h
  | (k, u) :: L, hn, h => by
    have hn' : k ∉ keysL L ∧ (keysL L).Nodup := List.nodup_cons.1 hn
    unfold getL
    rcases List.mem_cons.1 h with e | h
    · cases e; rw [if_pos rfl]
    · rw [if_neg (fun e => hn'.1 (by rw [e]; exact List.mem_map.2 ⟨_, h, rfl⟩)), getL_of_mem hn'.2 h]
theorem getL_setL (x a : α) (v : Value) : ∀ L : List (α × Value), getL x (setL a v L) = if x = a then some v else getL x L
  | [] => by
    unfold setL getL
    by_cases h : x = a
    · rw [if_pos h.symm, if_pos h]
    · rw [if_neg (fun e => h e.symm), if_neg h]; rfl
  | (k, u) :: L => by
    have ih := getL_setL x a v L
    unfold setL
    by_cases h : k = a
    · rw [if_pos h]
      by_cases hx : x = a
      · rw [if_pos hx]; unfold getL; rw [if_pos (h.trans hx.symm)]
      · rw [if_neg hx]; unfold getL; rw [if_neg (fun e => hx (e.symm.trans h)), if_neg (fun e => hx (e.symm.trans h))]
    · rw [if_neg h]
      conv => lhs; unfold getL
      rw [ih]
      by_cases hx : x = a
      · rw [if_pos hx, if_neg (fun e => h (e.trans hx)), if_pos hx]
      · rw [if_neg hx, if_neg hx]
        rfl
theorem keysL_setL_mem {a : α} {v : Value} : ∀ {L : List (α × Value)}, a ∈ keysL L → keysL (setL a v L) = keysL L
  | [], h => by simp [keysL] at h
  | (k, u) :: L, h => by
    unfold setL
    by_cases e : k = a
    · rw [if_pos e]; rfl
    · rw [if_neg e]
      have : a ∈ keysL L := by
        rcases List.mem_cons.1 h with h | h
        · exact absurd h.symm e
        · exact h
      exact congrArg (k :: ·) (keysL_setL_mem this)
theorem setL_new {a : α} {v : Value} : ∀ {L : List (α × Value)}, a ∉ keysL L → setL a v L = L ++ [(a, v)]
  | [], _ => rfl
  | (k, u) :: L, h => by
    have h' : ¬ a = k ∧ a ∉ keysL L := by simpa [keysL] using h
    unfold setL
    rw [if_neg (fun e => h'.1 e.symm), setL_new h'.2]
    rfl
theorem delL_new {a : α} : ∀ {L : List (α × Value)}, a ∉ keysL L → delL a L = L
  | [], _ => rfl
  | (k, u) :: L, h => by
    have h' : ¬ a = k ∧ a ∉ keysL L := by simpa [keysL] using h
    unfold delL
    rw [if_neg (fun e => h'.1 e.symm), delL_new h'.2]
theorem keysL_delL {a : α} : ∀ {L : List (α × Value)}, (keysL L).Nodup → keysL (delL a L) = (keysL L).filter (fun k => decide (k ≠ a))
  | [], _ => rfl
  | (k, u) :: L, hn => by
    have hn' : k ∉ keysL L ∧ (keysL L).Nodup := List.nodup_cons.1 hn
    have e0 : keysL ((k, u) :: L) = k :: keysL L := rfl
    unfold delL
    rw [e0, List.filter_cons]
    by_cases h : k = a
    · subst h
      rw [if_pos rfl, if_neg (by simp)]
      exact (List.filter_eq_self.2 (fun x hx => by simpa using fun e => hn'.1 (by rw [← e]; exact hx))).symm
    · rw [if_neg h, if_pos (by simpa using h)]
      exact congrArg (k :: ·) (keysL_delL hn'.2)
theorem getL_delL {a x : α} : ∀ {L : List (α × Value)}, (keysL L).Nodup → getL x (delL a L) = if x = a then none else getL x L
  | [], _ => by unfold delL getL; split <;> rfl
  | (k, u) :: L, hn => by
    have hn' : k ∉ keysL L ∧ (keysL L).Nodup := List.nodup_cons.1 hn
    have ih := getL_delL (a := a) (x := x) hn'.2
    unfold delL
    by_cases h : k = a
    · rw [if_pos h]
      by_cases hx : x = a
      · rw [if_pos hx, getL_none.2 (by rw [hx, ← h]; exact hn'.1)]
      · rw [if_neg hx]; conv => rhs; unfold getL
        rw [if_neg (fun e => hx (e.symm.trans h))]
    · rw [if_neg h]
      conv => lhs; unfold getL
      rw [ih]
      by_cases hx : x = a
      · rw [if_pos hx, if_neg (fun e => h (e.trans hx)), if_pos hx]
      · rw [if_neg hx, if_neg hx]; rfl
omit [DecidableEq α] in
theorem keysL_mem {a : α} {v : Value} {L : List (α × Value)} (h : (a, v) ∈ L) : a ∈ keysL L := List.mem_map.2 ⟨_, h, rfl⟩
theorem delL_sub {a : α} {p : α × Value} : ∀ {L : List (α × Value)}, p ∈ delL a L → p ∈ L
  | [], h => h
  | (k, u) :: L, h => by
    unfold delL at h
    split at h
    · exact List.mem_cons_of_mem _ h
    · rcases List.mem_cons.1 h with h | h
      · rw [h]; exact List.mem_cons_self
      · exact List.mem_cons_of_mem _ (delL_sub h)

/-- Where a key stands among entries. -/
def findE (enc : α → Value) (a : α) : List (α × Value) → Nat → Option (Nat × Value)
  | [], _ => none
  | (k, v) :: L, i => if k = a then some (i, v) else findE enc a L (i + 1)

/-- What is asked of a type of keys. -/
structure KLaw (P : Program) (kt : TypeId) (enc : α → Value) : Prop where
  check : ∀ (em : Bool) (a : α) (w : World), (Instr.checkKey em 10000 kt (enc a)).run P w = .ok () w
  find : ∀ (a : α) (es : List MapEntry) (L : List (α × Value)) (w : World), es.map (fun e => (e.key, e.val)) = L.map (fun p => (enc p.1, p.2)) → (Instr.findKey kt (enc a) es).run P w = .ok (findE enc a L 0) w
  stays : ∀ (a : α) (w : World), (Instr.keyThatStays (enc a) (enc a)).run P w = .ok (enc a) w

/-- A map's entries, as keys and values. -/
def MapE (enc : α → Value) (es : Array MapEntry) (clock : Nat) (L : List (α × Value)) : Prop :=
  es.toList.map (fun e => (e.key, e.val)) = L.map (fun p => (enc p.1, p.2)) ∧ (keysL L).Nodup ∧ (es.toList.map (·.born)).Nodup ∧ ∀ e ∈ es.toList, e.born < clock

omit [DecidableEq α] in
theorem mapE_nil (enc : α → Value) (c : Nat) : MapE enc #[] c [] := ⟨rfl, List.nodup_nil, List.nodup_nil, fun _ h => by simp at h⟩
omit [DecidableEq α] in
theorem MapE.len {enc : α → Value} {es : Array MapEntry} {clock : Nat} {L : List (α × Value)} (h : MapE enc es clock L) : es.size = L.length := by
  have := congrArg List.length h.1
  simpa using this
theorem findE_none {enc : α → Value} {a : α} : ∀ {L : List (α × Value)} {i : Nat}, getL a L = none → findE enc a L i = none
  | [], _, _ => rfl
  | (k, v) :: L, i, h => by
    unfold getL at h
    split at h
    · cases h
    · rename_i e
      unfold findE
      rw [if_neg e, findE_none h]
theorem findE_some {enc : α → Value} {a : α} {v : Value} : ∀ {L : List (α × Value)} {i : Nat}, getL a L = some v → ∃ j, findE enc a L i = some (i + j, v) ∧ L[j]? = some (a, v) ∧ (∀ u, setL a u L = L.set j (a, u)) ∧ delL a L = L.eraseIdx j
  | [], _, h => by simp [getL] at h
  | (k, u) :: L, i, h => by
    unfold getL at h
    by_cases e : k = a
    · rw [if_pos e] at h
      cases h
      subst e
      exact ⟨0, by unfold findE; rw [if_pos rfl]; rfl, rfl, fun u => by unfold setL; rw [if_pos rfl]; rfl, by unfold delL; rw [if_pos rfl]; rfl⟩
    · rw [if_neg e] at h
      obtain ⟨j, h1, h2, h3, h4⟩ := findE_some (enc := enc) (i := i + 1) h
      exact ⟨j + 1, by unfold findE; rw [if_neg e, h1, Nat.add_assoc, Nat.add_comm 1 j], h2, fun u => by unfold setL; rw [if_neg e, h3]; rfl, by unfold delL; rw [if_neg e, h4]; rfl⟩

section
variable {P : Program} {mt kt et : TypeId} {enc : α → Value} {es : Array MapEntry} {clock : Nat} {L : List (α × Value)}

theorem MapE.look (h : MapE enc es clock L) (K : KLaw P kt enc) (hm : P.underlying mt = some (.map kt et)) {z : Value} (hz : ∀ w, (zeroValue et).run P w = .ok z w) (a : α) (ok : Bool) {w : World} {r : Nat} (hb : w.heap[r]? = some (.map es clock)) :
    (Instr.lookup mt (.map (some r)) (enc a) ok).run P w = .ok (if ok then .tuple #[(getL a L).getD z, .bool (getL a L).isSome] else (getL a L).getD z) w := by
  cases hg : getL a L with
  | none => exact look_miss ok hm hb (K.check _ a w) (by rw [K.find a _ L w h.1, findE_none hg]) (hz w)
  | some v =>
    obtain ⟨j, h1, -, -, -⟩ := findE_some (enc := enc) (i := 0) hg
    exact look_hit ok hm hb (K.check _ a w) (by rw [K.find a _ L w h.1, h1]; rfl)

omit [DecidableEq α] in
theorem getE {es : Array MapEntry} {L : List (α × Value)} (h : es.toList.map (fun e => (e.key, e.val)) = L.map (fun p => (enc p.1, p.2))) {j : Nat} {a : α} {v : Value} (hj : L[j]? = some (a, v)) : ∃ b, es[j]? = some ⟨enc a, v, b⟩ := by
  have h1 := congrArg (fun l => l[j]?) h
  simp only [List.getElem?_map, hj, Option.map_some] at h1
  rw [Array.getElem?_toList] at h1
  cases he : es[j]? with
  | none => simp [he] at h1
  | some e =>
    obtain ⟨k, u, b⟩ := e
    simp [he] at h1
    exact ⟨b, by rw [h1.1, h1.2]⟩

theorem MapE.store (h : MapE enc es clock L) (K : KLaw P kt enc) (hm : P.underlying mt = some (.map kt et)) (a : α) (v : Value) :
    ∃ es' clock', MapE enc es' clock' (setL a v L) ∧ ∀ (w : World) (r : Nat), w.heap[r]? = some (.map es clock) → (Instr.mapUpdate mt (.map (some r)) (enc a) v).run P w = .ok () (w.putObj r (.map es' clock')) := by
  obtain ⟨h1, h2, h3, h4⟩ := h
  cases hg : getL a L with
  | none =>
    have hn := getL_none.1 hg
    refine ⟨es.push { key := enc a, val := v, born := clock }, clock + 1, ⟨?_, ?_, ?_, ?_⟩, fun w r hb => ?_⟩
    · rw [setL_new hn, Array.toList_push, List.map_append, h1, List.map_append]; rfl
    · rw [setL_new hn]
      unfold keysL at *
      rw [List.map_append]
      exact List.nodup_append.2 ⟨h2, by simp, fun x hx y hy e => by
        simp at hy
        subst e hy
        exact hn hx⟩
    · rw [Array.toList_push, List.map_append]
      exact List.nodup_append.2 ⟨h3, by simp, fun x hx y hy e => by
        simp at hy
        obtain ⟨e', he', rfl⟩ := List.mem_map.1 hx
        have := h4 e' he'
        omega⟩
    · intro e he
      rw [Array.toList_push] at he
      rcases List.mem_append.1 he with he | he
      · have := h4 e he; omega
      · simp at he; subst he; exact Nat.lt_succ_self _
    · exact store_new hm hb (K.check _ a w) (by rw [K.find a _ L w h1, findE_none hg])
  | some u =>
    obtain ⟨j, f1, f2, f3, -⟩ := findE_some (enc := enc) (i := 0) hg
    obtain ⟨b, hb0⟩ := getE h1 f2
    have hlt : j < es.size := by
      rcases Nat.lt_or_ge j es.size with h | h
      · exact h
      · rw [Array.getElem?_eq_none h] at hb0; cases hb0
    have hgj : es[j] = ⟨enc a, u, b⟩ := by
      have := Array.getElem?_eq_getElem hlt
      rw [hb0] at this
      exact (Option.some.inj this).symm
    have hset : (es.modify j fun e => { e with key := enc a, val := v }).toList = es.toList.set j ⟨enc a, v, b⟩ := by
      rw [Array.toList_modify, ChangeMaps.modify_eq_set _ es.toList j ⟨enc a, u, b⟩ (by rw [Array.getElem?_toList, hb0])]
    refine ⟨es.modify j fun e => { e with key := enc a, val := v }, clock, ⟨?_, ?_, ?_, ?_⟩, fun w r hb => ?_⟩
    · rw [hset, List.map_set, h1, f3, List.map_set]
    · rw [keysL_setL_mem (keysL_mem (getL_mem hg))]; exact h2
    · rw [hset, List.map_set]
      have : (es.toList.map (·.born)).set j b = es.toList.map (·.born) := by
        apply List.ext_getElem?
        intro i
        rw [List.getElem?_set]
        split
        · rename_i e
          subst e
          rw [List.getElem?_map, Array.getElem?_toList, hb0]
          simp [hlt]
        · rfl
      rw [this]; exact h3
    · intro e he
      rw [hset] at he
      rcases List.mem_or_eq_of_mem_set he with he | he
      · exact h4 e he
      · subst he
        exact h4 es[j] (by simp) |> fun h => by rw [hgj] at h; exact h
    · have hf : (Instr.findKey kt (enc a) es.toList).run P w = .ok (some (j, u)) w := by rw [K.find a _ L w h1, f1, Nat.zero_add]
      simp [Instr.mapUpdate, run_underlying hm, run_getObj_map w r es clock hb, K.check, hf, hb0, K.stays, MapKept.run_setObj_map _ hb]
      rfl

theorem MapE.drop (h : MapE enc es clock L) (K : KLaw P kt enc) (hm : P.underlying mt = some (.map kt et)) (a : α) (ty t2 : TypeId) :
    ∃ es', MapE enc es' clock (delL a L) ∧ ∀ (w : World) (r : Nat), w.heap[r]? = some (.map es clock) → (Builtin.delete_ #[mt, t2] ty #[.map (some r), enc a]).run P w = .ok (.tuple #[]) (w.putObj r (.map es' clock)) := by
  obtain ⟨h1, h2, h3, h4⟩ := h
  cases hg : getL a L with
  | none =>
    have hn := getL_none.1 hg
    refine ⟨es, by rw [delL_new hn]; exact ⟨h1, h2, h3, h4⟩, fun w r hb => ?_⟩
    have hf : (Instr.findKey kt (enc a) es.toList).run P w = .ok none w := by rw [K.find a _ L w h1, findE_none hg]
    simp [Builtin.delete_, run_underlying hm, run_getObj_map w r es clock hb, K.check, hf, MapKept.run_setObj_map _ hb]
    rfl
  | some u =>
    obtain ⟨j, f1, f2, -, f4⟩ := findE_some (enc := enc) (i := 0) hg
    obtain ⟨b, hb0⟩ := getE h1 f2
    have hlt : j < es.size := by
      rcases Nat.lt_or_ge j es.size with h | h
      · exact h
      · rw [Array.getElem?_eq_none h] at hb0; cases hb0
    have hset : (es.eraseIdxIfInBounds j).toList = es.toList.eraseIdx j := by
      rw [Array.eraseIdxIfInBounds, dif_pos hlt, Array.toList_eraseIdx]
    refine ⟨es.eraseIdxIfInBounds j, ⟨?_, ?_, ?_, ?_⟩, fun w r hb => ?_⟩
    · rw [hset, f4, ChangeMaps.map_eraseIdx, h1, ChangeMaps.map_eraseIdx]
    · rw [keysL_delL h2]; exact h2.filter _
    · rw [hset, ChangeMaps.map_eraseIdx]; exact h3.sublist (List.eraseIdx_sublist _ _)
    · intro e he
      rw [hset] at he
      exact h4 e (List.mem_of_mem_eraseIdx he)
    · have hf : (Instr.findKey kt (enc a) es.toList).run P w = .ok (some (j, u)) w := by rw [K.find a _ L w h1, f1, Nat.zero_add]
      simp [Builtin.delete_, run_underlying hm, run_getObj_map w r es clock hb, K.check, hf, MapKept.run_setObj_map _ hb]
      rfl

theorem run_clear_map (hm : P.underlying mt = some (.map kt et)) (ty : TypeId) {w : World} {r : Nat} (hb : w.heap[r]? = some (.map es clock)) : (Builtin.clear_ #[mt] ty #[.map (some r)]).run P w = .ok (.tuple #[]) (w.putObj r (.map #[] clock)) := by
  simp [Builtin.clear_, run_underlying hm, run_getObj_map w r es clock hb, MapKept.run_setObj_map _ hb]
  rfl
theorem run_len_map (hm : P.underlying mt = some (.map kt et)) (ty : TypeId) {w : World} {r : Nat} (hb : w.heap[r]? = some (.map es clock)) : (Builtin.len_ #[mt] ty #[.map (some r)]).run P w = .ok (.int .i64 es.size) w := by
  simp [Builtin.len_, run_underlying hm, run_getObj_map w r es clock hb]
  rfl
theorem run_look_nil (K : KLaw P kt enc) (hm : P.underlying mt = some (.map kt et)) {z : Value} (hz : ∀ w, (zeroValue et).run P w = .ok z w) (a : α) (ok : Bool) (w : World) : (Instr.lookup mt (.map none) (enc a) ok).run P w = .ok (if ok then .tuple #[z, .bool false] else z) w := by
  have hf : (Instr.findKey kt (enc a) []).run P w = .ok none w := by rw [K.find a [] [] w rfl]; rfl
  simp [Instr.lookup, run_underlying hm, K.check, hf, hz]
theorem run_drop_nil (K : KLaw P kt enc) (hm : P.underlying mt = some (.map kt et)) (a : α) (ty t2 : TypeId) (w : World) : (Builtin.delete_ #[mt, t2] ty #[.map none, enc a]).run P w = .ok (.tuple #[]) w := by
  simp [Builtin.delete_, run_underlying hm, K.check]
theorem run_len_nil (hm : P.underlying mt = some (.map kt et)) (ty : TypeId) (w : World) : (Builtin.len_ #[mt] ty #[.map none]).run P w = .ok (.int .i64 0) w := by
  simp [Builtin.len_, run_underlying hm]
  rfl

/-- What is left of a range. -/
def LeftE (enc : α → Value) (es : Array MapEntry) (seen : Array Nat) (left : List (α × Value)) : Prop :=
  ∃ l : List (α × Value), (leftOf es seen).toList.map (fun e => (e.key, e.val)) = l.map (fun p => (enc p.1, p.2)) ∧ l.Perm left
omit [DecidableEq α] in
theorem leftE_all (h : es.toList.map (fun e => (e.key, e.val)) = L.map (fun p => (enc p.1, p.2))) : LeftE enc es #[] L :=
  ⟨L, by rw [← h]; congr 1; simp [leftOf], List.Perm.refl _⟩

theorem run_range_map (hm : P.underlying mt = some (.map kt et)) {w : World} {r : Nat} (hb : w.heap[r]? = some (.map es clock)) :
    (Instr.range mt (.map (some r))).run P w = .ok (.pointer (some ⟨w.heap.size, 0, none⟩)) (w.alloc (.mapIter (some r) clock #[] clock)) := by
  simp [Instr.range, run_underlying hm, run_getObj_map w r es clock hb]
theorem run_range_nil (hm : P.underlying mt = some (.map kt et)) (w : World) : (Instr.range mt (.map none)).run P w = .ok (.pointer (some ⟨w.heap.size, 0, none⟩)) (w.alloc (.mapIter none 0 #[] 0)) := by
  simp [Instr.range, run_underlying hm]
theorem run_next_nil {w : World} {it : Nat} (hi : w.heap[it]? = some (.mapIter none 0 #[] 0)) (ty : TypeId) : (Instr.next (.pointer (some ⟨it, 0, none⟩)) false ty).run P w = .ok (.tuple #[.bool false]) w := by
  simp [Instr.next, getObj, Sem.run, hi]

theorem perm_at {β : Type} : ∀ {l : List β} {i : Nat} {p : β}, l[i]? = some p → l.Perm (p :: l.eraseIdx i)
  | [], i, p, h => by simp at h
  | x :: l, 0, p, h => by simp at h; subst h; exact List.Perm.refl _
  | x :: l, i + 1, p, h => by
    have h' : l[i]? = some p := by simpa using h
    exact ((perm_at h').cons x).trans (List.Perm.swap p x _)
omit [DecidableEq α] in
theorem perm_take {l left : List (α × Value)} {i : Nat} (hp : l.Perm left) {p : α × Value} (hi : l[i]? = some p) : ∃ left', left.Perm (p :: left') ∧ (l.eraseIdx i).Perm left' := by
  have h1 := perm_at hi
  exact ⟨l.eraseIdx i, hp.symm.trans h1, List.Perm.refl _⟩

omit [DecidableEq α] in
theorem MapE.next (h : MapE enc es clock L) {seen : Array Nat} {left : List (α × Value)} (hl : LeftE enc es seen left) {w : World} {r it : Nat} (hi : w.heap[it]? = some (.mapIter (some r) clock seen clock)) (hb : w.heap[r]? = some (.map es clock)) :
    (left = [] ∧ ∀ ty, (Instr.next (.pointer (some ⟨it, 0, none⟩)) false ty).run P w = .ok (.tuple #[.bool false]) w) ∨
    ∃ k v left' seen' w1, left.Perm ((k, v) :: left') ∧ (w1 = w ∨ w1 = w.drew) ∧ (∀ ty, (Instr.next (.pointer (some ⟨it, 0, none⟩)) false ty).run P w = .ok (.tuple #[.bool true, enc k, v]) (w1.putObj it (.mapIter (some r) clock seen' clock))) ∧
      LeftE enc es seen' left' ∧ ∀ W : World, W.heap[it]? = some (.mapIter (some r) clock seen' clock) → W.heap[r]? = some (.map es clock) → (Instr.entry (.pointer (some ⟨it, 0, none⟩))).run P W = .ok (.tuple #[enc k, v]) W := by
  obtain ⟨h1, h2, h3, h4⟩ := h
  obtain ⟨l, hl1, hl2⟩ := hl
  rcases run_next_at (P := P) w 0 it r clock clock seen es clock hi hb h4 (Nat.le_refl _) with ⟨h0, hrun⟩ | ⟨e, he, w1, hal, hrun⟩
  · refine Or.inl ⟨?_, fun _ => hrun⟩
    have : l = [] := by
      have := congrArg List.length hl1
      simp [h0] at this
      exact List.eq_nil_of_length_eq_zero this.symm
    subst this
    exact hl2.nil_eq.symm
  · refine Or.inr ?_
    obtain ⟨hem, hes⟩ := mem_left he
    obtain ⟨i, hi', hie⟩ := List.getElem_of_mem he
    have hlen : (leftOf es seen).toList.length = l.length := by simpa using congrArg List.length hl1
    have hil : i < l.length := by omega
    have hp : (e.key, e.val) = (enc l[i].1, l[i].2) := by
      have := congrArg (fun z => z[i]?) hl1
      simp only [List.getElem?_map, List.getElem?_eq_getElem hi', List.getElem?_eq_getElem hil, Option.map_some, hie] at this
      exact Option.some.inj this
    obtain ⟨left', p1, p2⟩ := perm_take hl2 (List.getElem?_eq_getElem hil)
    have hk : e.key = enc l[i].1 := congrArg Prod.fst hp
    have hv : e.val = l[i].2 := congrArg Prod.snd hp
    refine ⟨l[i].1, l[i].2, left', seen.push e.born, w1, p1, hal, fun ty => by rw [show Instr.next (.pointer (some ⟨it, 0, none⟩)) false ty = Instr.next (.pointer (some ⟨it, 0, none⟩)) false 0 from rfl, hrun, hk, hv]; rfl, ⟨l.eraseIdx i, ?_, p2⟩, fun W hi2 hb2 => ?_⟩
    · rw [ChangeMaps.map_eraseIdx, ← hl1, ← ChangeMaps.map_eraseIdx]
      congr 1
      have hn : ((leftOf es seen).toList.map (·.born)).Nodup := by
        unfold leftOf
        rw [Array.toList_filter]
        exact h3.sublist (List.filter_sublist.map _)
      have e1 : (leftOf es (seen.push e.born)).toList = (leftOf es seen).toList.filter (fun x => decide (x.born ≠ e.born)) := by
        unfold leftOf
        rw [Array.toList_filter, Array.toList_filter, List.filter_filter]
        congr 1
        funext x
        rw [contains_push]
        cases seen.contains x.born <;> by_cases hx : x.born = e.born <;> simp [hx]
      rw [e1]
      have key : ∀ (q : List MapEntry) (j : Nat), (q.map (·.born)).Nodup → q[j]? = some e → q.filter (fun x => decide (x.born ≠ e.born)) = q.eraseIdx j := by
        intro q
        induction q with
        | nil => intro j _ h; simp at h
        | cons y q ih =>
          intro j hn hj
          have hn' : y.born ∉ q.map (·.born) ∧ (q.map (·.born)).Nodup := List.nodup_cons.1 hn
          cases j with
          | zero =>
            simp at hj
            subst hj
            rw [List.filter_cons, if_neg (by simp)]
            exact List.filter_eq_self.2 (fun x hx => by simpa using fun e' => hn'.1 (by rw [← e']; exact List.mem_map.2 ⟨x, hx, rfl⟩))
          | succ j =>
            have hj' : q[j]? = some e := by simpa using hj
            have hne : y.born ≠ e.born := fun e' => hn'.1 (by rw [e']; exact List.mem_map.2 ⟨e, List.mem_of_getElem? hj', rfl⟩)
            rw [List.filter_cons, if_pos (by simpa using hne), ih j hn'.2 hj']
            rfl
      exact key _ i hn (by rw [List.getElem?_eq_getElem hi', hie])
    · rw [run_entry_at W it r clock seen es clock e hi2 hb2 hem h3, hk, hv]
end
end
end Go.Proofs.Ytkmpkhbahmehmaa
