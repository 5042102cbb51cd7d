/- X-PARTIAL An argument that is a slice of keys, opened; what it weighs. -/
import Derived.Test.YtoclpodjigfmgaaDoorKeyLr
import Derived.Test.YtoclpodjigfmgaaDoorHoldKit
import Derived.Deep.SlicePairs
import Derived.OpenShut
namespace Go.Proofs.YtoclpodjigfmgaaDoor
open Go.ChangeShapes Go.WideShapes Go.ChangeAt Go.RowKit Go.Joins Go.Deep Go.Lib

theorem krow_of {w : World} {a : Addr} {l : List Ky} (h : ∀ i, (hi : i < l.length) → w.cell? (a.add (i * 2)) = some (encStr l[i].n) ∧ w.cell? (a.add (i * 2 + 1)) = some (.int .i64 l[i].d)) : KRow w (some a) l := fun j hj => by
  obtain ⟨h0, h1⟩ := h j hj
  obtain ⟨b, o, t⟩ := a
  cases t with
  | some t =>
    exfalso
    have h00 := (h 0 (by omega)).1
    simp [World.cell?, Addr.add] at h00
    try (split at h00 <;> cases h00)
  | none =>
    rw [addr_add] at h0 h1
    refine ⟨b, o, rfl, ?_, h0, h1⟩
    rcases Nat.lt_or_ge b w.heap.size with h | h
    · exact h
    · exfalso
      have : w.heap[b]? = none := Array.getElem?_eq_none h
      simp [World.cell?, this] at h0

section
variable {H : Type} {enc : TypeId × Value → H} {P : Program} {w : World} {held : Bool}
theorem trod_ky {t : TypeId} {f0 f1 : Field} {n : Nat} {cs : List Value} {x : DataW H × List MemPlace} (ht : P.underlying t = some (.struct #[f0, f1])) (hC : P.cellsOf t = 2)
    (o0 : f0.offset = 0) (o1 : f1.offset = 1) (c0 : P.cellsOf f0.type = 1) (c1 : P.cellsOf f1.type = 1)
    (h0 : P.underlying f0.type = some .string) (h1 : P.underlying f1.type = some (.int .i64))
    (h : DataW.trod enc P w 0 (fun _ => true) held n t cs = some x) : ∃ K : Ky, cs = [encStr K.n, .int .i64 K.d] ∧ 1 ≤ Rows.uptoBulk x.1 := by
  obtain ⟨xs, m, rfl, rfl, hl, hlx, hf⟩ := DataW.trod_struct ht h
  rw [hC] at hl
  rcases cs with _ | ⟨v0, _ | ⟨v1, cs⟩⟩ <;> simp only [List.length_cons, List.length_nil] at hl <;> try omega
  have hcs : cs = [] := List.eq_nil_of_length_eq_zero (by omega)
  subst hcs
  have hlx2 : xs.length = 2 := hlx
  rcases xs with _ | ⟨y0, _ | ⟨y1, ys⟩⟩ <;> simp only [List.length_cons, List.length_nil] at hlx2 <;> try omega
  have q0 := hf 0 f0 rfl
  have q1 := hf 1 f1 rfl
  rw [o0, c0] at q0
  rw [o1, c1] at q1
  obtain ⟨s, e0, -, -⟩ := DataW.trod_string h0 (x := y0) q0
  obtain ⟨z, e1, -, -⟩ := DataW.trod_int h1 (x := y1) q1
  simp only [List.drop_zero, List.drop_succ_cons, List.take_succ_cons, List.take_zero, List.cons.injEq, and_true] at e0 e1
  subst e0 e1
  refine ⟨⟨s.data.toList, z⟩, ?_, ?_⟩
  · show _ = [Value.string ⟨s.data.toList.toArray⟩, Value.int .i64 z]
    rw [Array.toArray_toList]
  · simp only [Rows.uptoBulk]
    omega

theorem open_keys {r : Reach} {b0 : Nat} {t tv : TypeId} {f0 f1 : Field} {v : Value} {d : DataW H} {p : List MemPlace} (hts : P.underlying t = some (.slice tv)) (ht : P.underlying tv = some (.struct #[f0, f1])) (hC : P.cellsOf tv = 2)
    (o0 : f0.offset = 0) (o1 : f1.offset = 1) (c0 : P.cellsOf f0.type = 1) (c1 : P.cellsOf f1.type = 1)
    (h0 : P.underlying f0.type = some .string) (h1 : P.underlying f1.type = some (.int .i64))
    (hv : Value.okWide P w r b0 t v) (h : DataW.Trod enc P w 0 (fun _ => true) held t v d p) :
    ∃ (A : Option Addr) (L : List Ky) (c : Nat), v = .slice A L.length c ∧ KRow w A L ∧ (A = none → c = 0) ∧ L.length ≤ Rows.uptoBulk d := by
  obtain ⟨a0, len, cap, rfl⟩ := okWide_slice hts hv
  obtain ⟨fuel, hf⟩ := h
  rcases open_slice hts hf with ⟨hcs, hx⟩ | ⟨a, len', cap', m, n, D, Pl, hcs, _, hl, hm, hmm, hx, hel⟩
  · simp [Value.cells] at hcs
    obtain ⟨rfl, rfl, rfl⟩ := hcs
    exact ⟨none, [], 0, rfl, fun j hj => absurd hj (by simp), fun _ => rfl, Nat.zero_le _⟩
  · simp [Value.cells] at hcs
    obtain ⟨rfl, rfl, rfl⟩ := hcs
    simp only [if_true] at hmm
    have ex : ∀ i, i < len → ∃ s : Ky, (∀ j, j < 2 → w.cell? (a.add (i * 2 + j)) = [encStr s.n, Value.int .i64 s.d][j]?) ∧ 1 ≤ Rows.uptoBulk (D i) := by
      intro i hi
      obtain ⟨cs', e1, e2⟩ := hel i (by omega)
      obtain ⟨T, rfl, hb⟩ := trod_ky ht hC o0 o1 c0 c1 h0 h1 e2
      rw [hC] at e1
      obtain ⟨_, _, hcell⟩ := World.cells?_some e1
      refine ⟨T, fun j hj => ?_, hb⟩
      have := hcell j hj
      rw [add_add] at this
      exact this
    have ⟨f, hfn⟩ : ∃ f : Nat → Ky, ∀ i, i < len → (∀ j, j < 2 → w.cell? (a.add (i * 2 + j)) = [encStr (f i).n, Value.int .i64 (f i).d][j]?) ∧ 1 ≤ Rows.uptoBulk (D i) := by
      refine ⟨fun i => if h : i < len then Classical.choose (ex i h) else ⟨[], 0⟩, fun i hi => ?_⟩
      dsimp only
      rw [dif_pos hi]
      exact Classical.choose_spec (ex i hi)
    have hlen : ((List.range len).map f).length = len := by simp
    have hd : d = .slice ((List.range len).map D) ((List.range (m - len)).map fun j => D (len + j)) := (Prod.mk.inj hx).1
    have hsum : ∀ (q : List Nat), (∀ i ∈ q, i < len) → q.length ≤ Rows.uptoBulkAll (q.map D) := by
      intro q
      induction q with
      | nil => intro _; exact Nat.zero_le _
      | cons i q ih =>
        intro hq
        have h1 := ih (fun j hj => hq j (List.mem_cons_of_mem _ hj))
        have h2 := (hfn i (hq i List.mem_cons_self)).2
        simp only [List.map_cons, Rows.uptoBulkAll, List.length_cons] at h1 ⊢
        omega
    refine ⟨some a, (List.range len).map f, cap, by rw [hlen], krow_of (fun i hi => ?_), (fun e => nomatch e), ?_⟩
    · rw [hlen] at hi
      have e0 := (hfn i hi).1 0 (by omega)
      have e1 := (hfn i hi).1 1 (by omega)
      have ef : ((List.range len).map f)[i]'(by rw [hlen]; exact hi) = f i := by simp
      rw [ef]
      exact ⟨e0, e1⟩
    · have := hsum (List.range len) (fun i hi => List.mem_range.1 hi)
      rw [List.length_range] at this
      rw [hd, hlen]
      simp only [Rows.uptoBulk]
      omega
end
end Go.Proofs.YtoclpodjigfmgaaDoor
