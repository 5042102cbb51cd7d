/- X-PARTIAL An argument that is a slice of tokens, opened; what it weighs. -/
import Derived.Test.YtgaecojdebpcgaaDoorTokW
import Derived.Test.YtgaecojdebpcgaaDoorHoldKit
import Derived.Deep.SlicePairs
import Derived.OpenShut
namespace Go.Proofs.YtgaecojdebpcgaaDoor
open Go.ChangeShapes Go.WideShapes Go.ChangeAt Go.RowKit Go.Joins Go.Deep Go.Lib

section
variable {H : Type} {enc : TypeId × Value → H} {P : Program} {w : World} {held : Bool}
theorem trod_tok {t : TypeId} {f0 f1 f2 f3 : Field} {n : Nat} {cs : List Value} {x : DataW H × List MemPlace} (ht : P.underlying t = some (.struct #[f0, f1, f2, f3])) (hC : P.cellsOf t = 4)
    (o0 : f0.offset = 0) (o1 : f1.offset = 1) (o2 : f2.offset = 2) (o3 : f3.offset = 3) (c0 : P.cellsOf f0.type = 1) (c1 : P.cellsOf f1.type = 1) (c2 : P.cellsOf f2.type = 1) (c3 : P.cellsOf f3.type = 1)
    (h0 : P.underlying f0.type = some (.int .i64)) (h1 : P.underlying f1.type = some .string) (h2 : P.underlying f2.type = some (.int .i64)) (h3 : P.underlying f3.type = some (.int .i64))
    (h : DataW.trod enc P w 0 (fun _ => true) held n t cs = some x) : ∃ T : Tok, cs = T.c ∧ T.t.length + 1 ≤ Rows.uptoBulk x.1 := by
  obtain ⟨xs, m, rfl, rfl, hl, hlx, hf⟩ := DataW.trod_struct ht h
  rw [hC] at hl
  rcases cs with _ | ⟨v0, _ | ⟨v1, _ | ⟨v2, _ | ⟨v3, cs⟩⟩⟩⟩ <;> simp only [List.length_cons, List.length_nil] at hl <;> try omega
  have hcs : cs = [] := List.eq_nil_of_length_eq_zero (by omega)
  subst hcs
  have hlx4 : xs.length = 4 := hlx
  rcases xs with _ | ⟨y0, _ | ⟨y1, _ | ⟨y2, _ | ⟨y3, ys⟩⟩⟩⟩ <;> simp only [List.length_cons, List.length_nil] at hlx4 <;> try omega
  have q0 := hf 0 f0 rfl
  have q1 := hf 1 f1 rfl
  have q2 := hf 2 f2 rfl
  have q3 := hf 3 f3 rfl
  rw [o0, c0] at q0
  rw [o1, c1] at q1
  rw [o2, c2] at q2
  rw [o3, c3] at q3
  obtain ⟨k, e0, -, -⟩ := DataW.trod_int h0 (x := y0) q0
  obtain ⟨s, e1, g1, -⟩ := DataW.trod_string h1 (x := y1) q1
  obtain ⟨z, e2, -, -⟩ := DataW.trod_int h2 (x := y2) q2
  obtain ⟨p, e3, -, -⟩ := DataW.trod_int h3 (x := y3) q3
  simp only [List.drop_zero, List.drop_succ_cons, List.take_succ_cons, List.take_zero, List.cons.injEq, and_true] at e0 e1 e2 e3
  subst e0 e1 e2 e3
  refine ⟨⟨k, s.data.toList, z, p⟩, ?_, ?_⟩
  · show _ = [Value.int .i64 k, Value.string ⟨s.data.toList.toArray⟩, .int .i64 z, .int .i64 p]
    rw [Array.toArray_toList]
  · rw [g1]
    simp only [List.map_cons, Rows.uptoBulk, Rows.uptoBulkAll]
    omega

theorem open_toks {r : Reach} {b0 : Nat} {t tv : TypeId} {f0 f1 f2 f3 : Field} {v : Value} {d : DataW H} {p : List MemPlace} (hts : P.underlying t = some (.slice tv)) (ht : P.underlying tv = some (.struct #[f0, f1, f2, f3])) (hC : P.cellsOf tv = 4)
    (o0 : f0.offset = 0) (o1 : f1.offset = 1) (o2 : f2.offset = 2) (o3 : f3.offset = 3) (c0 : P.cellsOf f0.type = 1) (c1 : P.cellsOf f1.type = 1) (c2 : P.cellsOf f2.type = 1) (c3 : P.cellsOf f3.type = 1)
    (h0 : P.underlying f0.type = some (.int .i64)) (h1 : P.underlying f1.type = some .string) (h2 : P.underlying f2.type = some (.int .i64)) (h3 : P.underlying f3.type = some (.int .i64))
    (hv : Value.okWide P w r b0 t v) (h : DataW.Trod enc P w 0 (fun _ => true) held t v d p) :
    ∃ (A : Option Addr) (L : List Tok) (c : Nat), v = .slice A L.length c ∧ TRow w A L ∧ Lib.lens (L.map Tok.t) + L.length ≤ Rows.uptoBulk d := by
  obtain ⟨a0, len, cap, rfl⟩ := okWide_slice hts hv
  obtain ⟨fuel, hf⟩ := h
  rcases open_slice hts hf with ⟨hcs, hx⟩ | ⟨a, len', cap', m, n, D, Pl, hcs, _, hl, hm, hmm, hx, hel⟩
  · simp [Value.cells] at hcs
    obtain ⟨rfl, rfl, rfl⟩ := hcs
    exact ⟨none, [], 0, rfl, rfl, Nat.zero_le _⟩
  · simp [Value.cells] at hcs
    obtain ⟨rfl, rfl, rfl⟩ := hcs
    simp only [if_true] at hmm
    have ex : ∀ i, i < len → ∃ s : Tok, (∀ j, j < 4 → w.cell? (a.add (i * 4 + j)) = s.c[j]?) ∧ s.t.length + 1 ≤ Rows.uptoBulk (D i) := by
      intro i hi
      obtain ⟨cs', e1, e2⟩ := hel i (by omega)
      obtain ⟨T, rfl, hb⟩ := trod_tok ht hC o0 o1 o2 o3 c0 c1 c2 c3 h0 h1 h2 h3 e2
      rw [hC] at e1
      obtain ⟨_, _, hcell⟩ := World.cells?_some e1
      refine ⟨T, fun j hj => ?_, hb⟩
      have := hcell j hj
      rw [add_add] at this
      exact this
    have ⟨f, hfn⟩ : ∃ f : Nat → Tok, ∀ i, i < len → (∀ j, j < 4 → w.cell? (a.add (i * 4 + j)) = (f i).c[j]?) ∧ (f i).t.length + 1 ≤ Rows.uptoBulk (D i) := by
      refine ⟨fun i => if h : i < len then Classical.choose (ex i h) else ⟨0, [], 0, 0⟩, fun i hi => ?_⟩
      dsimp only
      rw [dif_pos hi]
      exact Classical.choose_spec (ex i hi)
    have hlen : ((List.range len).map f).length = len := by simp
    have hd : d = .slice ((List.range len).map D) ((List.range (m - len)).map fun j => D (len + j)) := (Prod.mk.inj hx).1
    have hsum : ∀ (q : List Nat), (∀ i ∈ q, i < len) → Lib.lens ((q.map f).map Tok.t) + q.length ≤ Rows.uptoBulkAll (q.map D) := by
      intro q
      induction q with
      | nil => intro _; exact Nat.zero_le _
      | cons i q ih =>
        intro hq
        have h1 := ih (fun j hj => hq j (List.mem_cons_of_mem _ hj))
        have h2 := (hfn i (hq i List.mem_cons_self)).2
        simp only [List.map_cons, Lib.lens, List.sum_cons, Rows.uptoBulkAll, List.length_cons] at h1 ⊢
        omega
    refine ⟨some a, (List.range len).map f, cap, by rw [hlen], fun i hi => ?_, ?_⟩
    · rw [tcells_len, hlen] at hi
      have hq : i / 4 < len := by omega
      have e := (hfn (i / 4) hq).1 (i % 4) (by omega)
      have ei : i / 4 * 4 + i % 4 = i := by omega
      rw [ei] at e
      obtain ⟨t0, t1, t2, t3⟩ := tcells_get ((List.range len).map f) (i / 4) (by rw [hlen]; exact hq)
      have ef : ((List.range len).map f)[i / 4]'(by rw [hlen]; exact hq) = f (i / 4) := by simp
      rw [ef] at t0 t1 t2 t3
      have hgoal : (tcells ((List.range len).map f))[i]? = (f (i / 4)).c[i % 4]? := by
        have hr : i % 4 = 0 ∨ i % 4 = 1 ∨ i % 4 = 2 ∨ i % 4 = 3 := by omega
        rcases hr with hr | hr | hr | hr
        · rw [hr]; rw [show i / 4 * 4 = i by omega] at t0; exact t0
        · rw [hr]; rw [show i / 4 * 4 + 1 = i by omega] at t1; exact t1
        · rw [hr]; rw [show i / 4 * 4 + 2 = i by omega] at t2; exact t2
        · rw [hr]; rw [show i / 4 * 4 + 3 = i by omega] at t3; exact t3
      rw [e, ← hgoal]
      exact List.getElem?_eq_getElem _
    · have := hsum (List.range len) (fun i hi => List.mem_range.1 hi)
      rw [List.length_range] at this
      rw [hd, hlen]
      simp only [Rows.uptoBulk]
      omega
end
end Go.Proofs.YtgaecojdebpcgaaDoor
