/- An argument that is a slice of sets, opened; what it weighs. -/
import Derived.Test.YtnbpdkcnldeljaaOpenSet
import Derived.Test.YtnbpdkcnldeljaaNamV
import Derived.Deep.SlicePairs
namespace Go.Proofs.Ytnbpdkcnldeljaa
open Go.ChangeShapes Go.WideShapes Go.ChangeAt Go.RowKit Go.Joins Go.Deep

section
variable {H : Type} {enc : TypeId × Value → H} {P : Program} {w : World} {held : Bool}
theorem open_nrow {r : Reach} {b0 : Nat} {t e u : TypeId} {f0 f1 : Field} {v : Value} {d : DataW H} {p : List MemPlace} (ht : P.underlying t = some (.slice e)) (he : P.underlying e = some (.struct #[f0, f1])) (hc : P.cellsOf e = 2)
    (h0 : P.underlying f0.type = some .bool) (h1 : P.underlying f1.type = some (.slice u)) (hu : P.underlying u = some .string) (hcu : P.cellsOf u = 1) (o0 : f0.offset = 0) (o1 : f1.offset = 1) (c0 : P.cellsOf f0.type = 1) (c1 : P.cellsOf f1.type = 1)
    (hv : Value.okWide P w r b0 t v) (h : DataW.Trod enc P w 0 (fun _ => true) held t v d p) :
    ∃ (A : Option Addr) (L : List NSet) (c : Nat), v = .slice A L.length c ∧ NRow w A L ∧ NAll w L ∧ L.length ≤ 9223372036854775807 ∧ sumS L ≤ Rows.uptoBulk d ∧ L.length ≤ Rows.uptoBulk d := by
  obtain ⟨a0, len, cap, rfl⟩ := okWide_slice ht hv
  obtain ⟨fuel, hf⟩ := h
  rcases open_slice_pairs ht he hc o0 o1 c0 c1 hf with ⟨hcs, hx⟩ | ⟨a, len', cap', m, n, V0, V1, D0, D1, P0, P1, hcs, _, hl, hm, hmm, hx, hel⟩
  · simp [Value.cells] at hcs
    obtain ⟨rfl, rfl, rfl⟩ := hcs
    exact ⟨none, [], 0, rfl, rfl, fun s hs => by simp at hs, by simp, by simp [sumS], by simp⟩
  · simp [Value.cells] at hcs
    obtain ⟨rfl, rfl, rfl⟩ := hcs
    simp only [if_true] at hmm
    have ex : ∀ i, i < len → ∃ s : NSet, (w.cell? (a.add (i * 2)) = some (.bool s.n) ∧ w.cell? (a.add (i * 2 + 1)) = some (.slice s.A s.l.length s.c)) ∧ (SRow w s.A s.l ∧ (s.A = none → s.c = 0)) ∧ s.l.length ≤ Rows.uptoBulk (D1 i) := by
      intro i hi
      obtain ⟨k0, k1, t0, t1⟩ := hel i (by omega)
      obtain ⟨x0, e0, _⟩ := DataW.trod_bool h0 t0
      simp at e0
      have hs : ∃ a' l' c', V1 i = .slice a' l' c' := by
        rcases open_slice1 h1 hcu t1 with ⟨hcs, _⟩ | ⟨a', len', cap', _, _, _, _, _, hcs, _⟩
        · simp at hcs; exact ⟨_, _, _, hcs⟩
        · simp at hcs; exact ⟨_, _, _, hcs⟩
      obtain ⟨a', l', c', hs⟩ := hs
      rw [hs] at t1 k1
      obtain ⟨q, rfl, hr, _, hz, hsh⟩ := open_strs h1 hu hcu t1
      refine ⟨⟨x0, a', q, c'⟩, ⟨by rw [k0, e0], k1⟩, ⟨hr, hz⟩, ?_⟩
      rcases hsh with rfl | ⟨el, sp, hd, hl'⟩
      · simp
      · dsimp only at hd ⊢
        have := bulk_len el
        rw [hd, ← hl']
        simp only [Rows.uptoBulk]
        omega
    have ⟨f, hfn⟩ : ∃ f : Nat → NSet, ∀ i, i < len → (w.cell? (a.add (i * 2)) = some (.bool (f i).n) ∧ w.cell? (a.add (i * 2 + 1)) = some (.slice (f i).A (f i).l.length (f i).c)) ∧ (SRow w (f i).A (f i).l ∧ ((f i).A = none → (f i).c = 0)) ∧ (f i).l.length ≤ Rows.uptoBulk (D1 i) := by
      refine ⟨fun i => if h : i < len then Classical.choose (ex i h) else ⟨false, none, [], 0⟩, fun i hi => ?_⟩
      dsimp only
      rw [dif_pos hi]
      exact Classical.choose_spec (ex i hi)
    have hlen : ((List.range len).map f).length = len := by simp
    have hd : d = .slice ((List.range len).map fun i => .agg [D0 i, D1 i]) ((List.range (m - len)).map fun j => .agg [D0 (len + j), D1 (len + j)]) := (Prod.mk.inj hx).1
    have hsum : ∀ (q : List Nat), (∀ i ∈ q, i < len) → sumS (q.map f) ≤ Rows.uptoBulkAll (q.map fun i => DataW.agg [D0 i, D1 i]) := by
      intro q
      induction q with
      | nil => intro _; simp [sumS]
      | cons i q ih =>
        intro hq
        have h1 := ih (fun j hj => hq j (List.mem_cons_of_mem _ hj))
        have h2 := (hfn i (hq i List.mem_cons_self)).2.2
        simp only [List.map_cons, sumS, Rows.uptoBulkAll, Rows.uptoBulk]
        omega
    refine ⟨some a, (List.range len).map f, cap, by rw [hlen], fun i hi => ?_, fun s hs => ?_, by unfold maxLen at hm; omega, ?_, ?_⟩
    · have hi' : i < len := by simpa using hi
      have := (hfn i hi').1
      simpa using this
    · obtain ⟨i, hi, rfl⟩ := List.mem_map.1 hs
      exact (hfn i (List.mem_range.1 hi)).2.1
    · have := hsum (List.range len) (fun i hi => List.mem_range.1 hi)
      rw [hd]
      simp only [Rows.uptoBulk]
      omega
    · have := bulk_len ((List.range len).map fun i => DataW.agg [D0 i, D1 i])
      rw [hd]
      simp only [Rows.uptoBulk]
      simp only [List.length_map, List.length_range] at this ⊢
      omega
end
end Go.Proofs.Ytnbpdkcnldeljaa
