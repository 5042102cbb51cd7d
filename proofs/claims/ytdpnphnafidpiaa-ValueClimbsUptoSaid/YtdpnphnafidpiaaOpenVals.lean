/- An argument that is a slice of values, opened; what it weighs. -/
import Derived.Test.YtdpnphnafidpiaaOpenVZ
import Derived.Test.YtdpnphnafidpiaaVRow
import Derived.Deep.SlicePairs
namespace Go.Proofs.Ytdpnphnafidpiaa
open Go.ChangeShapes Go.WideShapes Go.ChangeAt Go.RowKit Go.Joins Go.Deep

theorem irow_bulk {H : Type} {d : DataW H} {l : List Int} (h : d = .nil ∧ l = [] ∨ ∃ el sp, d = .slice el sp ∧ el.length = l.length) : l.length ≤ Rows.uptoBulk d := by
  rcases h with ⟨_, rfl⟩ | ⟨el, sp, rfl, e⟩
  · simp
  · have := bulk_len el
    simp only [Rows.uptoBulk]
    omega
section
variable {H : Type} {enc : TypeId × Value → H} {P : Program} {w : World} {held : Bool}
theorem open_vrow {r : Reach} {b0 : Nat} {t tv e : TypeId} {f0 f1 f2 g0 g1 : Field} {v : Value} {d : DataW H} {p : List MemPlace} (hts : P.underlying t = some (.slice tv)) (ht : P.underlying tv = some (.struct #[f0, f1, f2])) (hC : P.cellsOf tv = 8)
    (o0 : f0.offset = 0) (o1 : f1.offset = 3) (o2 : f2.offset = 6) (c0 : P.cellsOf f0.type = 3) (c1 : P.cellsOf f1.type = 3) (c2 : P.cellsOf f2.type = 2)
    (fl0 : flat P 8 f0.type = some [.b, .i .i64, .i .i64]) (fl1 : flat P 8 f1.type = some [.b, .i .i64, .i .i64]) (hs : P.underlying f2.type = some (.struct #[g0, g1])) (q0 : g0.offset = 0) (q1 : g1.offset = 1)
    (k0 : P.cellsOf g0.type = 1) (k1 : P.cellsOf g1.type = 1) (h0 : P.underlying g0.type = some .bool) (h1 : P.underlying g1.type = some (.slice e)) (he : P.underlying e = some .string) (hc : P.cellsOf e = 1)
    (hv : Value.okWide P w r b0 t v) (h : DataW.Trod enc P w 0 (fun _ => true) held t v d p) :
    ∃ (A : Option Addr) (L : List NVal) (c : Nat), v = .slice A L.length c ∧ VRow w A L ∧ VAll w L ∧ L.length ≤ 9223372036854775807 ∧ sumV L ≤ Rows.uptoBulk d ∧ L.length ≤ Rows.uptoBulk d := by
  obtain ⟨a0, len, cap, rfl⟩ := okWide_slice hts hv
  obtain ⟨fuel, hf⟩ := h
  rcases open_slice hts hf with ⟨hcs, hx⟩ | ⟨a, len', cap', m, n, D, Pl, hcs, _, hl, hm, hmm, hx, hel⟩
  · simp [Value.cells] at hcs
    obtain ⟨rfl, rfl, rfl⟩ := hcs
    exact ⟨none, [], 0, rfl, rfl, fun s hs => by simp at hs, by simp, by simp [sumV], by simp⟩
  · simp [Value.cells] at hcs
    obtain ⟨rfl, rfl, rfl⟩ := hcs
    simp only [if_true] at hmm
    have ex : ∀ i, i < len → ∃ s : NVal, (∀ j, j < 8 → w.cell? (a.add (i * 8 + j)) = s.cells[j]?) ∧ (s.i.ok ∧ SRow w s.A s.l ∧ (s.A = none → s.c = 0)) ∧ s.l.length ≤ Rows.uptoBulk (D i) := by
      intro i hi
      obtain ⟨cs', e1, e2⟩ := hel i (by omega)
      obtain ⟨ii, b, A, l, c, rfl, h2, h3, h4, h5, h6⟩ := trod_val ht hC o0 o1 o2 c0 c1 c2 fl0 fl1 hs q0 q1 k0 k1 h0 h1 he hc e2
      rw [hC] at e1
      obtain ⟨_, _, hcell⟩ := World.cells?_some e1
      refine ⟨⟨ii, b, A, l, c⟩, fun j hj => ?_, ⟨h2, h3, h5⟩, h6.bulk⟩
      have := hcell j hj
      rw [add_add] at this
      exact this
    have ⟨f, hfn⟩ : ∃ f : Nat → NVal, ∀ i, i < len → (∀ j, j < 8 → w.cell? (a.add (i * 8 + j)) = (f i).cells[j]?) ∧ ((f i).i.ok ∧ SRow w (f i).A (f i).l ∧ ((f i).A = none → (f i).c = 0)) ∧ (f i).l.length ≤ Rows.uptoBulk (D i) := by
      refine ⟨fun i => if h : i < len then Classical.choose (ex i h) else ⟨In.zero, false, none, [], 0⟩, fun i hi => ?_⟩
      dsimp only
      rw [dif_pos hi]
      exact Classical.choose_spec (ex i hi)
    have hlen : ((List.range len).map f).length = len := by simp
    have hd : d = .slice ((List.range len).map D) ((List.range (m - len)).map fun j => D (len + j)) := (Prod.mk.inj hx).1
    have hsum : ∀ (q : List Nat), (∀ i ∈ q, i < len) → sumV (q.map f) ≤ Rows.uptoBulkAll (q.map D) := by
      intro q
      induction q with
      | nil => intro _; simp [sumV]
      | cons i q ih =>
        intro hq
        have h1 := ih (fun j hj => hq j (List.mem_cons_of_mem _ hj))
        have h2 := (hfn i (hq i List.mem_cons_self)).2.2
        simp only [List.map_cons, sumV, Rows.uptoBulkAll]
        omega
    refine ⟨some a, (List.range len).map f, cap, by rw [hlen], fun i hi j hj => ?_, fun s hs => ?_, by unfold maxLen at hm; omega, ?_, ?_⟩
    · have hi' : i < len := by simpa using hi
      have := (hfn i hi').1 j hj
      simpa using this
    · obtain ⟨i, hi, rfl⟩ := List.mem_map.1 hs
      exact (hfn i (List.mem_range.1 hi)).2.1
    · have := hsum (List.range len) (fun i hi => List.mem_range.1 hi)
      rw [hd]
      simp only [Rows.uptoBulk]
      omega
    · have := bulk_len ((List.range len).map D)
      rw [hd]
      simp only [Rows.uptoBulk]
      simp only [List.length_map, List.length_range] at this ⊢
      omega
end
end Go.Proofs.Ytdpnphnafidpiaa
