/- An argument that is a slice of wide numbers, opened to what the walks read. -/
import Derived.Test.YtdphjfppfngcmaaHoldKit
import Derived.Test.YtdphjfppfngcmaaWRow
import Derived.Deep.Slices
import Derived.ChangeSame
namespace Go.Proofs.Ytdphjfppfngcmaa
open Go.ChangeShapes Go.WideShapes Go.ChangeAt Go.RowKit Go.Joins Go.Deep

section
variable {H : Type} {enc : TypeId × Value → H} {P : Program} {w : World} {held : Bool}
theorem open_wrow {r : Reach} {b0 : Nat} {t e : TypeId} {f0 f1 : Field} {v : Value} {d : DataW H} {p : List MemPlace} (ht : P.underlying t = some (.slice e)) (he : P.underlying e = some (.struct #[f0, f1])) (hc : P.cellsOf e = 2)
    (h0 : P.underlying f0.type = some (.int .i64)) (h1 : P.underlying f1.type = some (.int .u64)) (ho : oneCellFields P #[f0, f1] = true)
    (hv : Value.okWide P w r b0 t v) (h : DataW.Trod enc P w 0 (fun _ => true) held t v d p) :
    ∃ (A : Option Addr) (l : List Int) (c : Nat), v = .slice A l.length c ∧ WRow w A l ∧ l.length ≤ 9223372036854775807 ∧ (∀ x ∈ l, I128 x) := by
  obtain ⟨a0, len, cap, rfl⟩ := okWide_slice ht hv
  obtain ⟨fuel, hf⟩ := h
  rcases Deep.open_slice ht hf with ⟨hcs, hx⟩ | ⟨a, len', cap', m, n, D, Pl, hcs, _, hl, hm, hmm, hx, hel⟩
  · simp [Value.cells] at hcs
    obtain ⟨rfl, rfl, rfl⟩ := hcs
    exact ⟨none, [], 0, rfl, rfl, by simp, by simp⟩
  · simp [Value.cells] at hcs
    obtain ⟨rfl, rfl, rfl⟩ := hcs
    simp only [if_true] at hmm
    have ex : ∀ i, i < len → ∃ x : Int, (w.cell? (a.add (i * 2)) = some (.int .i64 (hiW x)) ∧ w.cell? (a.add (i * 2 + 1)) = some (.int .u64 (loW x))) ∧ I128 x := by
      intro i hi
      obtain ⟨cs, hcells, htr⟩ := hel i (by omega)
      rw [hc] at hcells
      obtain ⟨_, hlen, hat⟩ := World.cells?_some hcells
      obtain ⟨y0, y1, n', _, _, g0, g1⟩ := trod_struct2 he htr
      obtain ⟨o0, k0⟩ := hone_of ho 0 f0 rfl
      obtain ⟨o1, k1⟩ := hone_of ho 1 f1 rfl
      rw [o0, k0] at g0; rw [o1, k1] at g1
      match cs, hlen with
      | [c0, c1], _ =>
        obtain ⟨x0, e0, _, w0⟩ := DataW.trod_int h0 g0
        obtain ⟨x1, e1, _, w1⟩ := DataW.trod_int h1 g1
        simp at e0 e1
        subst e0 e1
        have a0 := hat 0 (by omega)
        have a1 := hat 1 (by omega)
        rw [Deep.add_add] at a0 a1
        have u1 := u64_of_wf w1
        refine ⟨wv x0 x1, ⟨?_, ?_⟩, I128_wv (i64_of_wf w0) u1⟩
        · rw [hiW_wv _ _ u1]; exact a0
        · rw [loW_wv _ _ u1]; exact a1
    have ⟨f, hfn⟩ : ∃ f : Nat → Int, ∀ i, i < len → (w.cell? (a.add (i * 2)) = some (.int .i64 (hiW (f i))) ∧ w.cell? (a.add (i * 2 + 1)) = some (.int .u64 (loW (f i)))) ∧ I128 (f i) := by
      refine ⟨fun i => if h : i < len then Classical.choose (ex i h) else 0, fun i hi => ?_⟩
      dsimp only
      rw [dif_pos hi]
      exact Classical.choose_spec (ex i hi)
    have hlen : ((List.range len).map f).length = len := by simp
    refine ⟨some a, (List.range len).map f, cap, by rw [hlen], fun i hi => ?_, by unfold maxLen at hm; omega, fun s hs => ?_⟩
    · have hi' : i < len := by simpa using hi
      have := (hfn i hi').1
      simpa using this
    · obtain ⟨i, hi, rfl⟩ := List.mem_map.1 hs
      exact (hfn i (List.mem_range.1 hi)).2
end
end Go.Proofs.Ytdphjfppfngcmaa
