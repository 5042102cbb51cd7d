/- An argument that is an array of two words, opened. -/
import Derived.Test.YtbjdiaakhlgcgaaHoldKit
import Derived.WideKeyArr2
namespace Go.Proofs.Ytbjdiaakhlgcgaa
open Go.ChangeShapes Go.WideShapes Go.ChangeAt Go.RowKit Go.Joins

theorem open_arr2u {H : Type} {enc : TypeId × Value → H} {P : Program} {w : World} {sp : Nat → Bool} {held : Bool} {r : Reach} {b0 : Nat} {k e : TypeId} {v : Value} {d : DataW H} {p : List MemPlace}
    (hu : P.underlying k = some (.array 2 e)) (he : P.underlying e = some (.int .u64)) (h1 : P.cellsOf e = 1) (h3 : P.cellsOf k = 2) (hv : Value.okWide P w r b0 k v) (h : DataW.Trod enc P w 0 sp held k v d p) :
    ∃ a b : Int, v = .agg #[.int .u64 a, .int .u64 b] ∧ (Lit.int .u64 a).wf = true ∧ (Lit.int .u64 b).wf = true := by
  simp only [Value.okWide, hu] at hv
  obtain ⟨cs, rfl, h2, _⟩ := hv
  obtain ⟨c0, c1, rfl⟩ := array2 (h2.trans h3)
  obtain ⟨fuel, hf⟩ := h
  cases fuel with
  | zero => simp [DataW.trod] at hf
  | succ m =>
    rw [DataW.trod_step] at hf
    unfold DataW.trodStep at hf
    simp only [hu, Value.cells] at hf
    rw [if_pos (by rw [h3]; rfl)] at hf
    simp only [Option.map_eq_some_iff] at hf
    obtain ⟨ys, hy, _⟩ := hf
    simp only [h1, List.range_succ, List.range_zero, List.nil_append, List.cons_append, List.mapM_cons, bind, Option.bind_eq_some_iff, Nat.mul_one] at hy
    obtain ⟨y0, g0, ys1, ⟨y1, g1, _⟩, _⟩ := hy
    simp at g0 g1
    obtain ⟨a, ea, _, wa⟩ := DataW.trod_int he g0
    obtain ⟨b, eb, _, wb⟩ := DataW.trod_int he g1
    simp at ea eb
    subst ea eb
    exact ⟨a, b, rfl, wa, wb⟩
end Go.Proofs.Ytbjdiaakhlgcgaa
