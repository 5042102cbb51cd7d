/- An argument that is an array of two wide numbers, opened. -/
import Derived.Test.YtdphjfppfngcmaaHoldKit
import Derived.Test.YtdphjfppfngcmaaOpenW
import Derived.WideKeyArr2
namespace Go.Proofs.Ytdphjfppfngcmaa
open Go.ChangeShapes Go.WideShapes Go.ChangeAt Go.RowKit Go.Joins Go.Deep

theorem array4_of {cs : Array Value} (h : cs.size = 4) : ∃ a b c d, cs = #[a, b, c, d] := by
  obtain ⟨l⟩ := cs
  match l, h with
  | [a, b, c, d], _ => exact ⟨a, b, c, d, rfl⟩
theorem open_arr2w {H : Type} {enc : TypeId × Value → H} {P : Program} {w : World} {sp : Nat → Bool} {held : Bool} {r : Reach} {b0 : Nat} {k e : TypeId} {f0 f1 : Field} {v : Value} {d : DataW H} {p : List MemPlace}
    (hu : P.underlying k = some (.array 2 e)) (he : P.underlying e = some (.struct #[f0, f1])) (hc : P.cellsOf e = 2) (h3 : P.cellsOf k = 4)
    (h0 : P.underlying f0.type = some (.int .i64)) (h1 : P.underlying f1.type = some (.int .u64)) (ho : oneCellFields P #[f0, f1] = true)
    (hv : Value.okWide P w r b0 k v) (h : DataW.Trod enc P w 0 sp held k v d p) :
    ∃ x0 y0 x1 y1 : Int, v = .agg #[.int .i64 x0, .int .u64 y0, .int .i64 x1, .int .u64 y1] ∧ (Lit.int .i64 x0).wf = true ∧ (Lit.int .u64 y0).wf = true ∧ (Lit.int .i64 x1).wf = true ∧ (Lit.int .u64 y1).wf = true := by
  simp only [Value.okWide, hu] at hv
  obtain ⟨cs, rfl, h2, _⟩ := hv
  obtain ⟨c0, c1, c2, c3, rfl⟩ := array4_of (h2.trans h3)
  obtain ⟨fuel, hf⟩ := h
  cases fuel with
  | zero => simp [DataW.trod] at hf
  | succ m =>
    rw [DataW.trod_step] at hf
    unfold DataW.trodStep at hf
    simp only [hu, Value.cells] at hf
    rw [if_pos (by rw [h3]; rfl)] at hf
    simp only [Option.map_eq_some_iff] at hf
    obtain ⟨ys, hy, _⟩ := hf
    simp only [hc, List.range_succ, List.range_zero, List.nil_append, List.cons_append, List.mapM_cons, bind, Option.bind_eq_some_iff] at hy
    obtain ⟨y0, g0, ys1, ⟨y1, g1, _⟩, _⟩ := hy
    simp at g0 g1
    obtain ⟨o0, k0⟩ := hone_of ho 0 f0 rfl
    obtain ⟨o1, k1⟩ := hone_of ho 1 f1 rfl
    obtain ⟨_, _, _, _, _, q0, q1⟩ := trod_struct2 he g0
    obtain ⟨_, _, _, _, _, q2, q3⟩ := trod_struct2 he g1
    rw [o0, k0] at q0 q2
    rw [o1, k1] at q1 q3
    obtain ⟨x0, e0, _, w0⟩ := DataW.trod_int h0 q0
    obtain ⟨x1, e1, _, w1⟩ := DataW.trod_int h1 q1
    obtain ⟨x2, e2, _, w2⟩ := DataW.trod_int h0 q2
    obtain ⟨x3, e3, _, w3⟩ := DataW.trod_int h1 q3
    simp at e0 e1 e2 e3
    subst e0 e1 e2 e3
    exact ⟨x0, x1, x2, x3, rfl, w0, w1, w2, w3⟩
end Go.Proofs.Ytdphjfppfngcmaa
