/- Arguments that are sets (a truth, and a slice of strings) and strings, opened; what they weigh. -/
import Derived.Test.YtnbpdkcnldeljaaHoldKit
import Derived.Test.YtnbpdkcnldeljaaNamB
import Derived.ChangeMaps5
import Derived.Deep.Slices
import Derived.JoinedCond
namespace Go.Proofs.Ytnbpdkcnldeljaa
open Go.ChangeShapes Go.WideShapes Go.ChangeAt Go.RowKit Go.Joins Go.Deep

theorem bulk_one {H : Type} (d : DataW H) : 1 ≤ Rows.uptoBulk d := by
  cases d with
  | lit l => cases l <;> simp [Rows.uptoBulk]
  | _ => simp [Rows.uptoBulk]
theorem bulk_len {H : Type} (l : List (DataW H)) : l.length ≤ Rows.uptoBulkAll l := by
  induction l with
  | nil => simp [Rows.uptoBulkAll]
  | cons d l ih => have := bulk_one d; simp only [Rows.uptoBulkAll, List.length_cons]; omega
def SetShape {H : Type} (l : List Str) (d : DataW H) : Prop := l = [] ∨ ∃ (y : DataW H) (el sp : List (DataW H)), d = .agg [y, .slice el sp] ∧ el.length = l.length
theorem SetShape.bulk {H : Type} {l : List Str} {d : DataW H} (h : SetShape l d) : l.length ≤ Rows.uptoBulk d := by
  rcases h with rfl | ⟨y, el, sp, rfl, e⟩
  · simp
  · have := bulk_len el
    simp only [Rows.uptoBulk, Rows.uptoBulkAll]
    omega

section
variable {H : Type} {enc : TypeId × Value → H} {P : Program} {w : World} {held : Bool}
theorem trod_str {e : TypeId} (he : P.underlying e = some .string) {b : Nat} {sp : Nat → Bool} {n : Nat} {c : Value} {x : DataW H × List MemPlace} (h : DataW.trod enc P w b sp held n e [c] = some x) : ∃ s : Str, c = encStr s := by
  cases n with
  | zero => simp [DataW.trod] at h
  | succ n =>
    rw [DataW.trod_step] at h
    unfold DataW.trodStep at h
    rw [he] at h
    split at h <;> simp_all
    next s _ => exact ⟨s.data.toList, rfl⟩
theorem open_strs {t e : TypeId} (ht : P.underlying t = some (.slice e)) (he : P.underlying e = some .string) (hc : P.cellsOf e = 1) {a0 : Option Addr} {len cap fuel : Nat} {x : DataW H × List MemPlace}
    (h : DataW.trod enc P w 0 (fun _ => true) held fuel t [.slice a0 len cap] = some x) :
    ∃ l : List Str, len = l.length ∧ SRow w a0 l ∧ l.length ≤ 9223372036854775807 ∧ (a0 = none → cap = 0) ∧ (l = [] ∨ ∃ el sp, x.1 = .slice el sp ∧ el.length = l.length) := by
  rcases open_slice1 ht hc h with ⟨hcs, hx⟩ | ⟨a, len', cap', m, n, V, D, Pl, hcs, _, hl, hm, hmm, hx, hel⟩
  · simp at hcs
    obtain ⟨rfl, rfl, rfl⟩ := hcs
    exact ⟨[], rfl, rfl, by simp, fun _ => rfl, Or.inl rfl⟩
  · simp at hcs
    obtain ⟨rfl, rfl, rfl⟩ := hcs
    simp only [if_true] at hmm
    have ex : ∀ i, i < len → ∃ s : Str, w.cell? (a.add i) = some (encStr s) := by
      intro i hi
      obtain ⟨h1, h2⟩ := hel i (by omega)
      obtain ⟨s, hs⟩ := trod_str he h2
      exact ⟨s, by rw [h1, hs]⟩
    have ⟨f, hfn⟩ : ∃ f : Nat → Str, ∀ i, i < len → w.cell? (a.add i) = some (encStr (f i)) := by
      refine ⟨fun i => if h : i < len then Classical.choose (ex i h) else [], fun i hi => ?_⟩
      dsimp only
      rw [dif_pos hi]
      exact Classical.choose_spec (ex i hi)
    have hlen : ((List.range len).map f).length = len := by simp
    refine ⟨(List.range len).map f, hlen.symm, ?_, by unfold maxLen at hm; omega, fun e => (by cases e), Or.inr ⟨_, _, by rw [hx], by simp⟩⟩
    intro i hi
    have hi' : i < len := by simpa using hi
    have := hfn i hi'
    simpa using this
theorem open_set {r : Reach} {b0 : Nat} {t e : TypeId} {f0 f1 : Field} {v : Value} {d : DataW H} {p : List MemPlace} (ht : P.underlying t = some (.struct #[f0, f1])) (hone : oneCellFields P #[f0, f1] = true) (hC : P.cellsOf t = 2)
    (h0 : P.underlying f0.type = some .bool) (h1 : P.underlying f1.type = some (.slice e)) (he : P.underlying e = some .string) (hc : P.cellsOf e = 1)
    (hv : Value.okWide P w r b0 t v) (h : DataW.Trod enc P w 0 (fun _ => true) held t v d p) :
    ∃ (n : Bool) (A : Option Addr) (l : List Str) (c : Nat), v = .agg #[.bool n, .slice A l.length c] ∧ SRow w A l ∧ l.length ≤ 9223372036854775807 ∧ (A = none → c = 0) ∧ SetShape l d := by
  obtain ⟨c0, c1, y0, y1, n, rfl, rfl, rfl, hy0, hy1⟩ := open_agg2 ht hone hC hv h
  obtain ⟨z, e0, _⟩ := DataW.trod_bool h0 hy0
  simp at e0
  subst e0
  have hy1' := hy1
  cases n with
  | zero => simp [DataW.trod] at hy1
  | succ n =>
    have hs : ∃ a l c, c1 = .slice a l c := by
      rcases open_slice1 h1 (by rw [hc]) hy1 with ⟨hcs, _⟩ | ⟨a, len', cap', _, _, _, _, _, hcs, _⟩
      · simp at hcs; exact ⟨_, _, _, hcs⟩
      · simp at hcs; exact ⟨_, _, _, hcs⟩
    obtain ⟨a, len, cap, rfl⟩ := hs
    obtain ⟨l, rfl, hr, hm, hz, hx⟩ := open_strs h1 he hc hy1'
    refine ⟨z, a, l, cap, rfl, hr, hm, hz, ?_⟩
    rcases hx with h | ⟨el, sp, h, h'⟩
    · exact Or.inl h
    · exact Or.inr ⟨_, el, sp, by rw [h], h'⟩
end
theorem SetShape.reach {H : Type} {P : Program} {ts : List TypeId} {ds : List (DataW H)} (hw : (DataW.weightsEach P ts ds).all (· ≤ reachBytes) = true) {j : Nat} {t e : TypeId} {f0 f1 : Field} {d : DataW H} {l : List Str} (h : SetShape l d)
    (ht : ts[j]? = some t) (hd : ds[j]? = some d) (hu : P.underlying t = some (.struct #[f0, f1])) (h1 : P.underlying f1.type = some (.slice e)) (hb : P.bytesOf e = 16) : l.length * 16 ≤ 140737488351232 := by
  rcases h with rfl | ⟨y, el, sp, rfl, hl⟩
  · simp
  · have := List.all_eq_true.1 hw _ (DataW.weights_mem_each ht hd ((el.length + sp.length) * P.bytesOf e) (by simp [DataW.weights, DataW.weightsEach, hu, h1]))
    rw [hb] at this
    have this := of_decide_eq_true this
    unfold reachBytes at this
    rw [← hl]
    omega
end Go.Proofs.Ytnbpdkcnldeljaa
