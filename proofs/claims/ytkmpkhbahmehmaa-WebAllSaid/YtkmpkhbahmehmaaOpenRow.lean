/- An argument that is a slice of flat structs (ints, truths, strings, whatever lies in whatever), opened; its shape, its length. General: over any program. -/
import Derived.Test.YtkmpkhbahmehmaaRows
import Derived.Test.YtkmpkhbahmehmaaFlat
import Derived.Deep.SlicePairs
import Derived.OpenShut
namespace Go.Proofs.Ytkmpkhbahmehmaa
open Go.ChangeShapes Go.WideShapes Go.ChangeAt Go.RowKit Go.Joins Go.Deep Go.Lib

/-- A slice's datum, by its length. -/
def RowShape {H : Type} (n : Nat) (d : DataW H) : Prop := (n = 0 ∧ d = .nil) ∨ ∃ el sp, d = .slice el sp ∧ el.length = n
theorem RowShape.reach {H : Type} {P : Program} {ts : List TypeId} {ds : List (DataW H)} (hw : (DataW.weightsEach P ts ds).all (· ≤ reachBytes) = true) {j : Nat} {t e : TypeId} {d : DataW H} {n k : Nat} (h : RowShape n d)
    (ht : ts[j]? = some t) (hd : ds[j]? = some d) (hu : P.underlying t = some (.slice e)) (hb : P.bytesOf e = k) : n * k ≤ 140737488351232 := by
  rcases h with ⟨rfl, rfl⟩ | ⟨el, sp, rfl, hl⟩
  · simp
  · have := List.all_eq_true.1 hw _ (DataW.weights_mem_each ht hd ((el.length + sp.length) * P.bytesOf e) (by simp [DataW.weights, hu]))
    rw [hb] at this
    have this := of_decide_eq_true this
    unfold reachBytes at this
    rw [hl, Nat.add_mul] at this
    exact Nat.le_trans (Nat.le_add_right _ _) this

section
variable {H : Type} {enc : TypeId × Value → H} {P : Program} {w : World} {held : Bool}
theorem open_frow {α : Type} [Inhabited α] (enc' : α → List Value) (q : α → Prop) {r : Reach} {b0 : Nat} {t tv : TypeId} {fs : Array Field} {v : Value} {d : DataW H} {p : List MemPlace} {n : Nat} {ls : List Sc}
    (hts : P.underlying t = some (.slice tv)) (ht : P.underlying tv = some (.struct fs)) (hfl : flat P n tv = some ls) (hC : P.cellsOf tv = ls.length) (hmk : ∀ cs, Fits ls cs → ∃ x, cs = enc' x ∧ q x)
    (hv : Value.okWide P w r b0 t v) (h : DataW.Trod enc P w 0 (fun _ => true) held t v d p) :
    ∃ (A : Option Addr) (L : List α) (c : Nat), v = .slice A L.length c ∧ (∀ i, (hi : i < L.length) → ∃ a, A = some a ∧ ∀ j, j < ls.length → w.cell? (a.add (i * ls.length + j)) = (enc' L[i])[j]?) ∧ (A = none → c = 0) ∧ (∀ x ∈ L, q x) ∧ L.length ≤ Rows.uptoBulk d ∧ RowShape L.length d := by
  obtain ⟨a0, len, cap, rfl⟩ := okWide_slice hts hv
  obtain ⟨fuel, hf⟩ := h
  rcases open_slice hts hf with ⟨hcs, hx⟩ | ⟨a, len', cap', m, n', D, Pl, hcs, _, hl, hm, hmm, hx, hel⟩
  · simp [Value.cells] at hcs
    obtain ⟨rfl, rfl, rfl⟩ := hcs
    have hd : d = .nil := (Prod.mk.inj hx).1
    exact ⟨none, [], 0, rfl, fun j hj => absurd hj (by simp), fun _ => rfl, fun x hx => absurd hx (by simp), Nat.zero_le _, Or.inl ⟨rfl, hd⟩⟩
  · simp [Value.cells] at hcs
    obtain ⟨rfl, rfl, rfl⟩ := hcs
    simp only [if_true] at hmm
    have ex : ∀ i, i < len → ∃ s : α, (∀ j, j < ls.length → w.cell? (a.add (i * ls.length + j)) = (enc' s)[j]?) ∧ q s ∧ 1 ≤ Rows.uptoBulk (D i) := by
      intro i hi
      obtain ⟨cs', e1, e2⟩ := hel i (by omega)
      obtain ⟨T, rfl, hq⟩ := hmk cs' (flat_fits n tv ls hfl _ _ _ e2)
      obtain ⟨xs, m', e3, e4, -⟩ := DataW.trod_struct ht e2
      rw [hC] at e1
      obtain ⟨_, _, hcell⟩ := World.cells?_some e1
      refine ⟨T, fun j hj => ?_, hq, ?_⟩
      · have := hcell j hj
        rw [add_add] at this
        exact this
      · have h3 := (Prod.mk.inj e4).1
        rw [h3]
        simp only [Rows.uptoBulk]
        omega
    have ⟨f, hfn⟩ : ∃ f : Nat → α, ∀ i, i < len → (∀ j, j < ls.length → w.cell? (a.add (i * ls.length + j)) = (enc' (f i))[j]?) ∧ q (f i) ∧ 1 ≤ Rows.uptoBulk (D i) := by
      refine ⟨fun i => if h : i < len then Classical.choose (ex i h) else default, fun i hi => ?_⟩
      dsimp only
      rw [dif_pos hi]
      exact Classical.choose_spec (ex i hi)
    have hlen : ((List.range len).map f).length = len := by simp
    have hd : d = .slice ((List.range len).map D) ((List.range (m - len)).map fun j => D (len + j)) := (Prod.mk.inj hx).1
    have hsum : ∀ (q : List Nat), (∀ i ∈ q, i < len) → q.length ≤ Rows.uptoBulkAll (q.map D) := by
      intro q
      induction q with
      | nil => intro _; exact Nat.zero_le _
      | cons i q ih =>
        intro hq
        have h1 := ih (fun j hj => hq j (List.mem_cons_of_mem _ hj))
        have h2 := (hfn i (hq i List.mem_cons_self)).2.2
        simp only [List.map_cons, Rows.uptoBulkAll, List.length_cons] at h1 ⊢
        omega
    refine ⟨some a, (List.range len).map f, cap, by rw [hlen], fun i hi => ?_, (fun e => nomatch e), fun x hx => ?_, ?_, Or.inr ⟨_, _, hd, by simp⟩⟩
    · rw [hlen] at hi
      have ef : ((List.range len).map f)[i]'(by rw [hlen]; exact hi) = f i := by simp
      exact ⟨a, rfl, fun j hj => by rw [ef]; exact (hfn i hi).1 j hj⟩
    · obtain ⟨i, hi, rfl⟩ := List.mem_map.1 hx
      exact (hfn i (List.mem_range.1 hi)).2.1
    · have := hsum (List.range len) (fun i hi => List.mem_range.1 hi)
      rw [List.length_range] at this
      rw [hd, hlen]
      simp only [Rows.uptoBulk]
      omega
end
end Go.Proofs.Ytkmpkhbahmehmaa
