/- Arguments whose cells are all truths, ints and strings (structs and arrays of such, whatever lies in whatever), opened. General: over any program. -/
import Derived.Test.YtkmpkhbahmehmaaHoldKit
import Derived.WideKeyArr2
namespace Go.Proofs.Ytkmpkhbahmehmaa
open Go.ChangeShapes Go.WideShapes Go.ChangeAt Go.RowKit Go.Joins

inductive Sc where
  | b : Sc
  | i : IntKind → Sc
  | s : Sc
def Sc.ok : Sc → Value → Prop
  | .b, v => ∃ x : Bool, v = .bool x
  | .i k, v => ∃ x : Int, v = .int k x ∧ (Lit.int k x).wf = true
  | .s, v => ∃ x, v = .string x ∧ x.size ≤ maxLen
def Fits : List Sc → List Value → Prop
  | [], cs => cs = []
  | a :: l, cs => ∃ c cs', cs = c :: cs' ∧ a.ok c ∧ Fits l cs'
theorem Fits.append : ∀ {l m : List Sc} {cs ds : List Value}, Fits l cs → Fits m ds → Fits (l ++ m) (cs ++ ds)
  | [], _, _, _, h, h' => by cases h; exact h'
  | _ :: _, _, _, _, h, h' => by obtain ⟨c, cs', rfl, hc, hr⟩ := h; exact ⟨c, _, rfl, hc, Fits.append hr h'⟩

def flatFs (P : Program) (fl : TypeId → Option (List Sc)) : List Field → Nat → Option (List Sc)
  | [], _ => some []
  | f :: fs, acc =>
    if f.offset = acc then
      match fl f.type with
      | some l => if l.length = P.cellsOf f.type then (flatFs P fl fs (acc + l.length)).map (l ++ ·) else none
      | none => none
    else none
def flat (P : Program) : Nat → TypeId → Option (List Sc)
  | 0, _ => none
  | n + 1, t =>
    match P.underlying t with
    | some .bool => some [.b]
    | some (.int k) => some [.i k]
    | some .string => some [.s]
    | some (.struct fs) =>
      match flatFs P (flat P n) fs.toList 0 with
      | some l => if l.length = P.cellsOf t then some l else none
      | none => none
    | some (.array m e) =>
      match flat P n e with
      | some l => if l.length = P.cellsOf e ∧ P.cellsOf t = m * l.length then some (List.replicate m l).flatten else none
      | none => none
    | _ => none

section
variable {H : Type} {enc : TypeId × Value → H} {P : Program} {w : World} {base : Nat} {spare : Nat → Bool} {held : Bool}
theorem flatFs_fits {fl : TypeId → Option (List Sc)} {r : TypeId → List Value → Option (DataW H × List MemPlace)} (hr : ∀ t l, fl t = some l → ∀ cs x, r t cs = some x → Fits l cs) :
    ∀ (fs : List Field) (acc : Nat) (l : List Sc), flatFs P fl fs acc = some l → ∀ (cs : List Value) xs, (fs.mapM fun f => r f.type ((cs.drop f.offset).take (P.cellsOf f.type))) = some xs → cs.length = acc + l.length → Fits l (cs.drop acc) := by
  intro fs
  induction fs with
  | nil =>
    intro acc l h cs xs _ hl
    simp only [flatFs, Option.some.injEq] at h
    subst h
    show cs.drop acc = []
    exact List.drop_eq_nil_of_le (by simp at hl; omega)
  | cons f fs ih =>
    intro acc l h cs xs hm hl
    unfold flatFs at h
    by_cases ho : f.offset = acc
    · rw [if_pos ho] at h
      cases hf : fl f.type with
      | none => rw [hf] at h; simp at h
      | some l1 =>
        rw [hf] at h
        dsimp only at h
        by_cases hc : l1.length = P.cellsOf f.type
        · rw [if_pos hc, Option.map_eq_some_iff] at h
          obtain ⟨l2, h2, rfl⟩ := h
          simp only [List.mapM_cons, bind, Option.bind_eq_some_iff] at hm
          obtain ⟨y, hy, ys, hys, _⟩ := hm
          rw [ho, ← hc] at hy
          have k1 := hr _ _ hf _ _ hy
          rw [List.length_append] at hl
          have k2 := ih _ _ h2 cs ys hys (by omega)
          have e : cs.drop acc = (cs.drop acc).take l1.length ++ cs.drop (acc + l1.length) := by
            rw [← List.drop_drop, List.take_append_drop]
          rw [e]
          exact k1.append k2
        · rw [if_neg hc] at h; simp at h
    · rw [if_neg ho] at h; simp at h
theorem flatArr_fits {l : List Sc} {r : List Value → Option (DataW H × List MemPlace)} (hr : ∀ cs x, r cs = some x → Fits l cs) (cs : List Value) :
    ∀ (m : Nat) (a : Nat) xs, ((List.range' a m).mapM fun i => r ((cs.drop (i * l.length)).take l.length)) = some xs → cs.length = (a + m) * l.length → Fits (List.replicate m l).flatten (cs.drop (a * l.length)) := by
  intro m
  induction m with
  | zero =>
    intro a xs _ hl
    show cs.drop _ = []
    exact List.drop_eq_nil_of_le (by rw [hl]; exact Nat.le_refl _)
  | succ m ih =>
    intro a xs hm hl
    rw [List.range'_succ] at hm
    simp only [List.mapM_cons, bind, Option.bind_eq_some_iff] at hm
    obtain ⟨y, hy, ys, hys, _⟩ := hm
    have k1 := hr _ _ hy
    have k2 := ih (a + 1) ys hys (by rw [hl]; congr 1; omega)
    rw [List.replicate_succ, List.flatten_cons]
    have e : cs.drop (a * l.length) = (cs.drop (a * l.length)).take l.length ++ cs.drop ((a + 1) * l.length) := by
      rw [Nat.add_mul, Nat.one_mul, ← List.drop_drop, List.take_append_drop]
    rw [e]
    exact k1.append k2
theorem flat_fits : ∀ (n : Nat) (t : TypeId) (l : List Sc), flat P n t = some l → ∀ (m : Nat) (cs : List Value) x, DataW.trod enc P w base spare held m t cs = some x → Fits l cs := by
  intro n
  induction n with
  | zero => intro t l h; simp [flat] at h
  | succ n ih =>
    intro t l h m cs x hx
    cases m with
    | zero => simp [DataW.trod] at hx
    | succ m =>
      unfold flat at h
      cases hu : P.underlying t with
      | none => rw [hu] at h; simp at h
      | some u =>
        rw [hu] at h
        cases u with
        | bool =>
          simp only [Option.some.injEq] at h
          subst h
          obtain ⟨z, rfl, _⟩ := DataW.trod_bool hu hx
          exact ⟨_, _, rfl, ⟨z, rfl⟩, rfl⟩
        | int k =>
          simp only [Option.some.injEq] at h
          subst h
          obtain ⟨z, rfl, _, hw⟩ := DataW.trod_int hu hx
          exact ⟨_, _, rfl, ⟨z, rfl, hw⟩, rfl⟩
        | string =>
          simp only [Option.some.injEq] at h
          subst h
          rw [DataW.trod_step] at hx
          unfold DataW.trodStep at hx
          rw [hu] at hx
          split at hx <;> simp_all
          next s _ =>
            exact ⟨_, _, rfl, ⟨_, rfl, hx.1⟩, rfl⟩
        | struct fs =>
          dsimp only at h
          cases hf : flatFs P (flat P n) fs.toList 0 with
          | none => rw [hf] at h; simp at h
          | some l' =>
            rw [hf] at h
            dsimp only at h
            by_cases hc : l'.length = P.cellsOf t
            · rw [if_pos hc, Option.some.injEq] at h
              subst h
              rw [DataW.trod_step] at hx
              unfold DataW.trodStep at hx
              simp only [hu] at hx
              by_cases hl : cs.length = P.cellsOf t
              · rw [if_pos hl, Option.map_eq_some_iff] at hx
                obtain ⟨xs, hxs, _⟩ := hx
                have := flatFs_fits (P := P) (fun t l h cs x hx => ih t l h m cs x hx) _ _ _ hf cs xs hxs (by omega)
                simpa using this
              · rw [if_neg hl] at hx; simp at hx
            · rw [if_neg hc] at h; simp at h
        | array q e =>
          dsimp only at h
          cases hf : flat P n e with
          | none => rw [hf] at h; simp at h
          | some l' =>
            rw [hf] at h
            dsimp only at h
            by_cases hc : l'.length = P.cellsOf e ∧ P.cellsOf t = q * l'.length
            · rw [if_pos hc, Option.some.injEq] at h
              subst h
              rw [DataW.trod_step] at hx
              unfold DataW.trodStep at hx
              simp only [hu] at hx
              by_cases hl : cs.length = P.cellsOf t
              · rw [if_pos hl, Option.map_eq_some_iff] at hx
                obtain ⟨xs, hxs, _⟩ := hx
                rw [← hc.1, List.range_eq_range'] at hxs
                have := flatArr_fits (fun cs x hx => ih e l' hf m cs x hx) cs q 0 xs hxs (by rw [hl, hc.2, Nat.zero_add])
                simpa using this
              · rw [if_neg hl] at hx; simp at hx
            · rw [if_neg hc] at h; simp at h
        | _ => simp at h
theorem open_flat_struct {r : Reach} {b0 : Nat} {t : TypeId} {fs : Array Field} {v : Value} {d : DataW H} {p : List MemPlace} {n : Nat} {l : List Sc} (hs : P.underlying t = some (.struct fs)) (hfl : flat P n t = some l)
    (hv : Value.okWide P w r b0 t v) (h : DataW.Trod enc P w base spare held t v d p) : ∃ cs : List Value, v = .agg cs.toArray ∧ Fits l cs := by
  obtain ⟨cs, rfl, _⟩ := okWide_struct hs hv
  obtain ⟨fuel, hf⟩ := h
  exact ⟨cs.toList, by simp, flat_fits n t l hfl fuel _ _ hf⟩
end
end Go.Proofs.Ytkmpkhbahmehmaa
