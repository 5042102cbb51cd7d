/- Texts OpenSet, Flat, OpenVal, Open, OpenPair. -/
import Derived.Test.YtdpnphnafidpiaaGreatHoldKit
import Derived.Test.YtdpnphnafidpiaaGreatNamB
import Derived.ChangeMaps5
import Derived.Deep.Slices
import Derived.JoinedCond
import Derived.WideKeyArr2
import Derived.Test.YtdpnphnafidpiaaGreatValAC
import Derived.Test.YtdpnphnafidpiaaGreatRow
import Derived.ChangeSlices
import Derived.SizedLaws
/- Arguments that are sets (a truth, and a slice of strings) and strings, opened; what they weigh. -/
namespace Go.Proofs.YtdpnphnafidpiaaGreat
open Go.ChangeShapes Go.WideShapes Go.ChangeAt Go.RowKit Go.Joins Go.Deep

theorem bulk_one {H : Type} (d : DataW H) : 1 ≤ Rows.uptoBulk d := by
  cases d with
  | lit l => cases l <;> simp [Rows.uptoBulk]
  | _ => simp [Rows.uptoBulk]
theorem bulk_len {H : Type} (l : List (DataW H)) : l.length ≤ Rows.uptoBulkAll l := by
  induction l with
  | nil => simp [Rows.uptoBulkAll]
  | cons d l ih => have := bulk_one d; simp only [Rows.uptoBulkAll, List.length_cons]; omega
def SetShape {H : Type} (l : List Str) (d : DataW H) : Prop := l = [] ∨ ∃ (y : DataW H) (el sp : List (DataW H)), d = .agg [y, .slice el sp] ∧ el.length = l.length
theorem SetShape.bulk {H : Type} {l : List Str} {d : DataW H} (h : SetShape l d) : l.length ≤ Rows.uptoBulk d := by
  rcases h with rfl | ⟨y, el, sp, rfl, e⟩
  · simp
  · have := bulk_len el
    simp only [Rows.uptoBulk, Rows.uptoBulkAll]
    omega

section
variable {H : Type} {enc : TypeId × Value → H} {P : Program} {w : World} {held : Bool}
theorem trod_str {e : TypeId} (he : P.underlying e = some .string) {b : Nat} {sp : Nat → Bool} {n : Nat} {c : Value} {x : DataW H × List MemPlace} (h : DataW.trod enc P w b sp held n e [c] = some x) : ∃ s : Str, c = encStr s := by
  cases n with
  | zero => simp [DataW.trod] at h
  | succ n =>
    rw [DataW.trod_step] at h
    unfold DataW.trodStep at h
    rw [he] at h
    split at h <;> simp_all
    next s _ => exact ⟨s.data.toList, rfl⟩
theorem open_strs {t e : TypeId} (ht : P.underlying t = some (.slice e)) (he : P.underlying e = some .string) (hc : P.cellsOf e = 1) {a0 : Option Addr} {len cap fuel : Nat} {x : DataW H × List MemPlace}
    (h : DataW.trod enc P w 0 (fun _ => true) held fuel t [.slice a0 len cap] = some x) :
    ∃ l : List Str, len = l.length ∧ SRow w a0 l ∧ l.length ≤ 9223372036854775807 ∧ (a0 = none → cap = 0) ∧ (l = [] ∨ ∃ el sp, x.1 = .slice el sp ∧ el.length = l.length) := by
  rcases open_slice1 ht hc h with ⟨hcs, hx⟩ | ⟨a, len', cap', m, n, V, D, Pl, hcs, _, hl, hm, hmm, hx, hel⟩
  · simp at hcs
    obtain ⟨rfl, rfl, rfl⟩ := hcs
    exact ⟨[], rfl, rfl, by simp, fun _ => rfl, Or.inl rfl⟩
  · simp at hcs
    obtain ⟨rfl, rfl, rfl⟩ := hcs
    simp only [if_true] at hmm
    have ex : ∀ i, i < len → ∃ s : Str, w.cell? (a.add i) = some (encStr s) := by
      intro i hi
      obtain ⟨h1, h2⟩ := hel i (by omega)
      obtain ⟨s, hs⟩ := trod_str he h2
      exact ⟨s, by rw [h1, hs]⟩
    have ⟨f, hfn⟩ : ∃ f : Nat → Str, ∀ i, i < len → w.cell? (a.add i) = some (encStr (f i)) := by
      refine ⟨fun i => if h : i < len then Classical.choose (ex i h) else [], fun i hi => ?_⟩
      dsimp only
      rw [dif_pos hi]
      exact Classical.choose_spec (ex i hi)
    have hlen : ((List.range len).map f).length = len := by simp
    refine ⟨(List.range len).map f, hlen.symm, ?_, by unfold maxLen at hm; omega, fun e => (by cases e), Or.inr ⟨_, _, by rw [hx], by simp⟩⟩
    intro i hi
    have hi' : i < len := by simpa using hi
    have := hfn i hi'
    simpa using this
theorem open_set {r : Reach} {b0 : Nat} {t e : TypeId} {f0 f1 : Field} {v : Value} {d : DataW H} {p : List MemPlace} (ht : P.underlying t = some (.struct #[f0, f1])) (hone : oneCellFields P #[f0, f1] = true) (hC : P.cellsOf t = 2)
    (h0 : P.underlying f0.type = some .bool) (h1 : P.underlying f1.type = some (.slice e)) (he : P.underlying e = some .string) (hc : P.cellsOf e = 1)
    (hv : Value.okWide P w r b0 t v) (h : DataW.Trod enc P w 0 (fun _ => true) held t v d p) :
    ∃ (n : Bool) (A : Option Addr) (l : List Str) (c : Nat), v = .agg #[.bool n, .slice A l.length c] ∧ SRow w A l ∧ l.length ≤ 9223372036854775807 ∧ (A = none → c = 0) ∧ SetShape l d := by
  obtain ⟨c0, c1, y0, y1, n, rfl, rfl, rfl, hy0, hy1⟩ := open_agg2 ht hone hC hv h
  obtain ⟨z, e0, _⟩ := DataW.trod_bool h0 hy0
  simp at e0
  subst e0
  have hy1' := hy1
  cases n with
  | zero => simp [DataW.trod] at hy1
  | succ n =>
    have hs : ∃ a l c, c1 = .slice a l c := by
      rcases open_slice1 h1 (by rw [hc]) hy1 with ⟨hcs, _⟩ | ⟨a, len', cap', _, _, _, _, _, hcs, _⟩
      · simp at hcs; exact ⟨_, _, _, hcs⟩
      · simp at hcs; exact ⟨_, _, _, hcs⟩
    obtain ⟨a, len, cap, rfl⟩ := hs
    obtain ⟨l, rfl, hr, hm, hz, hx⟩ := open_strs h1 he hc hy1'
    refine ⟨z, a, l, cap, rfl, hr, hm, hz, ?_⟩
    rcases hx with h | ⟨el, sp, h, h'⟩
    · exact Or.inl h
    · exact Or.inr ⟨_, el, sp, by rw [h], h'⟩
end
theorem SetShape.reach {H : Type} {P : Program} {ts : List TypeId} {ds : List (DataW H)} (hw : (DataW.weightsEach P ts ds).all (· ≤ reachBytes) = true) {j : Nat} {t e : TypeId} {f0 f1 : Field} {d : DataW H} {l : List Str} (h : SetShape l d)
    (ht : ts[j]? = some t) (hd : ds[j]? = some d) (hu : P.underlying t = some (.struct #[f0, f1])) (h1 : P.underlying f1.type = some (.slice e)) (hb : P.bytesOf e = 16) : l.length * 16 ≤ 140737488351232 := by
  rcases h with rfl | ⟨y, el, sp, rfl, hl⟩
  · simp
  · have := List.all_eq_true.1 hw _ (DataW.weights_mem_each ht hd ((el.length + sp.length) * P.bytesOf e) (by simp [DataW.weights, DataW.weightsEach, hu, h1]))
    rw [hb] at this
    have this := of_decide_eq_true this
    unfold reachBytes at this
    rw [← hl]
    omega
end Go.Proofs.YtdpnphnafidpiaaGreat

/- Arguments whose cells are all truths, ints and strings (structs and arrays of such, whatever lies in whatever), opened. General: over any program. -/
namespace Go.Proofs.YtdpnphnafidpiaaGreat
open Go.ChangeShapes Go.WideShapes Go.ChangeAt Go.RowKit Go.Joins

inductive Sc where
  | b : Sc
  | i : IntKind → Sc
  | s : Sc
def Sc.ok : Sc → Value → Prop
  | .b, v => ∃ x : Bool, v = .bool x
  | .i k, v => ∃ x : Int, v = .int k x ∧ (Lit.int k x).wf = true
  | .s, v => ∃ x, v = .string x ∧ x.size ≤ maxLen
def Fits : List Sc → List Value → Prop
  | [], cs => cs = []
  | a :: l, cs => ∃ c cs', cs = c :: cs' ∧ a.ok c ∧ Fits l cs'
theorem Fits.append : ∀ {l m : List Sc} {cs ds : List Value}, Fits l cs → Fits m ds → Fits (l ++ m) (cs ++ ds)
  | [], _, _, _, h, h' => by cases h; exact h'
  | _ :: _, _, _, _, h, h' => by obtain ⟨c, cs', rfl, hc, hr⟩ := h; exact ⟨c, _, rfl, hc, Fits.append hr h'⟩

def flatFs (P : Program) (fl : TypeId → Option (List Sc)) : List Field → Nat → Option (List Sc)
  | [], _ => some []
  | f :: fs, acc =>
    if f.offset = acc then
      match fl f.type with
      | some l => if l.length = P.cellsOf f.type then (flatFs P fl fs (acc + l.length)).map (l ++ ·) else none
      | none => none
    else none
def flat (P : Program) : Nat → TypeId → Option (List Sc)
  | 0, _ => none
  | n + 1, t =>
    match P.underlying t with
    | some .bool => some [.b]
    | some (.int k) => some [.i k]
    | some .string => some [.s]
    | some (.struct fs) =>
      match flatFs P (flat P n) fs.toList 0 with
      | some l => if l.length = P.cellsOf t then some l else none
      | none => none
    | some (.array m e) =>
      match flat P n e with
      | some l => if l.length = P.cellsOf e ∧ P.cellsOf t = m * l.length then some (List.replicate m l).flatten else none
      | none => none
    | _ => none

section
variable {H : Type} {enc : TypeId × Value → H} {P : Program} {w : World} {base : Nat} {spare : Nat → Bool} {held : Bool}
theorem flatFs_fits {fl : TypeId → Option (List Sc)} {r : TypeId → List Value → Option (DataW H × List MemPlace)} (hr : ∀ t l, fl t = some l → ∀ cs x, r t cs = some x → Fits l cs) :
    ∀ (fs : List Field) (acc : Nat) (l : List Sc), flatFs P fl fs acc = some l → ∀ (cs : List Value) xs, (fs.mapM fun f => r f.type ((cs.drop f.offset).take (P.cellsOf f.type))) = some xs → cs.length = acc + l.length → Fits l (cs.drop acc) := by
  intro fs
  induction fs with
  | nil =>
    intro acc l h cs xs _ hl
    simp only [flatFs, Option.some.injEq] at h
    subst h
    show cs.drop acc = []
    exact List.drop_eq_nil_of_le (by simp at hl; omega)
  | cons f fs ih =>
    intro acc l h cs xs hm hl
    unfold flatFs at h
    by_cases ho : f.offset = acc
    · rw [if_pos ho] at h
      cases hf : fl f.type with
      | none => rw [hf] at h; simp at h
      | some l1 =>
        rw [hf] at h
        dsimp only at h
        by_cases hc : l1.length = P.cellsOf f.type
        · rw [if_pos hc, Option.map_eq_some_iff] at h
          obtain ⟨l2, h2, rfl⟩ := h
          simp only [List.mapM_cons, bind, Option.bind_eq_some_iff] at hm
          obtain ⟨y, hy, ys, hys, _⟩ := hm
          rw [ho, ← hc] at hy
          have k1 := hr _ _ hf _ _ hy
          rw [List.length_append] at hl
          have k2 := ih _ _ h2 cs ys hys (by omega)
          have e : cs.drop acc = (cs.drop acc).take l1.length ++ cs.drop (acc + l1.length) := by
            rw [← List.drop_drop, List.take_append_drop]
          rw [e]
          exact k1.append k2
        · rw [if_neg hc] at h; simp at h
    · rw [if_neg ho] at h; simp at h
theorem flatArr_fits {l : List Sc} {r : List Value → Option (DataW H × List MemPlace)} (hr : ∀ cs x, r cs = some x → Fits l cs) (cs : List Value) :
    ∀ (m : Nat) (a : Nat) xs, ((List.range' a m).mapM fun i => r ((cs.drop (i * l.length)).take l.length)) = some xs → cs.length = (a + m) * l.length → Fits (List.replicate m l).flatten (cs.drop (a * l.length)) := by
  intro m
  induction m with
  | zero =>
    intro a xs _ hl
    show cs.drop _ = []
    exact List.drop_eq_nil_of_le (by rw [hl]; exact Nat.le_refl _)
  | succ m ih =>
    intro a xs hm hl
    rw [List.range'_succ] at hm
    simp only [List.mapM_cons, bind, Option.bind_eq_some_iff] at hm
    obtain ⟨y, hy, ys, hys, _⟩ := hm
    have k1 := hr _ _ hy
    have k2 := ih (a + 1) ys hys (by rw [hl]; congr 1; omega)
    rw [List.replicate_succ, List.flatten_cons]
    have e : cs.drop (a * l.length) = (cs.drop (a * l.length)).take l.length ++ cs.drop ((a + 1) * l.length) := by
      rw [Nat.add_mul, Nat.one_mul, ← List.drop_drop, List.take_append_drop]
    rw [e]
    exact k1.append k2
theorem flat_fits : ∀ (n : Nat) (t : TypeId) (l : List Sc), flat P n t = some l → ∀ (m : Nat) (cs : List Value) x, DataW.trod enc P w base spare held m t cs = some x → Fits l cs := by
  intro n
  induction n with
  | zero => intro t l h; simp [flat] at h
  | succ n ih =>
    intro t l h m cs x hx
    cases m with
    | zero => simp [DataW.trod] at hx
    | succ m =>
      unfold flat at h
      cases hu : P.underlying t with
      | none => rw [hu] at h; simp at h
      | some u =>
        rw [hu] at h
        cases u with
        | bool =>
          simp only [Option.some.injEq] at h
          subst h
          obtain ⟨z, rfl, _⟩ := DataW.trod_bool hu hx
          exact ⟨_, _, rfl, ⟨z, rfl⟩, rfl⟩
        | int k =>
          simp only [Option.some.injEq] at h
          subst h
          obtain ⟨z, rfl, _, hw⟩ := DataW.trod_int hu hx
          exact ⟨_, _, rfl, ⟨z, rfl, hw⟩, rfl⟩
        | string =>
          simp only [Option.some.injEq] at h
          subst h
          rw [DataW.trod_step] at hx
          unfold DataW.trodStep at hx
          rw [hu] at hx
          split at hx <;> simp_all
          next s _ =>
            exact ⟨_, _, rfl, ⟨_, rfl, hx.1⟩, rfl⟩
        | struct fs =>
          dsimp only at h
          cases hf : flatFs P (flat P n) fs.toList 0 with
          | none => rw [hf] at h; simp at h
          | some l' =>
            rw [hf] at h
            dsimp only at h
            by_cases hc : l'.length = P.cellsOf t
            · rw [if_pos hc, Option.some.injEq] at h
              subst h
              rw [DataW.trod_step] at hx
              unfold DataW.trodStep at hx
              simp only [hu] at hx
              by_cases hl : cs.length = P.cellsOf t
              · rw [if_pos hl, Option.map_eq_some_iff] at hx
                obtain ⟨xs, hxs, _⟩ := hx
                have := flatFs_fits (P := P) (fun t l h cs x hx => ih t l h m cs x hx) _ _ _ hf cs xs hxs (by omega)
                simpa using this
              · rw [if_neg hl] at hx; simp at hx
            · rw [if_neg hc] at h; simp at h
        | array q e =>
          dsimp only at h
          cases hf : flat P n e with
          | none => rw [hf] at h; simp at h
          | some l' =>
            rw [hf] at h
            dsimp only at h
            by_cases hc : l'.length = P.cellsOf e ∧ P.cellsOf t = q * l'.length
            · rw [if_pos hc, Option.some.injEq] at h
              subst h
              rw [DataW.trod_step] at hx
              unfold DataW.trodStep at hx
              simp only [hu] at hx
              by_cases hl : cs.length = P.cellsOf t
              · rw [if_pos hl, Option.map_eq_some_iff] at hx
                obtain ⟨xs, hxs, _⟩ := hx
                rw [← hc.1, List.range_eq_range'] at hxs
                have := flatArr_fits (fun cs x hx => ih e l' hf m cs x hx) cs q 0 xs hxs (by rw [hl, hc.2, Nat.zero_add])
                simpa using this
              · rw [if_neg hl] at hx; simp at hx
            · rw [if_neg hc] at h; simp at h
        | _ => simp at h
theorem open_flat_struct {r : Reach} {b0 : Nat} {t : TypeId} {fs : Array Field} {v : Value} {d : DataW H} {p : List MemPlace} {n : Nat} {l : List Sc} (hs : P.underlying t = some (.struct fs)) (hfl : flat P n t = some l)
    (hv : Value.okWide P w r b0 t v) (h : DataW.Trod enc P w base spare held t v d p) : ∃ cs : List Value, v = .agg cs.toArray ∧ Fits l cs := by
  obtain ⟨cs, rfl, _⟩ := okWide_struct hs hv
  obtain ⟨fuel, hf⟩ := h
  exact ⟨cs.toList, by simp, flat_fits n t l hfl fuel _ _ hf⟩
end
end Go.Proofs.YtdpnphnafidpiaaGreat

/- Arguments that are values (a span, a congruence, a set), opened; what they weigh. -/
namespace Go.Proofs.YtdpnphnafidpiaaGreat
open Go.ChangeShapes Go.WideShapes Go.ChangeAt Go.RowKit Go.Joins Go.Deep

def ValShape {H : Type} (l : List Str) (d : DataW H) : Prop := l = [] ∨ ∃ (x0 x1 y : DataW H) (el sp : List (DataW H)), d = .agg [x0, x1, .agg [y, .slice el sp]] ∧ el.length = l.length
theorem ValShape.bulk {H : Type} {l : List Str} {d : DataW H} (h : ValShape l d) : l.length ≤ Rows.uptoBulk d := by
  rcases h with rfl | ⟨x0, x1, y, el, sp, rfl, e⟩
  · simp
  · have := bulk_len el
    simp only [Rows.uptoBulk, Rows.uptoBulkAll]
    omega

section
variable {H : Type} {enc : TypeId × Value → H} {P : Program} {w : World} {held : Bool}
theorem trod_val {t e : TypeId} {f0 f1 f2 g0 g1 : Field} {n : Nat} {cs : List Value} {x : DataW H × List MemPlace} (ht : P.underlying t = some (.struct #[f0, f1, f2])) (hC : P.cellsOf t = 8)
    (o0 : f0.offset = 0) (o1 : f1.offset = 3) (o2 : f2.offset = 6) (c0 : P.cellsOf f0.type = 3) (c1 : P.cellsOf f1.type = 3) (c2 : P.cellsOf f2.type = 2)
    (fl0 : flat P 8 f0.type = some [.b, .i .i64, .i .i64]) (fl1 : flat P 8 f1.type = some [.b, .i .i64, .i .i64]) (hs : P.underlying f2.type = some (.struct #[g0, g1])) (q0 : g0.offset = 0) (q1 : g1.offset = 1)
    (k0 : P.cellsOf g0.type = 1) (k1 : P.cellsOf g1.type = 1) (h0 : P.underlying g0.type = some .bool) (h1 : P.underlying g1.type = some (.slice e)) (he : P.underlying e = some .string) (hc : P.cellsOf e = 1)
    (h : DataW.trod enc P w 0 (fun _ => true) held n t cs = some x) :
    ∃ (i : In) (b : Bool) (A : Option Addr) (l : List Str) (c : Nat), cs = [.bool i.s.s, .int .i64 i.s.lo, .int .i64 i.s.hi, .bool i.c.s, .int .i64 i.c.m, .int .i64 i.c.r, .bool b, .slice A l.length c] ∧
      i.ok ∧ SRow w A l ∧ l.length ≤ 9223372036854775807 ∧ (A = none → c = 0) ∧ ValShape l x.1 := by
  cases n with
  | zero => simp [DataW.trod] at h
  | succ m =>
    rw [DataW.trod_step] at h
    unfold DataW.trodStep at h
    simp only [ht] at h
    by_cases hl : cs.length = P.cellsOf t
    · rw [if_pos hl, Option.map_eq_some_iff] at h
      obtain ⟨xs, hxs, rfl⟩ := h
      rw [hC] at hl
      rcases cs with _ | ⟨v0, _ | ⟨v1, _ | ⟨v2, _ | ⟨v3, _ | ⟨v4, _ | ⟨v5, _ | ⟨v6, _ | ⟨v7, cs⟩⟩⟩⟩⟩⟩⟩⟩ <;> simp only [List.length_cons, List.length_nil] at hl <;> try omega
      have hcs : cs = [] := List.eq_nil_of_length_eq_zero (by omega)
      subst hcs
      simp only [List.mapM_cons, List.mapM_nil, bind, Option.bind_eq_some_iff, pure, Option.some.injEq, o0, o1, o2, c0, c1, c2] at hxs
      obtain ⟨y0, hy0, ys, ⟨y1, hy1, zs, ⟨y2, hy2, us, hus, rfl⟩, rfl⟩, rfl⟩ := hxs
      subst hus
      have F0 := flat_fits 8 _ _ fl0 m _ _ hy0
      have F1 := flat_fits 8 _ _ fl1 m _ _ hy1
      obtain ⟨_, _, e0, ⟨s, rfl⟩, _, _, rfl, ⟨lo, rfl, wlo⟩, _, _, rfl, ⟨hi, rfl, whi⟩, rfl⟩ := F0
      obtain ⟨_, _, e1, ⟨cb, rfl⟩, _, _, rfl, ⟨mm, rfl, wm⟩, _, _, rfl, ⟨rr, rfl, wr⟩, rfl⟩ := F1
      simp only [List.drop_zero, List.drop_succ_cons, List.take_succ_cons, List.take_zero, List.cons.injEq, and_true] at e0 e1
      obtain ⟨rfl, rfl, rfl⟩ := e0
      obtain ⟨rfl, rfl, rfl⟩ := e1
      simp only [List.drop_zero, List.drop_succ_cons, List.take_succ_cons, List.take_zero] at hy2
      cases m with
      | zero => simp [DataW.trod] at hy2
      | succ k =>
        rw [DataW.trod_step] at hy2
        unfold DataW.trodStep at hy2
        simp only [hs] at hy2
        by_cases hl2 : [v6, v7].length = P.cellsOf f2.type
        · rw [if_pos hl2, Option.map_eq_some_iff] at hy2
          obtain ⟨xs2, hxs2, rfl⟩ := hy2
          simp only [List.mapM_cons, List.mapM_nil, bind, Option.bind_eq_some_iff, pure, Option.some.injEq, q0, q1, k0, k1] at hxs2
          obtain ⟨z0, hz0, ys2, ⟨z1, hz1, zs2, hzs2, rfl⟩, rfl⟩ := hxs2
          subst hzs2
          simp only [List.drop_zero, List.drop_succ_cons, List.take_succ_cons, List.take_zero] at hz0 hz1
          obtain ⟨z, ez, _⟩ := DataW.trod_bool h0 hz0
          simp at ez
          subst ez
          have hsl : ∃ a l c, v7 = .slice a l c := by
            rcases open_slice1 h1 hc hz1 with ⟨hcs, _⟩ | ⟨a, len', cap', _, _, _, _, _, hcs, _⟩
            · simp at hcs; exact ⟨_, _, _, hcs⟩
            · simp at hcs; exact ⟨_, _, _, hcs⟩
          obtain ⟨a, len, cap, rfl⟩ := hsl
          obtain ⟨l, rfl, hr, hm, hz, hx⟩ := open_strs h1 he hc hz1
          refine ⟨⟨⟨s, lo, hi⟩, ⟨cb, mm, rr⟩⟩, z, a, l, cap, rfl, ⟨⟨i64_of_wf wlo, i64_of_wf whi⟩, ⟨i64_of_wf wm, i64_of_wf wr⟩⟩, hr, hm, hz, ?_⟩
          rcases hx with h | ⟨el, sp, h, h'⟩
          · exact Or.inl h
          · exact Or.inr ⟨y0.1, y1.1, z0.1, el, sp, by simp [h], h'⟩
        · rw [if_neg hl2] at hy2; simp at hy2
    · rw [if_neg hl] at h; simp at h
theorem open_val {r : Reach} {b0 : Nat} {t e : TypeId} {f0 f1 f2 g0 g1 : Field} {v : Value} {d : DataW H} {p : List MemPlace} (ht : P.underlying t = some (.struct #[f0, f1, f2])) (hC : P.cellsOf t = 8)
    (o0 : f0.offset = 0) (o1 : f1.offset = 3) (o2 : f2.offset = 6) (c0 : P.cellsOf f0.type = 3) (c1 : P.cellsOf f1.type = 3) (c2 : P.cellsOf f2.type = 2)
    (fl0 : flat P 8 f0.type = some [.b, .i .i64, .i .i64]) (fl1 : flat P 8 f1.type = some [.b, .i .i64, .i .i64]) (hs : P.underlying f2.type = some (.struct #[g0, g1])) (q0 : g0.offset = 0) (q1 : g1.offset = 1)
    (k0 : P.cellsOf g0.type = 1) (k1 : P.cellsOf g1.type = 1) (h0 : P.underlying g0.type = some .bool) (h1 : P.underlying g1.type = some (.slice e)) (he : P.underlying e = some .string) (hc : P.cellsOf e = 1)
    (hv : Value.okWide P w r b0 t v) (h : DataW.Trod enc P w 0 (fun _ => true) held t v d p) :
    ∃ (i : In) (b : Bool) (A : Option Addr) (l : List Str) (c : Nat), v = .agg #[.bool i.s.s, .int .i64 i.s.lo, .int .i64 i.s.hi, .bool i.c.s, .int .i64 i.c.m, .int .i64 i.c.r, .bool b, .slice A l.length c] ∧
      i.ok ∧ SRow w A l ∧ l.length ≤ 9223372036854775807 ∧ (A = none → c = 0) ∧ ValShape l d := by
  obtain ⟨cs, rfl, _⟩ := okWide_struct ht hv
  obtain ⟨fuel, hf⟩ := h
  obtain ⟨i, b, A, l, c, e1, h2, h3, h4, h5, h6⟩ := trod_val ht hC o0 o1 o2 c0 c1 c2 fl0 fl1 hs q0 q1 k0 k1 h0 h1 he hc hf
  refine ⟨i, b, A, l, c, ?_, h2, h3, h4, h5, h6⟩
  have e2 : cs.toList = _ := e1
  rw [show cs = cs.toList.toArray by simp, e2]
end
theorem ValShape.reach {H : Type} {P : Program} {ts : List TypeId} {ds : List (DataW H)} (hw : (DataW.weightsEach P ts ds).all (· ≤ reachBytes) = true) {j : Nat} {t e : TypeId} {f0 f1 f2 g0 g1 : Field} {d : DataW H} {l : List Str} (h : ValShape l d)
    (ht : ts[j]? = some t) (hd : ds[j]? = some d) (hu : P.underlying t = some (.struct #[f0, f1, f2])) (hs : P.underlying f2.type = some (.struct #[g0, g1])) (h1 : P.underlying g1.type = some (.slice e)) (hb : P.bytesOf e = 16) : l.length * 16 ≤ 140737488351232 := by
  rcases h with rfl | ⟨x0, x1, y, el, sp, rfl, hl⟩
  · simp
  · have := List.all_eq_true.1 hw _ (DataW.weights_mem_each ht hd ((el.length + sp.length) * P.bytesOf e) (by simp [DataW.weights, DataW.weightsEach, hu, hs, h1]))
    rw [hb] at this
    have this := of_decide_eq_true this
    unfold reachBytes at this
    rw [← hl]
    omega
end Go.Proofs.YtdpnphnafidpiaaGreat

/- Arguments that are slices, opened to what the walks read. -/
namespace Go.Proofs.YtdpnphnafidpiaaGreat
open Go.ChangeShapes Go.WideShapes Go.ChangeAt Go.RowKit Go.Joins

section
variable {H : Type} {enc : TypeId × Value → H} {P : Program} {w : World} {held : Bool}
theorem open_irow {r : Reach} {b0 : Nat} {t e : TypeId} {v : Value} {d : DataW H} {p : List MemPlace} (ht : P.underlying t = some (.slice e)) (he : P.underlying e = some (.int .i64)) (hc : P.cellsOf e = 1)
    (hv : Value.okWide P w r b0 t v) (h : DataW.Trod enc P w 0 (fun _ => true) held t v d p) :
    ∃ (A : Option Addr) (l : List Int) (c : Nat), v = .slice A l.length c ∧ IRow w A l ∧ l.length ≤ 9223372036854775807 ∧ (∀ n ∈ l, I64 n) ∧ (d = .nil ∧ l = [] ∨ ∃ el sp, d = .slice el sp ∧ el.length = l.length) := by
  obtain ⟨a0, len, cap, rfl⟩ := okWide_slice ht hv
  obtain ⟨fuel, hf⟩ := h
  rcases open_ints ht he hc hf with ⟨hcs, hx⟩ | ⟨a, len', cap', zs, hcs, _, hl, hm, hz, hx, hcell, hwz⟩
  · simp [Value.cells] at hcs
    obtain ⟨rfl, rfl, rfl⟩ := hcs
    simp only [Prod.mk.injEq] at hx
    exact ⟨none, [], 0, rfl, rfl, by simp, by simp, Or.inl ⟨hx.1, rfl⟩⟩
  · simp [Value.cells] at hcs
    obtain ⟨rfl, rfl, rfl⟩ := hcs
    simp only [Prod.mk.injEq] at hx
    simp only [if_true] at hz
    have hlen : (zs.take len).length = len := by rw [List.length_take]; omega
    refine ⟨some a, zs.take len, cap, by rw [hlen], fun i hi => ?_, by unfold maxLen at hm; omega, fun n hn => i64_of_wf (hwz n (List.mem_of_mem_take hn)), Or.inr ⟨_, _, hx.1, by simp [lits]⟩⟩
    have hi2 : i < (zs.take len).length := by simpa using hi
    have hi' : i < len := by omega
    rw [hcell i (by omega)]
    simp [List.getD_eq_getElem?_getD, List.getElem?_eq_getElem (show i < zs.length by omega)]
end
end Go.Proofs.YtdpnphnafidpiaaGreat

/- An argument that is two values, an int and a string, opened; what it weighs. -/
namespace Go.Proofs.YtdpnphnafidpiaaGreat
open Go.ChangeShapes Go.WideShapes Go.ChangeAt Go.RowKit Go.Joins Go.Deep

section
variable {H : Type} {enc : TypeId × Value → H} {P : Program} {w : World} {held : Bool}
theorem cut18 (cs : List Value) (h : cs.length = 18) : cs = cs.take 8 ++ ((cs.drop 8).take 8 ++ ((cs.drop 16).take 1 ++ (cs.drop 17).take 1)) := by
  have e1 : (cs.drop 17).take 1 = cs.drop 17 := List.take_of_length_le (by rw [List.length_drop]; omega)
  have e2 : (cs.drop 16).take 1 ++ cs.drop 17 = cs.drop 16 := by
    have := List.take_append_drop 1 (cs.drop 16)
    rwa [List.drop_drop] at this
  have e3 : (cs.drop 8).take 8 ++ cs.drop 16 = cs.drop 8 := by
    have := List.take_append_drop 8 (cs.drop 8)
    rwa [List.drop_drop] at this
  rw [e1, e2, e3, List.take_append_drop]
theorem open_pair {r : Reach} {b0 : Nat} {t tv e : TypeId} {p0 p1 p2 p3 f0 f1 f2 g0 g1 : Field} {v : Value} {d : DataW H} {p : List MemPlace} (hts : P.underlying t = some (.struct #[p0, p1, p2, p3])) (hC18 : P.cellsOf t = 18)
    (a0 : p0.offset = 0) (a1 : p1.offset = 8) (a2 : p2.offset = 16) (a3 : p3.offset = 17) (t0 : p0.type = tv) (t1 : p1.type = tv) (s2 : P.cellsOf p2.type = 1) (s3 : P.cellsOf p3.type = 1) (fl2 : flat P 8 p2.type = some [.i .i64]) (fl3 : flat P 8 p3.type = some [.s])
    (ht : P.underlying tv = some (.struct #[f0, f1, f2])) (hC : P.cellsOf tv = 8)
    (o0 : f0.offset = 0) (o1 : f1.offset = 3) (o2 : f2.offset = 6) (c0 : P.cellsOf f0.type = 3) (c1 : P.cellsOf f1.type = 3) (c2 : P.cellsOf f2.type = 2)
    (fl0 : flat P 8 f0.type = some [.b, .i .i64, .i .i64]) (fl1 : flat P 8 f1.type = some [.b, .i .i64, .i .i64]) (hs : P.underlying f2.type = some (.struct #[g0, g1])) (q0 : g0.offset = 0) (q1 : g1.offset = 1)
    (k0 : P.cellsOf g0.type = 1) (k1 : P.cellsOf g1.type = 1) (h0 : P.underlying g0.type = some .bool) (h1 : P.underlying g1.type = some (.slice e)) (he : P.underlying e = some .string) (hc : P.cellsOf e = 1)
    (hv : Value.okWide P w r b0 t v) (h : DataW.Trod enc P w 0 (fun _ => true) held t v d p) :
    ∃ (i : In) (b : Bool) (A : Option Addr) (l : List Str) (c : Nat) (i' : In) (b' : Bool) (A' : Option Addr) (l' : List Str) (c' : Nat) (k : Int) (x : Str),
      v = .agg #[.bool i.s.s, .int .i64 i.s.lo, .int .i64 i.s.hi, .bool i.c.s, .int .i64 i.c.m, .int .i64 i.c.r, .bool b, .slice A l.length c, .bool i'.s.s, .int .i64 i'.s.lo, .int .i64 i'.s.hi, .bool i'.c.s, .int .i64 i'.c.m, .int .i64 i'.c.r, .bool b', .slice A' l'.length c', .int .i64 k, encStr x] ∧
      i.ok ∧ i'.ok ∧ SRow w A l ∧ SRow w A' l' ∧ (A = none → c = 0) ∧ (A' = none → c' = 0) ∧ I64 k ∧ l.length + l'.length ≤ Rows.uptoBulk d := by
  obtain ⟨cs, rfl, _⟩ := okWide_struct hts hv
  obtain ⟨n, hf⟩ := h
  have hf' : DataW.trod enc P w 0 (fun _ => true) held n t cs.toList = some (d, p) := hf
  cases n with
  | zero => simp [DataW.trod] at hf'
  | succ m =>
    rw [DataW.trod_step] at hf'
    unfold DataW.trodStep at hf'
    simp only [hts] at hf'
    by_cases hl : cs.toList.length = P.cellsOf t
    · rw [if_pos hl, Option.map_eq_some_iff] at hf'
      obtain ⟨xs, hxs, hd⟩ := hf'
      rw [hC18] at hl
      simp only [List.mapM_cons, List.mapM_nil, bind, Option.bind_eq_some_iff, pure, Option.some.injEq, a0, a1, a2, a3, t0, t1, hC, s2, s3] at hxs
      obtain ⟨y0, hy0, ys, ⟨y1, hy1, zs, ⟨y2, hy2, us, ⟨y3, hy3, vs, hvs, rfl⟩, rfl⟩, rfl⟩, rfl⟩ := hxs
      subst hvs
      rw [List.drop_zero] at hy0
      obtain ⟨i, b, A, l, c, e1, j2, j3, j4, j5, j6⟩ := trod_val ht hC o0 o1 o2 c0 c1 c2 fl0 fl1 hs q0 q1 k0 k1 h0 h1 he hc hy0
      obtain ⟨i', b', A', l', c', e2, m2, m3, m4, m5, m6⟩ := trod_val ht hC o0 o1 o2 c0 c1 c2 fl0 fl1 hs q0 q1 k0 k1 h0 h1 he hc hy1
      obtain ⟨_, _, e3, ⟨k, rfl, wk⟩, e3'⟩ := flat_fits 8 _ _ fl2 m _ _ hy2
      obtain ⟨_, _, e4, ⟨x, rfl, _⟩, e4'⟩ := flat_fits 8 _ _ fl3 m _ _ hy3
      have e5 := cut18 cs.toList hl
      rw [e1, e2, e3, e4, (show _ = [] from e3'), (show _ = [] from e4')] at e5
      have hdd : d = .agg [y0.1, y1.1, y2.1, y3.1] := by
        have := (Prod.mk.inj hd).1
        rw [← this]; rfl
      refine ⟨i, b, A, l, c, i', b', A', l', c', k, x.data.toList, ?_, j2, m2, j3, m3, j5, m5, i64_of_wf wk, ?_⟩
      · rw [show cs = cs.toList.toArray by simp, e5]; rfl
      · have := j6.bulk
        have := m6.bulk
        rw [hdd]
        simp only [Rows.uptoBulk, Rows.uptoBulkAll]
        omega
    · rw [if_neg hl] at hf'; simp at hf'
end
end Go.Proofs.YtdpnphnafidpiaaGreat
