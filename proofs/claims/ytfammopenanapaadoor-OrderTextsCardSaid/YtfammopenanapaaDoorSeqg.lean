/- A region that draws its order: operations that only add to memory, in whatever order, then a tail in its forced order. What an operation leaves may hang on where memory was made ('γ': numbers of its own for each operation);
   'R' says what it made, in blocks from 'lo' to 'hi'; no two operations share a block. Walked once, in the text's order. General: over any program. -/
import Derived.Test.YtfammopenanapaaDoorSeq
namespace Go.Proofs.YtfammopenanapaaDoor
open Go.RowKit

abbrev Gh := Nat → Nat → Nat
abbrev RT := (Nat → Nat) → Nat → Nat → World → Prop
def updG (γ : Gh) (i : Nat) (g : Nat → Nat) : Gh := fun j => if j = i then g else γ j
theorem updG_self (γ : Gh) (i : Nat) (g : Nat → Nat) : updG γ i g i = g := if_pos rfl
theorem updG_ne (γ : Gh) {i j : Nat} (g : Nat → Nat) (h : j ≠ i) : updG γ i g j = γ j := if_neg h

inductive ReachB (md : Region.Mode) (ops : Array Oper) : Nat → Nat → Prop
  | one {k j : Nat} (h : depB md ops k j = true) : ReachB md ops k j
  | more {k i j : Nat} (h : depB md ops k i = true) (h' : ReachB md ops i j) : ReachB md ops k j

def Stable (R : RT) : Prop := ∀ g lo hi w w', R g lo hi w → Below hi w w' → R g lo hi w'
theorem Stable.true : Stable (fun _ _ _ _ => True) := fun _ _ _ _ _ _ _ => trivial
def Indep (md : Region.Mode) (ops : Array Oper) (k : Nat) (V : Gh → Value) : Prop := ∀ i, i ≠ k → ¬ ReachB md ops k i → ∀ γ g, V (updG γ i g) = V γ

def depsL (md : Region.Mode) (ops : Array Oper) (k : Nat) : List Nat :=
  match ops[k]? with
  | some o => o.after.toList.filterMap fun e => if Region.binds md e then some e.on else none
  | none => []
def reachL (md : Region.Mode) (ops : Array Oper) (t : Nat) : List Nat :=
  (List.range (t + 1)).reverse.foldl (fun s k => if k == t || s.contains k then s ++ depsL md ops k else s) []
theorem depsL_spec {md : Region.Mode} {ops : Array Oper} {k j : Nat} (h : j ∈ depsL md ops k) : depB md ops k j = true := by
  unfold depsL at h; unfold depB
  cases ho : ops[k]? with
  | none => rw [ho] at h; cases h
  | some o =>
    rw [ho] at h; dsimp only at h ⊢
    obtain ⟨e, he, h2⟩ := List.mem_filterMap.1 h
    split at h2
    · next hb =>
      cases h2
      rw [Array.any_eq_true]
      obtain ⟨i, hi, hie⟩ := Array.mem_iff_getElem.1 (Array.mem_toList_iff.1 he)
      exact ⟨i, hi, by rw [hie]; simp [hb]⟩
    · cases h2
theorem ReachB.trans {md : Region.Mode} {ops : Array Oper} {a b c : Nat} (h : ReachB md ops a b) (h' : ReachB md ops b c) : ReachB md ops a c := by
  induction h with
  | one h => exact .more h h'
  | more h _ ih => exact .more h (ih h')
theorem reachL_spec {md : Region.Mode} {ops : Array Oper} {t j : Nat} (h : j ∈ reachL md ops t) : ReachB md ops t j := by
  have key : ∀ (l : List Nat) (s : List Nat), (∀ x ∈ s, ReachB md ops t x) → ∀ x ∈ l.foldl (fun s k => if k == t || s.contains k then s ++ depsL md ops k else s) s, ReachB md ops t x := by
    intro l
    induction l with
    | nil => intro s hs x hx; exact hs x hx
    | cons k l ih =>
      intro s hs x hx
      refine ih _ (fun y hy => ?_) x hx
      dsimp only at hy
      split at hy
      · next hk =>
        rcases List.mem_append.1 hy with hy | hy
        · exact hs y hy
        · have h1 : ReachB md ops k y := .one (depsL_spec hy)
          simp only [Bool.or_eq_true, beq_iff_eq, List.contains_iff_mem] at hk
          rcases hk with rfl | hk
          · exact h1
          · exact (hs k hk).trans h1
      · exact hs y hy
  exact key _ [] (by simp) j h

def seqgTail (md : Region.Mode) (ops : Array Oper) (ng t : Nat) : Bool :=
  match ops[t]? with
  | some o => o.guard.isNone && ((List.range ng).all fun i => (reachL md ops t).contains i) && (t == ng || depB md ops t (t - 1)) && (o.after.all fun e => !Region.binds md e || decide (e.on < t))
  | none => false
def seqgOne (md : Region.Mode) (ops : Array Oper) (m ng i : Nat) : Bool :=
  match ops[i]? with
  | some o => match o.dst with
    | some d => decide (d < m) && (o.after.all fun e => !Region.binds md e || decide (e.on < i)) &&
        ((List.range ng).all fun j => j == i || match ops[j]? with
          | some oj => match oj.dst with
            | some dj => dj != d && (!(o.looksAt ops).contains dj || (decide (j < i) && depB md ops i j) || (decide (i < j) && depB md ops j i))
            | none => false
          | none => false)
    | none => false
  | none => false
def seqgOk (md : Region.Mode) (ops : Array Oper) (m ng : Nat) : Bool :=
  Region.noSelect ops && decide (ng ≤ ops.size) && ((List.range ng).all fun i => seqgOne md ops m ng i) && ((List.range ops.size).all fun t => decide (t < ng) || seqgTail md ops ng t)

section
variable {P : Program} {md : Region.Mode} {ops : Array Oper} {Q : Exit → Act → World → Prop} {W : World} {m ng : Nat}

theorem seqgOk_one (h : seqgOk md ops m ng = true) {i : Nat} (hi : i < ng) : ∃ o d, ops[i]? = some o ∧ o.dst = some d ∧ d < m ∧ (∀ e ∈ o.after, Region.binds md e = true → e.on < i) ∧
    ∀ j, j < ng → j ≠ i → ∀ oj dj, ops[j]? = some oj → oj.dst = some dj → dj ≠ d ∧ (dj ∈ o.looksAt ops → (j < i ∧ ∃ e ∈ o.after, Region.binds md e = true ∧ e.on = j) ∨ (i < j ∧ ∃ e ∈ oj.after, Region.binds md e = true ∧ e.on = i)) := by
  unfold seqgOk at h
  simp only [Bool.and_eq_true] at h
  have h1 := List.all_eq_true.1 h.1.2 i (List.mem_range.2 hi)
  unfold seqgOne at h1
  cases ho : ops[i]? with
  | none => rw [ho] at h1; cases h1
  | some o =>
    rw [ho] at h1; dsimp only at h1
    cases hd : o.dst with
    | none => rw [hd] at h1; cases h1
    | some d =>
      rw [hd] at h1; dsimp only at h1
      simp only [Bool.and_eq_true, decide_eq_true_eq] at h1
      obtain ⟨⟨h2, h3⟩, h4⟩ := h1
      refine ⟨o, d, rfl, hd, h2, fun e he hb => ?_, fun j hj hne oj dj hoj hdj => ?_⟩
      · have h5 := Array.all_eq_true'.1 h3 e he
        simpa [hb] using h5
      · have h5 := List.all_eq_true.1 h4 j (List.mem_range.2 hj)
        rw [hoj] at h5; dsimp only at h5; rw [hdj] at h5; dsimp only at h5
        simp only [Bool.or_eq_true, beq_iff_eq, hne, false_or, Bool.and_eq_true, bne_iff_ne, ne_eq, Bool.not_eq_true', decide_eq_true_eq] at h5
        refine ⟨h5.1, fun hl => ?_⟩
        rcases h5.2 with (h6 | h6) | h6
        · rw [Bool.eq_false_iff] at h6; exact absurd (by simpa using hl) h6
        · exact Or.inl ⟨h6.1, depB_spec ho h6.2⟩
        · exact Or.inr ⟨h6.1, depB_spec hoj h6.2⟩

theorem seqgOk_tail (h : seqgOk md ops m ng = true) {t : Nat} (ht : ng ≤ t) (hn : t < ops.size) : ∃ o, ops[t]? = some o ∧ o.guard = none ∧ (∀ i, i < ng → ReachB md ops t i) ∧ (t = ng ∨ depB md ops t (t - 1) = true) ∧
    (∀ e ∈ o.after, Region.binds md e = true → e.on < t) := by
  unfold seqgOk at h
  simp only [Bool.and_eq_true] at h
  have h1 := List.all_eq_true.1 h.2 t (List.mem_range.2 hn)
  simp only [Bool.or_eq_true, decide_eq_true_eq] at h1
  have h2 := h1.resolve_left (by omega)
  unfold seqgTail at h2
  cases ho : ops[t]? with
  | none => rw [ho] at h2; cases h2
  | some o =>
    rw [ho] at h2; dsimp only at h2
    simp only [Bool.and_eq_true, Bool.or_eq_true, beq_iff_eq, Option.isNone_iff_eq_none] at h2
    refine ⟨o, rfl, h2.1.1.1, fun i hi => reachL_spec (by simpa using List.all_eq_true.1 h2.1.1.2 i (List.mem_range.2 hi)), h2.1.2, fun e he hb => ?_⟩
    have h5 := Array.all_eq_true'.1 h2.2 e he
    simpa [hb] using h5

/-- What is to be shown of operation k. -/
def GStep (P : Program) (md : Region.Mode) (ops : Array Oper) (W : World) (k : Nat) (A : Gh → Act) (d : Nat) (V : Gh → Value) (R : RT) (F : List (Nat × RT)) : Prop :=
  ∀ (γ : Gh) (w : World) (K : Act → World → Prop), Below W.heap.size W w → (∀ f ∈ F, ReachB md ops k f.1 → ∃ lo hi, W.heap.size ≤ lo ∧ hi ≤ w.heap.size ∧ f.2 (γ f.1) lo hi w) →
    (∀ g w', Below w.heap.size w w' → R g w.heap.size w'.heap.size w' → K ((A γ).put (some d) (V (updG γ k g))) w') → wpOp P ops QF k K (A γ) w

/-- The operations from k on, in the text's order. -/
def SeqG (P : Program) (md : Region.Mode) (ops : Array Oper) (W : World) (fin : (Gh → Act) → List (Nat × RT) → Prop) : List Oper → Nat → (Gh → Act) → List (Nat × RT) → Prop
  | [], _, A, F => fin A F
  | o :: os, k, A, F => ∃ d V R FF, o.dst = some d ∧ Stable R ∧ Indep md ops k V ∧ (FF = [] ∨ FF = [(k, R)]) ∧
      (∀ (γ : Gh) (w : World) (K : Act → World → Prop), Below W.heap.size W w → (∀ f ∈ F, ReachB md ops k f.1 → ∃ lo hi, W.heap.size ≤ lo ∧ hi ≤ w.heap.size ∧ f.2 (γ f.1) lo hi w) →
        (∀ g w', Below w.heap.size w w' → R g w.heap.size w'.heap.size w' → K ((A γ).put (some d) (V (updG γ k g))) w') →
        if Region.wanted o (yielded ops (A γ).tmps) = true then Oper.wp P o (A γ) w K QF else K ((A γ).put (some d) undef) w) ∧
      SeqG P md ops W fin os (k + 1) (fun γ => (A γ).put (some d) (V γ)) (F ++ FF)

theorem SeqG.nil {fin : (Gh → Act) → List (Nat × RT) → Prop} {k : Nat} {A : Gh → Act} {F : List (Nat × RT)} (h : fin A F) : SeqG P md ops W fin [] k A F := h
/-- An operation that leaves one value, wherever memory is made. -/
theorem SeqG.yes {fin : (Gh → Act) → List (Nat × RT) → Prop} {os : List Oper} {k : Nat} {A A' : Gh → Act} {F : List (Nat × RT)} {o : Oper} {d : Nat} {v : Value} (hd : o.dst = some d) (hw : ∀ γ, Region.wanted o (yielded ops (A γ).tmps) = true)
    (hs : ∀ (γ : Gh) (w : World) (K : Act → World → Prop), Below W.heap.size W w → Shut (∀ w', Below w.heap.size w w' → K ((A γ).put (some d) v) w') → Oper.wp P o (A γ) w K QF) (hA : ∀ γ, (A γ).put (some d) v = A' γ)
    (h : SeqG P md ops W fin os (k + 1) A' F) : SeqG P md ops W fin (o :: os) k A F :=
  ⟨d, fun _ => v, fun _ _ _ _ => True, [], hd, Stable.true, fun _ _ _ _ _ => rfl, Or.inl rfl,
    fun γ w K hS _ hK => by rw [if_pos (hw γ)]; exact hs γ w K hS (fun w' hS' => hK (fun _ => 0) w' hS' trivial),
    by rw [List.append_nil, show (fun γ => (A γ).put (some d) v) = A' from funext hA]; exact h⟩
theorem SeqG.no {fin : (Gh → Act) → List (Nat × RT) → Prop} {os : List Oper} {k : Nat} {A A' : Gh → Act} {F : List (Nat × RT)} {o : Oper} {d : Nat} (hd : o.dst = some d) (hw : ∀ γ, Region.wanted o (yielded ops (A γ).tmps) = false)
    (hA : ∀ γ, (A γ).put (some d) undef = A' γ) (h : SeqG P md ops W fin os (k + 1) A' F) : SeqG P md ops W fin (o :: os) k A F :=
  ⟨d, fun _ => undef, fun _ _ _ _ => True, [], hd, Stable.true, fun _ _ _ _ _ => rfl, Or.inl rfl,
    fun γ w K hS _ hK => by rw [if_neg (by rw [hw γ]; decide)]; exact hK (fun _ => 0) w (Below.refl _ _) trivial,
    by rw [List.append_nil, show (fun γ => (A γ).put (some d) undef) = A' from funext hA]; exact h⟩
/-- An operation whose value hangs on what others made, of whom it waits. -/
theorem SeqG.hang {fin : (Gh → Act) → List (Nat × RT) → Prop} {os : List Oper} {k : Nat} {A A' : Gh → Act} {F : List (Nat × RT)} {o : Oper} {d : Nat} (V : Gh → Value) (hd : o.dst = some d) (hw : ∀ γ, Region.wanted o (yielded ops (A γ).tmps) = true)
    (hi : Indep md ops k V) (hk : ∀ γ g, V (updG γ k g) = V γ)
    (hs : ∀ (γ : Gh) (w : World) (K : Act → World → Prop), Below W.heap.size W w → (∀ f ∈ F, ReachB md ops k f.1 → ∃ lo hi, W.heap.size ≤ lo ∧ hi ≤ w.heap.size ∧ f.2 (γ f.1) lo hi w) →
      Shut (∀ w', Below w.heap.size w w' → K ((A γ).put (some d) (V γ)) w') → Oper.wp P o (A γ) w K QF) (hA : ∀ γ, (A γ).put (some d) (V γ) = A' γ)
    (h : SeqG P md ops W fin os (k + 1) A' F) : SeqG P md ops W fin (o :: os) k A F :=
  ⟨d, V, fun _ _ _ _ => True, [], hd, Stable.true, hi, Or.inl rfl,
    fun γ w K hS hF hK => by rw [if_pos (hw γ)]; exact hs γ w K hS hF (fun w' hS' => by have := hK (γ k) w' hS' trivial; rw [hk] at this; exact this),
    by rw [List.append_nil, show (fun γ => (A γ).put (some d) (V γ)) = A' from funext hA]; exact h⟩
/-- An operation that makes memory of its own, and leaves where it lies. -/
theorem SeqG.make {fin : (Gh → Act) → List (Nat × RT) → Prop} {os : List Oper} {k : Nat} {A A' : Gh → Act} {F : List (Nat × RT)} {o : Oper} {d : Nat} (V : (Nat → Nat) → Value) (R : RT) (hd : o.dst = some d)
    (hw : ∀ γ, Region.wanted o (yielded ops (A γ).tmps) = true) (hR : Stable R)
    (hs : ∀ (γ : Gh) (w : World) (K : Act → World → Prop), Below W.heap.size W w → (∀ f ∈ F, ReachB md ops k f.1 → ∃ lo hi, W.heap.size ≤ lo ∧ hi ≤ w.heap.size ∧ f.2 (γ f.1) lo hi w) →
      Shut (∀ g w', Below w.heap.size w w' → R g w.heap.size w'.heap.size w' → K ((A γ).put (some d) (V g)) w') → Oper.wp P o (A γ) w K QF)
    (hA : ∀ γ, (A γ).put (some d) (V (γ k)) = A' γ) (h : SeqG P md ops W fin os (k + 1) A' (F ++ [(k, R)])) : SeqG P md ops W fin (o :: os) k A F :=
  ⟨d, fun γ => V (γ k), R, [(k, R)], hd, hR, fun i hi _ γ g => by dsimp only; rw [updG_ne γ g (Ne.symm hi)], Or.inr rfl,
    fun γ w K hS hF hK => by rw [if_pos (hw γ)]; exact hs γ w K hS hF (fun g w' hS' hR' => by have := hK g w' hS' hR'; dsimp only at this; rw [updG_self] at this; exact this),
    by rw [show (fun γ => (A γ).put (some d) (V (γ k))) = A' from funext hA]; exact h⟩

/-- The tail, in its order. -/
def TailL (P : Program) (Q : Exit → Act → World → Prop) : List Oper → Act → World → Prop
  | [], a, w => Q .normal a w
  | o :: os, a, w => Oper.wp P o a w (fun a' w' => TailL P Q os a' w') QF
theorem TailL.nil {a : Act} {w : World} (h : Q .normal a w) : TailL P Q [] a w := h
theorem TailL.cons {o : Oper} {os : List Oper} {a : Act} {w : World} (h : ∀ K : Act → World → Prop, Shut (∀ a w, TailL P Q os a w → K a w) → Oper.wp P o a w K QF) : TailL P Q (o :: os) a w := h _ (fun _ _ h => h)

/-- All values, and all that was made, as functions of the operation's number. -/
theorem SeqG.vals {fin : (Gh → Act) → List (Nat × RT) → Prop} (d : Nat → Nat) (hd : ∀ k o dd, ops[k]? = some o → o.dst = some dd → d k = dd) : ∀ (os : List Oper) (pre lt : List Oper) (a0 : Act) (V0 : Nat → Gh → Value) (R0 : Nat → RT) (F : List (Nat × RT)),
    ops = (pre ++ os ++ lt).toArray → (∀ f ∈ F, f.1 < pre.length ∧ R0 f.1 = f.2) → SeqG P md ops W fin os pre.length (fun γ => seqFr d (fun j => V0 j γ) a0 pre.length) F →
    ∃ (V : Nat → Gh → Value) (R : Nat → RT) (F' : List (Nat × RT)), (∀ j, j < pre.length → V j = V0 j ∧ R j = R0 j) ∧ (∀ f ∈ F', f.1 < pre.length + os.length ∧ R f.1 = f.2) ∧
      (∀ j, pre.length ≤ j → j < pre.length + os.length → Stable (R j) ∧ Indep md ops j (V j) ∧ ∃ Fj : List (Nat × RT), (∀ f ∈ Fj, f.1 < j ∧ R f.1 = f.2) ∧ GStep P md ops W j (fun γ => seqFr d (fun i => V i γ) a0 j) (d j) (V j) (R j) Fj) ∧
      fin (fun γ => seqFr d (fun i => V i γ) a0 (pre.length + os.length)) F' := by
  have same : ∀ (a0 : Act) (u v : Nat → Value) (k : Nat), (∀ j, j < k → u j = v j) → seqFr d u a0 k = seqFr d v a0 k := by
    intro a0 u v k
    induction k with
    | zero => intro _; rfl
    | succ k ih =>
      intro h
      show (seqFr d u a0 k).put _ _ = (seqFr d v a0 k).put _ _
      rw [ih (fun j hj => h j (by omega)), h k (by omega)]
  intro os
  induction os with
  | nil => intro pre lt a0 V0 R0 F hl hF h; exact ⟨V0, R0, F, fun _ _ => ⟨rfl, rfl⟩, hF, fun j h1 h2 => by simp at h2; omega, h⟩
  | cons o os ih =>
    intro pre lt a0 V0 R0 F hl hF h
    obtain ⟨dd, v, R, FF, hdd, hst, hin, hFF, hs, h⟩ := h
    have ho : ops[pre.length]? = some o := by rw [hl]; simp
    have e := hd _ o dd ho hdd
    let V1 : Nat → Gh → Value := fun j => if j = pre.length then v else V0 j
    let R1 : Nat → RT := fun j => if j = pre.length then R else R0 j
    have e1 : ∀ j, j < pre.length → V1 j = V0 j := fun j hj => if_neg (by omega)
    have f1 : ∀ j, j < pre.length → R1 j = R0 j := fun j hj => if_neg (by omega)
    have ek : V1 pre.length = v := if_pos rfl
    have fk : R1 pre.length = R := if_pos rfl
    have e2 : (fun γ => seqFr d (fun j => V1 j γ) a0 (pre ++ [o]).length) = fun γ => (seqFr d (fun j => V0 j γ) a0 pre.length).put (some dd) (v γ) := by
      funext γ
      rw [List.length_append]
      show (seqFr d (fun j => V1 j γ) a0 pre.length).put (some (d pre.length)) (V1 pre.length γ) = _
      rw [same a0 (fun j => V1 j γ) (fun j => V0 j γ) _ (fun j hj => by (try dsimp only); rw [e1 j hj]), ek, e]
    have hF1 : ∀ f ∈ F ++ FF, f.1 < (pre ++ [o]).length ∧ R1 f.1 = f.2 := by
      intro f hf
      rw [List.length_append]
      rcases List.mem_append.1 hf with hf | hf
      · obtain ⟨h1, h2⟩ := hF f hf
        exact ⟨by simp; omega, by rw [f1 _ h1]; exact h2⟩
      · rcases hFF with rfl | rfl
        · cases hf
        · obtain rfl := List.mem_singleton.1 hf
          exact ⟨by simp, fk⟩
    have h' : SeqG P md ops W fin os (pre ++ [o]).length (fun γ => seqFr d (fun j => V1 j γ) a0 (pre ++ [o]).length) (F ++ FF) := by
      rw [e2]; simpa using h
    obtain ⟨V, R', F', hu1, hu2, hu3, hu4⟩ := ih (pre ++ [o]) lt a0 V1 R1 (F ++ FF) (by rw [hl]; simp) hF1 h'
    simp only [List.length_append, List.length_cons, List.length_nil, Nat.zero_add] at hu1 hu2 hu3 hu4
    have hu0 : ∀ j, j < pre.length → V j = V0 j ∧ R' j = R0 j := fun j hj => by
      obtain ⟨h1, h2⟩ := hu1 j (by omega)
      exact ⟨h1.trans (e1 j hj), h2.trans (f1 j hj)⟩
    refine ⟨V, R', F', hu0, fun f hf => ?_, fun j h1 h2 => ?_, ?_⟩
    · obtain ⟨h1, h2⟩ := hu2 f hf
      exact ⟨by simp; omega, h2⟩
    · by_cases hjk : j = pre.length
      · subst hjk
        obtain ⟨g1, g2⟩ := hu1 pre.length (by omega)
        rw [g2, fk, g1, ek, e]
        refine ⟨hst, hin, F, fun f hf => ?_, ?_⟩
        · obtain ⟨h1, h2⟩ := hF f hf
          exact ⟨h1, by rw [(hu0 _ h1).2]; exact h2⟩
        · intro γ w K hS hFx hK
          have ee : seqFr d (fun i => V i γ) a0 pre.length = seqFr d (fun i => V0 i γ) a0 pre.length := same a0 _ _ _ (fun j hj => by (try dsimp only); rw [(hu0 j hj).1])
          dsimp only at hK ⊢
          rw [ee] at hK ⊢
          exact wpOp_step ho (fun K' hK' => by rw [hdd]; exact hs γ w K' hS hFx (fun g w' hb hr => hK' _ _ (hK g w' hb hr)))
      · exact hu3 j (by omega) (by simp at h2 ⊢; omega)
    · have : pre.length + (os.length + 1) = pre.length + 1 + os.length := by omega
      rw [List.length_cons, this]; exact hu4

theorem wanted_none {o : Oper} (h : o.guard = none) (f : Nat → Option Bool) : Region.wanted o f = true := by unfold Region.wanted; rw [h]

/-- The tail is walked in its order. -/
theorem seqg_tail (hok : seqgOk md ops m ng = true) : ∀ (os pre : List Oper), ops = (pre ++ os).toArray → ng ≤ pre.length → ∀ (listed : Array Bool), listed.size = ops.size →
    (∀ j, j < ops.size → (listed.getD j false = true ↔ j < pre.length)) → ∀ a w, TailL P Q os a w → wpAny P md ops Q os.length listed a w := by
  have two : ∀ (listed : Array Bool) (j : Nat), listed.size = ops.size → j < ops.size → (listed.getD j false = true ↔ ¬ listed.getD j true = false) := by
    intro listed j hs hj
    simp only [Array.getD_eq_getD_getElem?, Array.getElem?_eq_getElem (show j < listed.size by omega), Option.getD_some]
    cases listed[j] <;> simp
  intro os
  induction os with
  | nil =>
    intro pre hl _ listed hls hL a w h
    have hsz : ops.size = pre.length := by rw [hl]; simp
    refine ⟨?_, h⟩
    cases hr : Region.ready md ops listed with
    | nil => rfl
    | cons x xs =>
      exfalso
      have hx : x ∈ Region.ready md ops listed := by rw [hr]; exact List.mem_cons_self
      obtain ⟨h0, o, ho, _⟩ := mem_ready.1 hx
      have hlt := (Array.getElem?_eq_some_iff.1 ho).1
      exact (two listed x hls hlt).1 ((hL x hlt).2 (by omega)) h0
  | cons o os ih =>
    intro pre hl hng listed hls hL a w h
    have hsz : ops.size = pre.length + (os.length + 1) := by rw [hl]; simp
    have ho : ops[pre.length]? = some o := by rw [hl]; simp
    have hun : listed.getD pre.length true = false := by
      apply Classical.byContradiction; intro hn
      have := (hL pre.length (by omega)).1 ((two listed _ hls (by omega)).2 hn)
      omega
    refine ⟨fun hr => ?_, fun i hi => ?_⟩
    · exfalso
      obtain ⟨o', ho', _, _, _, haft⟩ := seqgOk_tail hok hng (show pre.length < ops.size by omega)
      have : pre.length ∈ Region.ready md ops listed := mem_ready.2 ⟨hun, o', ho', fun e he hb => (hL _ (by have := haft e he hb; omega)).2 (haft e he hb)⟩
      rw [hr] at this; cases this
    · obtain ⟨hi0, oi, hoi, hall⟩ := mem_ready.1 hi
      have hlt := (Array.getElem?_eq_some_iff.1 hoi).1
      have hge : pre.length ≤ i := by
        apply Classical.byContradiction; intro hn
        exact (two listed i hls hlt).1 ((hL i hlt).2 (by omega)) hi0
      have hei : i = pre.length := by
        apply Classical.byContradiction; intro hn
        obtain ⟨o', ho', _, _, hprev, _⟩ := seqgOk_tail hok (show ng ≤ i by omega) hlt
        obtain ⟨e, he, hb, heq⟩ := depB_spec ho' (hprev.resolve_left (by omega))
        rw [hoi] at ho'; cases ho'
        have := (hL e.on (by omega)).1 (hall e he hb)
        omega
      subst hei
      rw [ho] at hoi; cases hoi
      obtain ⟨o', ho', hg, _, _, _⟩ := seqgOk_tail hok hng hlt
      rw [ho] at ho'; cases ho'
      unfold wpOp
      rw [ho]
      show if _ then _ else _
      rw [if_pos (wanted_none hg _)]
      refine Or.inl (Oper.wp_mono (fun a' w' h' => ?_) (Oper.wp_QF h))
      refine ih (pre ++ [o]) (by rw [hl]; simp) (by simp; omega) _ (by simpa using hls) (fun j hj => ?_) a' w' h'
      by_cases hji : j = pre.length
      · subst hji
        simp [Array.getD_eq_getD_getElem?, Array.getElem?_setIfInBounds_self_of_lt (show pre.length < listed.size by omega)]
      · rw [getD_set_ne false (Ne.symm hji), hL j hj]
        simp; omega

theorem seqg_transfer {k : Nat} {o : Oper} {A a : Gh → Act} {d : Nat} {V : Gh → Value} {R : RT} {F : List (Nat × RT)} (ho : ops[k]? = some o) (hod : o.dst = some d) (hsel : ∀ cs b, o.op ≠ .select cs b)
    (γ : Gh) (hAd : d < (A γ).tmps.size) (hsame : ∀ s ∈ o.looksAt ops, (a γ).tmps[s]? = (A γ).tmps[s]?) (h : GStep P md ops W k A d V R F) (w : World) (hS : Below W.heap.size W w)
    (hF : ∀ f ∈ F, ReachB md ops k f.1 → ∃ lo hi, W.heap.size ≤ lo ∧ hi ≤ w.heap.size ∧ f.2 (γ f.1) lo hi w) (K : Act → World → Prop)
    (hK : ∀ g w', Below w.heap.size w w' → R g w.heap.size w'.heap.size w' → K ((a γ).put (some d) (V (updG γ k g))) w') : wpOp P ops QF k K (a γ) w := by
  have h1 := h γ w (fun a' w' => ∃ g, a' = (A γ).put (some d) (V (updG γ k g)) ∧ Below w.heap.size w w' ∧ R g w.heap.size w'.heap.size w') hS hF (fun g w' hb hr => ⟨g, rfl, hb, hr⟩)
  have hexec : execOp (a γ).eval o = execOp (A γ).eval o := by
    refine execOp_congr o hsel fun x hx => ?_
    cases x with
    | tmp t =>
      have := hsame t (List.mem_append_left _ (List.mem_filterMap.2 ⟨.tmp t, by simpa using hx, rfl⟩))
      simp only [Act.eval, Array.getD_eq_getD_getElem?, this]
    | _ => rfl
  have hwant : Region.wanted o (yielded ops (a γ).tmps) = Region.wanted o (yielded ops (A γ).tmps) := by
    unfold Region.wanted
    cases hg : o.guard with
    | none => rfl
    | some gw =>
      obtain ⟨g, want⟩ := gw
      have hy : yielded ops (a γ).tmps g = yielded ops (A γ).tmps g := by
        unfold yielded
        cases ht : (ops[g]?).bind (·.dst) with
        | none => rfl
        | some t =>
          have := hsame t (List.mem_append_right _ (by simp [hg, ht]))
          simp only [Option.bind_some, this]
      simp only [hy]
  have inj : ∀ u v : Value, (A γ).put (some d) u = (A γ).put (some d) v → u = v := by
    intro u v e
    have e1 : ((A γ).put (some d) u).tmps[d]? = ((A γ).put (some d) v).tmps[d]? := by rw [e]
    simp only [Act.put, Array.getElem?_setIfInBounds_self_of_lt hAd, Option.some.injEq] at e1
    exact e1
  unfold wpOp at *
  simp only [ho] at *
  rw [hwant]
  split
  · rename_i hw
    rw [if_pos hw] at h1
    rcases h1 with h1 | ⟨hasks, hlets⟩
    case inr => exact .inr ⟨by unfold Oper.asks at *; rw [hexec]; exact hasks, hlets⟩
    refine .inl ?_
    unfold Oper.wp at *
    rw [hexec]
    generalize (execOp (A γ).eval o).run P w = r at *
    cases r with
    | ok n w' =>
      cases n <;> simp only [Oper.upon, hod] at h1 ⊢
      case value u => obtain ⟨g, e, hb, hr⟩ := h1; obtain rfl := inj _ _ e; exact hK g _ hb hr
      case skip => obtain ⟨g, e, hb, hr⟩ := h1; have e2 := inj _ _ e; rw [e2]; exact hK g _ hb hr
      case defer x =>
        exfalso
        obtain ⟨g, e, _⟩ := h1
        have e := congrArg Act.defers e
        have e' : x :: (A γ).defers = (A γ).defers := e
        have := congrArg List.length e'
        simp at this
      case enter f args =>
        refine Calls.mono h1 fun e w'' he => ?_
        cases e with
        | returned u => obtain ⟨g, e, hb, hr⟩ := he; obtain rfl := inj _ _ e; exact hK g _ hb hr
        | panicked c => exact False.elim he
        | outgrown => exact he
      case row row args => exact Rows.mono h1 fun u w'' he => by obtain ⟨g, e, hb, hr⟩ := he; obtain rfl := inj _ _ e; exact hK g _ hb hr
    | halt x w' =>
      cases x <;> simp only [Oper.upon] at h1 ⊢ <;> exact False.elim h1
  · rename_i hw
    rw [if_neg hw] at h1
    rw [hod] at h1 ⊢
    obtain ⟨g, e, hb, hr⟩ := h1
    have e2 := inj _ _ e
    rw [e2]
    exact hK g _ hb hr

/-- What holds of what was made. -/
def Made (W : World) (R : Nat → RT) (L : Nat → Prop) (γ : Gh) (lo hi : Nat → Nat) (w : World) : Prop :=
  (∀ j, L j → W.heap.size ≤ lo j ∧ lo j ≤ hi j ∧ hi j ≤ w.heap.size ∧ R j (γ j) (lo j) (hi j) w) ∧ ∀ j k, L j → L k → j ≠ k → hi j ≤ lo k ∨ hi k ≤ lo j

theorem reach_listed {listed : Array Bool} (hcl : ∀ j oj, ops[j]? = some oj → listed.getD j false = true → ∀ e ∈ oj.after, Region.binds md e = true → listed.getD e.on false = true) {k j : Nat} (h : ReachB md ops k j) :
    ∀ o, ops[k]? = some o → (∀ e ∈ o.after, Region.binds md e = true → listed.getD e.on false = true) → listed.getD j false = true := by
  have get : ∀ {i j : Nat}, depB md ops i j = true → ∃ o, ops[i]? = some o := by
    intro i j h
    unfold depB at h
    cases ho : ops[i]? with
    | none => rw [ho] at h; cases h
    | some o => exact ⟨o, rfl⟩
  induction h with
  | one h =>
    intro o ho hall
    obtain ⟨e, he, hb, heq⟩ := depB_spec ho h
    have := hall e he hb; rw [heq] at this; exact this
  | more h h' ih =>
    intro o ho hall
    obtain ⟨e, he, hb, heq⟩ := depB_spec ho h
    have hi := hall e he hb; rw [heq] at hi
    cases h' with
    | one h2 => obtain ⟨oi, hoi⟩ := get h2; exact ih oi hoi (hcl _ oi hoi hi)
    | more h2 _ => obtain ⟨oi, hoi⟩ := get h2; exact ih oi hoi (hcl _ oi hoi hi)

theorem seqg_main (hok : seqgOk md ops m ng = true) {d : Nat → Nat} {V : Nat → Gh → Value} {R : Nat → RT} {a0 : Act} {lg lt : List Oper} (hl : ops = (lg ++ lt).toArray) (hng : ng = lg.length) (hm : m = a0.tmps.size)
    (hd : ∀ k o dd, ops[k]? = some o → o.dst = some dd → d k = dd)
    (hsteps : ∀ j, j < ng → Stable (R j) ∧ Indep md ops j (V j) ∧ ∃ Fj : List (Nat × RT), (∀ f ∈ Fj, f.1 < j ∧ R f.1 = f.2) ∧ GStep P md ops W j (fun γ => seqFr d (fun i => V i γ) a0 j) (d j) (V j) (R j) Fj)
    (hfin : ∀ γ lo hi w, Below W.heap.size W w → Made W R (fun j => j < ng) γ lo hi w → TailL P Q lt (seqFr d (fun i => V i γ) a0 ng) w) :
    ∀ (n : Nat) (pend : List Nat), pend.length = n → pend.Nodup → ∀ (listed : Array Bool), listed.size = ops.size → (∀ j, j < ng → (listed.getD j true = false ↔ j ∈ pend)) → (∀ j ∈ pend, j < ng) →
      (∀ j, ng ≤ j → j < ops.size → listed.getD j true = false) →
      (∀ j oj, ops[j]? = some oj → listed.getD j false = true → ∀ e ∈ oj.after, Region.binds md e = true → listed.getD e.on false = true) →
      ∀ γ lo hi a w, SeqInv d (fun j => V j γ) a0 ng (fun j => listed.getD j false = true) a → Made W R (fun j => j < ng ∧ listed.getD j false = true) γ lo hi w → Below W.heap.size W w →
        wpAny P md ops Q (n + lt.length) listed a w := by
  have hsize : ops.size = ng + lt.length := by rw [hl, hng]; simp
  have hinj : ∀ j k, j < ng → k < ng → d j = d k → j = k := by
    intro j k hj hk e
    apply Classical.byContradiction; intro hne
    obtain ⟨o, dd, ho, hdd, _, _, hall⟩ := seqgOk_one hok hk
    obtain ⟨oj, dj, hoj, hdj, _, _, _⟩ := seqgOk_one hok hj
    have := (hall j hj hne oj dj hoj hdj).1
    rw [hd j oj dj hoj hdj, hd k o dd ho hdd] at e
    exact this e
  have hsz : ∀ j, j < ng → d j < a0.tmps.size := by
    intro j hj
    obtain ⟨o, dd, ho, hdd, hlt, _, _⟩ := seqgOk_one hok hj
    rw [hd j o dd ho hdd, ← hm]; exact hlt
  have hnosel : ∀ (j : Nat) (o : Oper) cs b, ops[j]? = some o → o.op ≠ .select cs b := by
    have : Region.noSelect ops = true := by unfold seqgOk at hok; simp only [Bool.and_eq_true] at hok; exact hok.1.1.1
    intro j o cs b ho; exact Region.noSelect_spec this j o cs b ho
  have two : ∀ (listed : Array Bool) (j : Nat), listed.size = ops.size → j < ops.size → (listed.getD j false = true ↔ ¬ listed.getD j true = false) := by
    intro listed j hs hj
    simp only [Array.getD_eq_getD_getElem?, Array.getElem?_eq_getElem (show j < listed.size by omega), Option.getD_some]
    cases listed[j] <;> simp
  intro n
  induction n with
  | zero =>
    intro pend hp _ listed hls hpl _ htl hcl γ lo hi a w hinv hmade hB
    obtain rfl := List.length_eq_zero_iff.1 hp
    have hall : ∀ j, j < ng → listed.getD j false = true := fun j hj => (two listed j hls (by omega)).2 (fun h => by have := (hpl j hj).1 h; cases this)
    rw [Nat.zero_add]
    rw [hinv.ext (seqFr_inv (v := fun j => V j γ) hinj hsz ng (Nat.le_refl _)) (fun j hj => ⟨fun _ => hj, fun _ => hall j hj⟩)]
    refine seqg_tail hok lt lg (by rw [hl]) (by omega) listed hls (fun j hj => ⟨fun h => ?_, fun h => hall j (by omega)⟩) _ _ (hfin γ lo hi w hB ⟨fun j hj => hmade.1 j ⟨hj, hall j hj⟩, fun j k hj hk hne => hmade.2 j k ⟨hj, hall j hj⟩ ⟨hk, hall k hk⟩ hne⟩)
    apply Classical.byContradiction; intro hn
    exact (two listed j hls hj).1 h (htl j (by omega) hj)
  | succ n ih =>
    intro pend hp hpn listed hls hpl hplt htl hcl γ lo hi a w hinv hmade hB
    have hne : pend ≠ [] := fun e => by rw [e] at hp; cases hp
    have hpos : n + 1 + lt.length = (n + lt.length) + 1 := by omega
    rw [hpos]
    refine ⟨fun hr => ?_, fun i hir => ?_⟩
    · exfalso
      obtain ⟨x, hx⟩ := List.exists_mem_of_ne_nil pend hne
      obtain ⟨i, hi, hpi, hleast⟩ := least_of' (p := fun j => ¬ listed.getD j false = true) ng ⟨x, hplt x hx, fun h => (two listed x hls (by have := hplt x hx; omega)).1 h ((hpl x (hplt x hx)).2 hx)⟩
      obtain ⟨o, dd, ho, _, _, haft, _⟩ := seqgOk_one hok hi
      have : i ∈ Region.ready md ops listed := mem_ready.2 ⟨Classical.byContradiction fun h => hpi ((two listed i hls (by omega)).2 h), o, ho, fun e he hb => by
        have := haft e he hb
        exact Classical.byContradiction fun h => hleast _ this h⟩
      rw [hr] at this; cases this
    · obtain ⟨hun, o, ho, hall⟩ := mem_ready.1 hir
      have hltop := (Array.getElem?_eq_some_iff.1 ho).1
      have hlt : i < ng := by
        apply Classical.byContradiction; intro hn
        obtain ⟨x, hx⟩ := List.exists_mem_of_ne_nil pend hne
        have hxlt := hplt x hx
        obtain ⟨_, _, _, hdep, _, _⟩ := seqgOk_tail hok (show ng ≤ i by omega) hltop
        exact (two listed x hls (by omega)).1 (reach_listed hcl (hdep x hxlt) o ho hall) ((hpl x hxlt).2 hx)
      obtain ⟨o', dd, ho', hdd, _, haft, hlook⟩ := seqgOk_one hok hlt
      rw [ho] at ho'; cases ho'
      have hdi := hd i o dd ho hdd
      have hip := (hpl i hlt).1 hun
      have hcan := seqFr_inv (v := fun j => V j γ) hinj hsz i (by omega)
      have hnoti : ¬ listed.getD i false = true := fun h => (two listed i hls hltop).1 h hun
      have hsame : ∀ s ∈ o.looksAt ops, a.tmps[s]? = (seqFr d (fun j => V j γ) a0 i).tmps[s]? := by
        intro s hs
        by_cases hreg : ∃ j, j < ng ∧ d j = s
        · obtain ⟨j, hj, rfl⟩ := hreg
          obtain ⟨oj, dj, hoj, hdj, _, _, _⟩ := seqgOk_one hok hj
          have hdj' := hd j oj dj hoj hdj
          by_cases hji : j = i
          · subst hji
            rw [hinv.2.2.2 (d j) (fun k hk hL e => hnoti (by rw [← hinj _ _ hk hj e]; exact hL)), hcan.2.2.2 (d j) (fun k hk hL e => by have := hinj _ _ hk hj e; omega)]
          · rcases (hlook j hj hji oj dj hoj hdj).2 (by rw [← hdj']; exact hs) with ⟨h1, e, he, hb, heq⟩ | ⟨h1, e, he, hb, heq⟩
            · have hLj : listed.getD j false = true := by have := hall e he hb; rw [heq] at this; exact this
              rw [hinv.2.2.1 j hj hLj, hcan.2.2.1 j hj h1]
            · have hLj : ¬ listed.getD j false = true → a.tmps[d j]? = (seqFr d (fun j => V j γ) a0 i).tmps[d j]? := fun hnj => by
                rw [hinv.2.2.2 (d j) (fun k hk hL e => hnj (by rw [← hinj _ _ hk hj e]; exact hL)), hcan.2.2.2 (d j) (fun k hk hL e => by have := hinj _ _ hk hj e; omega)]
              refine hLj (fun hnj => hnoti ?_)
              have := hcl j oj hoj hnj e he hb
              rw [heq] at this; exact this
        · rw [hinv.2.2.2 s (fun j hj _ e => hreg ⟨j, hj, e⟩), hcan.2.2.2 s (fun j hj _ e => hreg ⟨j, hj, e⟩)]
      have hA : d i < (seqFr d (fun j => V j γ) a0 i).tmps.size := by rw [hcan.2.1]; exact hsz i hlt
      have hset : ∀ j, j < ops.size → ((listed.setIfInBounds i true).getD j false = true ↔ (listed.getD j false = true ∨ j = i)) := by
        intro j hj
        by_cases hji : j = i
        · subst hji
          simp only [Array.getD_eq_getD_getElem?, Array.getElem?_setIfInBounds_self_of_lt (show j < listed.size by omega), Option.getD_some, or_true]
        · rw [getD_set_ne false (Ne.symm hji)]; simp [hji]
      obtain ⟨hst, hin, Fj, hFj, hstep⟩ := hsteps i hlt
      refine wpOp_QF (seqg_transfer (A := fun γ => seqFr d (fun j => V j γ) a0 i) (a := fun _ => a) ho (hdi ▸ hdd) (fun cs b => hnosel i o cs b ho) γ hA hsame hstep w hB (fun f hf hre => ?_) _ (fun g w' hb hr => ?_))
      · have hL := reach_listed hcl hre o ho hall
        obtain ⟨h1, h2⟩ := hFj f hf
        obtain ⟨g1, g2, g3, g4⟩ := hmade.1 f.1 ⟨by omega, hL⟩
        exact ⟨lo f.1, hi f.1, g1, g3, by rw [← h2]; exact g4⟩
      · have hw := hb.size
        have hWw := hB.size
        have vsame : ∀ j, j < ng → listed.getD j false = true → V j (updG γ i g) = V j γ := by
          intro j hj hL
          obtain ⟨_, hinj', _⟩ := hsteps j hj
          refine hinj' i (fun e => hnoti (by rw [e]; exact hL)) (fun hre => ?_) γ g
          obtain ⟨oj, dj, hoj, _, _, _, _⟩ := seqgOk_one hok hj
          exact hnoti (reach_listed hcl hre oj hoj (hcl j oj hoj hL))
        have hinv' : SeqInv d (fun j => V j (updG γ i g)) a0 ng (fun j => listed.getD j false = true) a := by
          refine ⟨hinv.1, hinv.2.1, fun j hj hL => ?_, hinv.2.2.2⟩
          rw [hinv.2.2.1 j hj hL]; dsimp only; rw [vsame j hj hL]
        have hput := hinv'.put hinj hsz (i := i) hlt
        refine ih (pend.erase i) (by rw [List.length_erase_of_mem hip, hp]; rfl) (hpn.erase _) _ (by simpa using hls) (fun j hj => ?_) (fun j hj => hplt j (List.mem_of_mem_erase hj)) (fun j h1 h2 => ?_) (fun j oj hoj hL e he hb => ?_)
          (updG γ i g) (fun j => if j = i then w.heap.size else lo j) (fun j => if j = i then w'.heap.size else hi j) _ _ ?_ ?_ (hB.trans (hb.mono hWw))
        · by_cases hji : j = i
          · subst hji
            have h1 : ¬ (listed.setIfInBounds j true).getD j true = false := by
              have := (hset j (by omega)).2 (Or.inr rfl)
              exact (two _ j (by simpa using hls) (by omega)).1 this
            exact ⟨fun h => absurd h h1, fun h => absurd rfl ((List.Nodup.mem_erase_iff hpn).1 h).1⟩
          · rw [getD_set_ne true (Ne.symm hji), hpl j hj]
            exact ⟨fun h => (List.mem_erase_of_ne hji).2 h, fun h => List.mem_of_mem_erase h⟩
        · rw [getD_set_ne true (show i ≠ j by omega)]; exact htl j h1 h2
        · have hjlt := (Array.getElem?_eq_some_iff.1 hoj).1
          rcases (hset j hjlt).1 hL with h | rfl
          · have hon := hcl j oj hoj h e he hb
            have honlt : e.on < ops.size := by
              apply Classical.byContradiction; intro hn
              simp [Array.getD_eq_getD_getElem?, Array.getElem?_eq_none (show listed.size ≤ e.on by omega)] at hon
            exact (hset _ honlt).2 (Or.inl hon)
          · rw [ho] at hoj; cases hoj
            have hon := hall e he hb
            have honlt : e.on < ops.size := by have := haft e he hb; omega
            exact (hset _ honlt).2 (Or.inl hon)
        · refine ⟨hput.1, hput.2.1, fun j hj hL => hput.2.2.1 j hj ((hset j (by omega)).1 hL), fun s hs => hput.2.2.2 s (fun j hj hL => hs j hj ((hset j (by omega)).2 hL))⟩
        · refine ⟨fun j hj => ?_, fun j k hj hk hjk => ?_⟩
          · dsimp only
            by_cases hji : j = i
            · subst hji
              rw [if_pos rfl, if_pos rfl, updG_self]
              exact ⟨hWw, hw, Nat.le_refl _, hr⟩
            · rw [if_neg hji, if_neg hji, updG_ne γ g hji]
              have hLj := ((hset j (by omega)).1 hj.2).resolve_right hji
              obtain ⟨g1, g2, g3, g4⟩ := hmade.1 j ⟨hj.1, hLj⟩
              exact ⟨g1, g2, by omega, (hsteps j hj.1).1 _ _ _ _ _ g4 (hb.mono g3)⟩
          · dsimp only
            by_cases hji : j = i
            · have hki : k ≠ i := fun e => hjk (by rw [hji, e])
              rw [if_pos hji, if_pos hji, if_neg hki, if_neg hki]
              have hLk := ((hset k (by omega)).1 hk.2).resolve_right hki
              obtain ⟨g1, g2, g3, g4⟩ := hmade.1 k ⟨hk.1, hLk⟩
              exact Or.inr g3
            · have hLj := ((hset j (by omega)).1 hj.2).resolve_right hji
              rw [if_neg hji, if_neg hji]
              by_cases hki : k = i
              · rw [if_pos hki, if_pos hki]
                obtain ⟨g1, g2, g3, g4⟩ := hmade.1 j ⟨hj.1, hLj⟩
                exact Or.inl g3
              · rw [if_neg hki, if_neg hki]
                have hLk := ((hset k (by omega)).1 hk.2).resolve_right hki
                exact hmade.2 j k ⟨hj.1, hLj⟩ ⟨hk.1, hLk⟩ hjk

/-- **A region that draws its order, walked once: what it makes lies in blocks of its own; the tail comes behind.** -/
theorem region_seqg {id : Nat} {a : Act} {w : World} (lg lt : List Oper) (hl : ops = (lg ++ lt).toArray) (hm : P.follows .mixedOrders = true) (hok : seqgOk .any ops a.tmps.size lg.length = true) (hS : Below W.heap.size W w.drew)
    (h : ∀ fin : (Gh → Act) → List (Nat × RT) → Prop, Shut (∀ A F, (∀ (γ : Gh) (lo hi : Nat → Nat) (w' : World), Below W.heap.size W w' → (∀ f ∈ F, W.heap.size ≤ lo f.1 ∧ lo f.1 ≤ hi f.1 ∧ hi f.1 ≤ w'.heap.size ∧ f.2 (γ f.1) (lo f.1) (hi f.1) w') →
      (∀ f ∈ F, ∀ f' ∈ F, f.1 ≠ f'.1 → hi f.1 ≤ lo f'.1 ∨ hi f'.1 ≤ lo f.1) → TailL P Q lt (A γ) w') → fin A F) → SeqG P .any ops W fin lg 0 (fun _ => a) []) :
    (Code.region id ops true).wp P Q a w := by
  refine wp_region_any hm ?_
  let d : Nat → Nat := fun k => ((ops[k]?).bind (·.dst)).getD 0
  have hd : ∀ k o dd, ops[k]? = some o → o.dst = some dd → d k = dd := fun k o dd ho hdd => by simp [d, ho, hdd]
  have hsz : ops.size = lg.length + lt.length := by rw [hl]; simp
  obtain ⟨V, R, F, _, hF, hsteps, hfin⟩ := SeqG.vals (V0 := fun _ _ => undef) (R0 := fun _ _ _ _ _ => True) d hd lg [] lt a [] (by rw [hl]; simp) (by simp)
    (h (fun A F => ∀ (γ : Gh) (lo hi : Nat → Nat) (w' : World), Below W.heap.size W w' → (∀ f ∈ F, W.heap.size ≤ lo f.1 ∧ lo f.1 ≤ hi f.1 ∧ hi f.1 ≤ w'.heap.size ∧ f.2 (γ f.1) (lo f.1) (hi f.1) w') →
      (∀ f ∈ F, ∀ f' ∈ F, f.1 ≠ f'.1 → hi f.1 ≤ lo f'.1 ∨ hi f'.1 ≤ lo f.1) → TailL P Q lt (A γ) w') (fun A F hA => hA))
  simp only [List.length_nil, Nat.zero_add] at hF hsteps hfin
  have hfin' : ∀ (γ : Gh) (lo hi : Nat → Nat) (w' : World), Below W.heap.size W w' → Made W R (fun j => j < lg.length) γ lo hi w' → TailL P Q lt (seqFr d (fun i => V i γ) a lg.length) w' := by
    intro γ lo hi w' hB hM
    refine hfin γ lo hi w' hB (fun f hf => ?_) (fun f hf f' hf' hne => hM.2 _ _ (hF f hf).1 (hF f' hf').1 hne)
    obtain ⟨h1, h2⟩ := hF f hf
    obtain ⟨g1, g2, g3, g4⟩ := hM.1 _ h1
    exact ⟨g1, g2, g3, by rw [← h2]; exact g4⟩
  have h0 := seqg_main hok hl rfl rfl hd (fun j hj => hsteps j (Nat.zero_le _) hj) hfin' lg.length (List.range lg.length) (by simp) List.nodup_range (Array.replicate ops.size false) (by simp) (fun j hj => ?_) (fun j hj => by simpa using hj) (fun j h1 h2 => ?_) (fun j oj hoj hL => ?_)
    (fun _ _ => 0) (fun _ => 0) (fun _ => 0) a w.drew ?_ ?_ hS
  · rw [← hsz] at h0; exact h0
  · simp [Array.getD_eq_getD_getElem?, show j < ops.size by omega, hj]
  · simp [Array.getD_eq_getD_getElem?, h2]
  · have hjlt := (Array.getElem?_eq_some_iff.1 hoj).1
    simp [Array.getD_eq_getD_getElem?, hjlt] at hL
  · refine ⟨rfl, rfl, fun j hj hL => ?_, fun _ _ => rfl⟩
    simp [Array.getD_eq_getD_getElem?, show j < ops.size by omega] at hL
  · refine ⟨fun j hj => ?_, fun j k hj _ _ => ?_⟩
    · have := hj.2; simp [Array.getD_eq_getD_getElem?, show j < ops.size by omega] at this
    · have := hj.2; simp [Array.getD_eq_getD_getElem?, show j < ops.size by omega] at this
end

/-- A new block at 'g 0', with these cells. -/
def RCell (C : Array Value) (T : TypeId) : RT := fun g lo hi w => lo ≤ g 0 ∧ g 0 < hi ∧ w.heap[g 0]? = some (.cells C T)
theorem RCell.stable (C : Array Value) (T : TypeId) : Stable (RCell C T) := by
  intro g lo hi w w' h hb
  obtain ⟨h1, h2, h3⟩ := h
  exact ⟨h1, h2, by rw [hb.block _ h2]; exact h3⟩
theorem RCell.made (C : Array Value) (T : TypeId) (w : World) : RCell C T (fun _ => w.heap.size) w.heap.size (w.alloc (.cells C T)).heap.size (w.alloc (.cells C T)) := by
  refine ⟨Nat.le_refl _, by simp, ?_⟩
  show (w.heap.push _)[_]? = _
  simp
theorem blk_cell {w : World} {b : Nat} {C : Array Value} {t : TypeId} (h : w.heap[b]? = some (.cells C t)) (o : Nat) : w.cell? ⟨b, o, none⟩ = C[o]? := by
  simp [World.cell?, h]
theorem blk_free {w : World} {b : Nat} {C : Array Value} {t : TypeId} (h : w.heap[b]? = some (.cells C t)) (o : Nat) : w.frozen? ⟨b, o, none⟩ = false := by
  simp [World.frozen?, h]
theorem blk_lt {w : World} {b : Nat} {o : Obj} (h : w.heap[b]? = some o) : b < w.heap.size := by
  rcases Nat.lt_or_ge b w.heap.size with h' | h'
  · exact h'
  · rw [Array.getElem?_eq_none h'] at h; cases h
theorem blk_set2 {w : World} {b : Nat} {c0 c1 v0 v1 : Value} {t : TypeId} (h : w.heap[b]? = some (.cells #[c0, c1] t)) :
    ((w.setCell ⟨b, 0, none⟩ v0).setCell ⟨b, 1, none⟩ v1).heap[b]? = some (.cells #[v0, v1] t) := by
  simp [World.setCell, Array.getElem?_modify, h]
theorem blk_set3 {w : World} {b : Nat} {c0 c1 c2 v0 v1 v2 : Value} {t : TypeId} (h : w.heap[b]? = some (.cells #[c0, c1, c2] t)) :
    (((w.setCell ⟨b, 0, none⟩ v0).setCell ⟨b, 1, none⟩ v1).setCell ⟨b, 2, none⟩ v2).heap[b]? = some (.cells #[v0, v1, v2] t) := by
  simp [World.setCell, Array.getElem?_modify, h]
theorem listF1 {α : Type} {p : α → Prop} {a : α} (h : ∀ f ∈ [] ++ [a], p f) : p a := h a (by simp)
theorem listF2 {α : Type} {p : α → Prop} {a b : α} (h : ∀ f ∈ [] ++ [a] ++ [b], p f) : p a ∧ p b := ⟨h a (by simp), h b (by simp)⟩
theorem listF3 {α : Type} {p : α → Prop} {a b c : α} (h : ∀ f ∈ [] ++ [a] ++ [b] ++ [c], p f) : p a ∧ p b ∧ p c := ⟨h a (by simp), h b (by simp), h c (by simp)⟩
theorem listF4 {α : Type} {p : α → Prop} {a b c d : α} (h : ∀ f ∈ [] ++ [a] ++ [b] ++ [c] ++ [d], p f) : p a ∧ p b ∧ p c ∧ p d := ⟨h a (by simp), h b (by simp), h c (by simp), h d (by simp)⟩
theorem listD2 {α : Type} {q : α → α → Prop} {a b : α} (h : ∀ f ∈ [] ++ [a] ++ [b], ∀ f' ∈ [] ++ [a] ++ [b], q f f') : q a b := h a (by simp) b (by simp)
theorem listD3 {α : Type} {q : α → α → Prop} {a b c : α} (h : ∀ f ∈ [] ++ [a] ++ [b] ++ [c], ∀ f' ∈ [] ++ [a] ++ [b] ++ [c], q f f') : q a b ∧ q a c ∧ q b c := ⟨h a (by simp) b (by simp), h a (by simp) c (by simp), h b (by simp) c (by simp)⟩
theorem listD4 {α : Type} {q : α → α → Prop} {a b c d : α} (h : ∀ f ∈ [] ++ [a] ++ [b] ++ [c] ++ [d], ∀ f' ∈ [] ++ [a] ++ [b] ++ [c] ++ [d], q f f') : q a b ∧ q a c ∧ q a d ∧ q b c ∧ q b d ∧ q c d :=
  ⟨h a (by simp) b (by simp), h a (by simp) c (by simp), h a (by simp) d (by simp), h b (by simp) c (by simp), h b (by simp) d (by simp), h c (by simp) d (by simp)⟩
end Go.Proofs.YtfammopenanapaaDoor
