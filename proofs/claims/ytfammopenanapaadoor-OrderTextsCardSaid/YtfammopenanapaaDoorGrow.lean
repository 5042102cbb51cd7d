/- A region that draws its order and holds calls, values and new variables: whatever order is drawn, behind all of them the values are what they are, and each new variable is a block of its own.
   General: over any program. -/
import Derived.Below
import Derived.Deep.RegionHeld
namespace Go.Proofs.YtfammopenanapaaDoor
open Go.RowKit

def upd (f : Nat → Value) (d : Nat) (v : Value) : Nat → Value := fun x => if x = d then v else f x
def putAll (D : List Nat) (vals : Nat → Value) (a : Act) : Act := D.foldl (fun a d => a.put (some d) (vals d)) a

theorem put_put (a : Act) (d : Nat) (u v : Value) : (a.put (some d) u).put (some d) v = a.put (some d) v := by
  simp [Act.put]
theorem putAll_comm {D : List Nat} {d : Nat} (hd : d ∉ D) (vals : Nat → Value) (v : Value) : ∀ a : Act, (putAll D vals a).put (some d) v = putAll D vals (a.put (some d) v) := by
  induction D with
  | nil => intro a; rfl
  | cons e D ih =>
    intro a
    show (putAll D vals (a.put (some e) (vals e))).put (some d) v = putAll D vals ((a.put (some d) v).put (some e) (vals e))
    rw [ih (fun h => hd (List.mem_cons_of_mem _ h))]
    rw [Act.put_comm a (vals e) v (fun x h h' => hd (by cases h; cases h'; exact List.mem_cons_self))]
theorem putAll_other {D : List Nat} {d : Nat} (hd : d ∉ D) (vals : Nat → Value) (v : Value) : ∀ a : Act, putAll D (upd vals d v) a = putAll D vals a := by
  induction D with
  | nil => intro a; rfl
  | cons e D ih =>
    intro a
    have hne : e ≠ d := fun h => hd (h ▸ List.mem_cons_self)
    show putAll D (upd vals d v) (a.put (some e) (upd vals d v e)) = putAll D vals (a.put (some e) (vals e))
    rw [ih (fun h => hd (List.mem_cons_of_mem _ h))]
    unfold upd; rw [if_neg hne]
theorem putAll_upd {D : List Nat} (hn : D.Nodup) {d : Nat} (hd : d ∈ D) (vals : Nat → Value) (v : Value) : ∀ a : Act, (putAll D vals a).put (some d) v = putAll D (upd vals d v) a := by
  induction D with
  | nil => cases hd
  | cons e D ih =>
    intro a
    obtain ⟨h1, h2⟩ := List.nodup_cons.1 hn
    show (putAll D vals (a.put (some e) (vals e))).put (some d) v = putAll D (upd vals d v) (a.put (some e) (upd vals d v e))
    by_cases hde : d = e
    · subst hde
      rw [putAll_comm h1, put_put, putAll_other h1]
      unfold upd; rw [if_pos rfl]
    · have hd' : d ∈ D := (List.mem_cons.1 hd).resolve_left hde
      rw [ih h2 hd']
      have : upd vals d v e = vals e := by unfold upd; rw [if_neg (fun h => hde h.symm)]
      rw [this]

/-- One operation of the region: its number, its slot; 'v': the value that it comes to, or none: a new variable of type 't' with the cells 'c'. -/
structure Gr where
  i : Nat
  d : Nat
  v : Option Value
  c : Array Value
  t : TypeId

def Gr.holds (g : Gr) (N : Nat) (x : Value) (w : World) : Prop :=
  match g.v with
  | some v => x = v
  | none => ∃ b : Nat, x = .pointer (some ⟨b, 0, none⟩) ∧ N ≤ b ∧ w.heap[b]? = some (.cells g.c g.t)
def Gr.does (g : Gr) (x : Value) (w w' : World) : Prop :=
  match g.v with
  | some v => x = v ∧ Below w.heap.size w w'
  | none => x = .pointer (some ⟨w.heap.size, 0, none⟩) ∧ w' = w.alloc (.cells g.c g.t)

theorem Gr.does_below {g : Gr} {x : Value} {w w' : World} (h : g.does x w w') : Below w.heap.size w w' := by
  unfold Gr.does at h
  split at h
  · exact h.2
  · rw [h.2]; exact (Below.refl _ _).alloc (Nat.le_refl _) _
theorem lt_of_get {w : World} {b : Nat} {o : Obj} (h : w.heap[b]? = some o) : b < w.heap.size := by
  rcases Nat.lt_or_ge b w.heap.size with h' | h'
  · exact h'
  · rw [Array.getElem?_eq_none h'] at h; cases h
theorem Gr.holds_stable {g : Gr} {N : Nat} {x : Value} {w w' : World} (h : g.holds N x w) (hb : Below w.heap.size w w') : g.holds N x w' := by
  unfold Gr.holds at *
  split
  · next hv => rw [hv] at h; exact h
  · next hv =>
    rw [hv] at h
    obtain ⟨b, h1, h2, h3⟩ := h
    exact ⟨b, h1, h2, by rw [hb.block b (lt_of_get h3)]; exact h3⟩
theorem Gr.does_holds {g : Gr} {N : Nat} {x : Value} {w w' : World} (h : g.does x w w') (hN : N ≤ w.heap.size) : g.holds N x w' := by
  unfold Gr.does at h; unfold Gr.holds
  split
  · next hv => rw [hv] at h; exact h.1
  · next hv =>
    rw [hv] at h
    refine ⟨w.heap.size, h.1, hN, ?_⟩
    rw [h.2]; show (w.heap.push _)[_]? = _; simp

section
variable {P : Program} {md : Region.Mode} {ops : Array Oper} {Q : Exit → Act → World → Prop} {w0 : World} {a0 : Act} {G : List Gr}

/-- What holds when all but 'pend' have come up. -/
def Grown' (w0 : World) (G : List Gr) (pend : List Nat) (vals : Nat → Value) (w : World) : Prop :=
  Below w0.heap.size w0 w ∧ (∀ g ∈ G, g.i ∉ pend → g.holds w0.heap.size (vals g.d) w) ∧
    ∀ g ∈ G, ∀ h ∈ G, g.i ≠ h.i → g.v = none → h.v = none → g.i ∉ pend → h.i ∉ pend → vals g.d ≠ vals h.d

/-- What is to be shown of one operation: wherever it comes up, it does what it does. -/
def Step (P : Program) (md : Region.Mode) (ops : Array Oper) (Q : Exit → Act → World → Prop) (w0 : World) (a0 : Act) (G : List Gr) (g : Gr) : Prop :=
  ∀ (vals : Nat → Value) (w : World) (K : Act → World → Prop), Below w0.heap.size w0 w →
    (∀ h ∈ G, ((ops[g.i]?).map (·.after.any fun e => Region.binds md e && e.on == h.i)).getD false = true → h.holds w0.heap.size (vals h.d) w) →
    (∀ x w', g.does x w w' → K ((putAll (G.map (·.d)) vals a0).put (some g.d) x) w') → wpOp P ops Q g.i K (putAll (G.map (·.d)) vals a0) w

def Steps (P : Program) (md : Region.Mode) (ops : Array Oper) (Q : Exit → Act → World → Prop) (w0 : World) (a0 : Act) (G : List Gr) : List Gr → Prop
  | [] => True
  | g :: gs => Step P md ops Q w0 a0 G g ∧ Steps P md ops Q w0 a0 G gs
theorem Steps.mem {gs : List Gr} (h : Steps P md ops Q w0 a0 G gs) : ∀ g ∈ gs, Step P md ops Q w0 a0 G g := by
  induction gs with
  | nil => intro g hg; cases hg
  | cons x xs ih =>
    intro g hg
    rcases List.mem_cons.1 hg with rfl | hg
    · exact h.1
    · exact ih h.2 g hg

/-- The region's shape: the growing operations wait for none but earlier ones of them and for what has come up; whatever else has not come up waits for all of them. -/
def shapeOk (md : Region.Mode) (ops : Array Oper) (listed : Array Bool) (is : List Nat) : Bool :=
  (is.all fun i => match ops[i]? with
    | some o => !(listed.getD i true) && o.after.all fun e => !Region.binds md e || listed.getD e.on false || (is.contains e.on && decide (e.on < i))
    | none => false) &&
  ((List.range ops.size).all fun j => listed.getD j true || is.contains j || is.all fun i => match ops[j]? with
    | some o => o.after.any fun e => Region.binds md e && e.on == i
    | none => false)

theorem least_of {l : List Nat} (h : l ≠ []) : ∃ m ∈ l, ∀ k ∈ l, m ≤ k := by
  induction l with
  | nil => exact absurd rfl h
  | cons x xs ih =>
    by_cases hx : xs = []
    · subst hx; exact ⟨x, List.mem_cons_self, fun k hk => by simp at hk; omega⟩
    · obtain ⟨m, hm, hl⟩ := ih hx
      by_cases hxm : x ≤ m
      · exact ⟨x, List.mem_cons_self, fun k hk => by
          rcases List.mem_cons.1 hk with rfl | hk
          · exact Nat.le_refl _
          · exact Nat.le_trans hxm (hl k hk)⟩
      · exact ⟨m, List.mem_cons_of_mem _ hm, fun k hk => by
          rcases List.mem_cons.1 hk with rfl | hk
          · omega
          · exact hl k hk⟩

theorem inj_of_nodup {α : Type} {f : α → Nat} {l : List α} (h : (l.map f).Nodup) : ∀ a ∈ l, ∀ b ∈ l, f a = f b → a = b := by
  induction l with
  | nil => intro a ha; cases ha
  | cons x xs ih =>
    rw [List.map_cons, List.nodup_cons] at h
    intro a ha b hb e
    rcases List.mem_cons.1 ha with ha' | ha' <;> rcases List.mem_cons.1 hb with hb' | hb'
    · rw [ha', hb']
    · subst ha'; exact absurd (e ▸ List.mem_map_of_mem hb') h.1
    · subst hb'; exact absurd (e ▸ List.mem_map_of_mem ha') h.1
    · exact ih h.2 a ha' b hb' e

def setAll (is : List Nat) (l : Array Bool) : Array Bool := is.foldl (fun l i => l.setIfInBounds i true) l
theorem setAll_get (is : List Nat) : ∀ (l : Array Bool) (j : Nat), (setAll is l)[j]? = (l[j]?).map (fun b => b || is.contains j) := by
  induction is with
  | nil => intro l j; cases h : l[j]? <;> simp [setAll, h]
  | cons i is ih =>
    intro l j
    show (setAll is (l.setIfInBounds i true))[j]? = _
    rw [ih, Array.getElem?_setIfInBounds]
    by_cases hij : i = j
    · subst hij
      by_cases hlt : i < l.size
      · simp [hlt]
      · simp [hlt]
    · cases h : l[j]? <;> simp [hij, Ne.symm hij]

/-- What has come up. -/
def At (listed0 listed : Array Bool) (is pend : List Nat) : Prop :=
  ∀ j : Nat, listed[j]? = (listed0[j]?).map (fun b => b || (is.contains j && !pend.contains j))

theorem At.done {listed0 listed : Array Bool} {is : List Nat} (h : At listed0 listed is []) : listed = setAll is listed0 := by
  apply Array.ext_getElem?
  intro j
  rw [h j, setAll_get]; simp

theorem At.step {listed0 listed : Array Bool} {is pend : List Nat} (h : At listed0 listed is pend) {i : Nat} (hi : i ∈ is) (hn : pend.Nodup) : At listed0 (listed.setIfInBounds i true) is (pend.erase i) := by
  intro j
  rw [Array.getElem?_setIfInBounds]
  have hj := h j
  have hnot : i ∉ pend.erase i := fun hm => ((List.Nodup.mem_erase_iff hn).1 hm).1 rfl
  by_cases hij : i = j
  · subst hij
    rw [if_pos rfl]
    cases h0 : listed0[i]? with
    | none =>
      rw [h0] at hj
      have : ¬ i < listed.size := fun hlt => by
        rw [Array.getElem?_eq_getElem hlt] at hj; cases hj
      rw [if_neg this]; rfl
    | some b =>
      rw [h0] at hj
      have : i < listed.size := by
        rcases Nat.lt_or_ge i listed.size with h' | h'
        · exact h'
        · rw [Array.getElem?_eq_none h'] at hj; cases hj
      rw [if_pos this]
      simp [hi, hnot]
  · rw [if_neg hij, hj]
    have : (pend.erase i).contains j = pend.contains j := by
      rw [Bool.eq_iff_iff]; simp only [List.contains_iff_mem]
      exact ⟨fun hm => List.mem_of_mem_erase hm, fun hm => (List.mem_erase_of_ne (Ne.symm hij)).2 hm⟩
    rw [this]

theorem At.getD_true {listed0 listed : Array Bool} {is pend : List Nat} (h : At listed0 listed is pend) {j : Nat} (hj : listed.getD j true = false) : listed0.getD j true = false ∧ (j ∈ is → j ∈ pend) := by
  have hj' := h j
  rw [Array.getD_eq_getD_getElem?] at hj ⊢
  cases h0 : listed0[j]? with
  | none => rw [h0] at hj'; rw [hj'] at hj; simp at hj
  | some b =>
    rw [h0] at hj'; rw [hj'] at hj
    simp at hj ⊢
    exact ⟨hj.1, hj.2⟩

theorem At.getD_false {listed0 listed : Array Bool} {is pend : List Nat} (h : At listed0 listed is pend) {j : Nat} (hj : listed.getD j false = true) (h0 : listed0.getD j true = false) (hi : j ∈ is) : j ∉ pend := by
  have hj' := h j
  rw [Array.getD_eq_getD_getElem?] at hj h0
  cases e0 : listed0[j]? with
  | none => rw [e0] at h0; simp at h0
  | some b =>
    rw [e0] at hj' h0; rw [hj'] at hj
    simp at hj h0
    subst h0
    simpa [hi] using hj

theorem At.listed_of {listed0 listed : Array Bool} {is pend : List Nat} (h : At listed0 listed is pend) {j : Nat} (hj : listed0.getD j false = true) : listed.getD j false = true := by
  have hj' := h j
  rw [Array.getD_eq_getD_getElem?] at hj ⊢
  cases e0 : listed0[j]? with
  | none => rw [e0] at hj; simp at hj
  | some b => rw [e0] at hj hj'; rw [hj']; simp at hj ⊢; exact Or.inl hj
theorem At.listed_of_mem {listed0 listed : Array Bool} {is pend : List Nat} (h : At listed0 listed is pend) {j : Nat} (hj : listed0.getD j true = false) (hi : j ∈ is) (hp : j ∉ pend) : listed.getD j false = true := by
  have hj' := h j
  rw [Array.getD_eq_getD_getElem?] at hj ⊢
  cases e0 : listed0[j]? with
  | none => rw [e0] at hj; simp at hj
  | some b => rw [e0] at hj'; rw [hj']; simp [hi, hp]
theorem At.unlisted_of_pend {listed0 listed : Array Bool} {is pend : List Nat} (h : At listed0 listed is pend) {j : Nat} (hj : listed0.getD j true = false) (hp : j ∈ pend) : listed.getD j true = false := by
  have hj' := h j
  rw [Array.getD_eq_getD_getElem?] at hj ⊢
  cases e0 : listed0[j]? with
  | none => rw [e0] at hj; simp at hj
  | some b => rw [e0] at hj' hj; rw [hj']; simp at hj; subst hj; simp [hp]

theorem shape_1 {listed0 : Array Bool} {is : List Nat} (h : shapeOk md ops listed0 is = true) {i : Nat} (hi : i ∈ is) :
    listed0.getD i true = false ∧ ∃ o, ops[i]? = some o ∧ ∀ e ∈ o.after, Region.binds md e = true → listed0.getD e.on false = true ∨ (e.on ∈ is ∧ e.on < i) := by
  unfold shapeOk at h
  rw [Bool.and_eq_true] at h
  have h1 := List.all_eq_true.1 h.1 i hi
  cases ho : ops[i]? with
  | none => rw [ho] at h1; cases h1
  | some o =>
    rw [ho] at h1
    simp only [Bool.and_eq_true, Bool.not_eq_true'] at h1
    refine ⟨h1.1, o, rfl, fun e he hb => ?_⟩
    have h2 := Array.all_eq_true'.1 h1.2 e he
    simp [hb] at h2
    rcases h2 with h2 | h2
    · exact Or.inl (by simpa using h2)
    · exact Or.inr h2

theorem shape_2 {listed0 : Array Bool} {is : List Nat} (h : shapeOk md ops listed0 is = true) {j : Nat} (hj : listed0.getD j true = false) (hn : j ∉ is) {o : Oper} (ho : ops[j]? = some o) :
    ∀ i ∈ is, ∃ e ∈ o.after, Region.binds md e = true ∧ e.on = i := by
  intro i hi
  unfold shapeOk at h
  rw [Bool.and_eq_true] at h
  have hlt : j < ops.size := by
    rcases Nat.lt_or_ge j ops.size with h' | h'
    · exact h'
    · rw [Array.getElem?_eq_none h'] at ho; cases ho
  have h1 := List.all_eq_true.1 h.2 j (List.mem_range.2 hlt)
  rw [hj, ho] at h1
  have hc : is.contains j = false := by simpa using hn
  rw [hc] at h1
  simp only [Bool.false_or] at h1
  have h2 := List.all_eq_true.1 h1 i hi
  obtain ⟨k, hk, h3⟩ := Array.any_eq_true.1 h2
  refine ⟨o.after[k], Array.getElem_mem hk, ?_⟩
  simpa using h3

theorem Grown'.step {pend : List Nat} {vals : Nat → Value} {w w' : World} {g : Gr} {x : Value} (hni : (G.map (·.i)).Nodup) (hnd : (G.map (·.d)).Nodup) (_hpn : pend.Nodup)
    (hg : g ∈ G) (h : Grown' w0 G pend vals w) (hd : g.does x w w') : Grown' w0 G (pend.erase g.i) (upd vals g.d x) w' := by
  obtain ⟨h1, h2, h3⟩ := h
  have hN := h1.size
  have hBel := Gr.does_below hd
  have hi := inj_of_nodup hni
  have hdj := inj_of_nodup hnd
  have hself : upd vals g.d x g.d = x := by unfold upd; rw [if_pos rfl]
  have hother : ∀ k ∈ G, k ≠ g → upd vals g.d x k.d = vals k.d := fun k hk hne => by
    unfold upd; rw [if_neg (fun e => hne (hdj k hk g hg e))]
  have hold : ∀ k ∈ G, k ≠ g → k.i ∉ pend.erase g.i → k.i ∉ pend := fun k hk hne hn hm =>
    hn ((List.mem_erase_of_ne (fun e => hne (hi k hk g hg e))).2 hm)
  refine ⟨h1.trans (hBel.mono hN), fun k hk hn => ?_, fun k hk m hm hne hkv hmv hkn hmn => ?_⟩
  · by_cases hkg : k = g
    · subst hkg; rw [hself]; exact Gr.does_holds hd hN
    · rw [hother k hk hkg]; exact Gr.holds_stable (h2 k hk (hold k hk hkg hn)) hBel
  · have key : ∀ k ∈ G, k ≠ g → k.v = none → k.i ∉ pend.erase g.i → g.v = none → vals k.d ≠ x := fun k hk hkg hkv hkn hgv => by
      have hh := h2 k hk (hold k hk hkg hkn)
      unfold Gr.holds at hh; rw [hkv] at hh
      obtain ⟨b, e1, _, e3⟩ := hh
      have hlt := lt_of_get e3
      unfold Gr.does at hd; rw [hgv] at hd
      rw [e1, hd.1]
      intro e
      simp at e
      omega
    by_cases hkg : k = g
    · have hmg : m ≠ g := fun e => hne (by rw [hkg, e])
      rw [hkg, hself, hother m hm hmg]
      exact fun e => key m hm hmg hmv hmn (hkg ▸ hkv) e.symm
    · by_cases hmg : m = g
      · rw [hmg, hself, hother k hk hkg]
        exact key k hk hkg hkv hkn (hmg ▸ hmv)
      · rw [hother k hk hkg, hother m hm hmg]
        exact h3 k hk m hm hne hkv hmv (hold k hk hkg hkn) (hold m hm hmg hmn)

/-- Whatever order is drawn among the growing operations, what follows begins where all have come up. -/
theorem grow_main {listed0 : Array Bool} (hshape : shapeOk md ops listed0 (G.map (·.i)) = true) (hnd : (G.map (·.d)).Nodup) (hni : (G.map (·.i)).Nodup)
    (hsteps : Steps P md ops Q w0 a0 G G) (ffin : Nat)
    (hfin : ∀ vals w, Grown' w0 G [] vals w → wpAnyH P md ops Q (Below w0.heap.size w0) ffin (setAll (G.map (·.i)) listed0) (putAll (G.map (·.d)) vals a0) w) :
    ∀ (n : Nat) (pend : List Nat), pend.length = n → (∀ i ∈ pend, i ∈ G.map (·.i)) → pend.Nodup → ∀ (listed : Array Bool), At listed0 listed (G.map (·.i)) pend →
      ∀ vals w, Grown' w0 G pend vals w → wpAnyH P md ops Q (Below w0.heap.size w0) (ffin + n) listed (putAll (G.map (·.d)) vals a0) w := by
  intro n
  induction n with
  | zero =>
    intro pend hp _ _ listed hl vals w hJ
    obtain rfl := List.length_eq_zero_iff.1 hp
    rw [hl.done]; exact hfin vals w hJ
  | succ n ih =>
    intro pend hp hsub hpn listed hl vals w hJ
    have hne : pend ≠ [] := fun e => by rw [e] at hp; cases hp
    refine ⟨fun hr => ?_, fun i hi => ?_⟩
    · obtain ⟨m, hm, hleast⟩ := least_of hne
      obtain ⟨hm0, o, ho, hall⟩ := shape_1 hshape (hsub m hm)
      have : m ∈ Region.ready md ops listed := mem_ready.2 ⟨hl.unlisted_of_pend hm0 hm, o, ho, fun e he hb => by
        rcases hall e he hb with h | ⟨h, h'⟩
        · exact hl.listed_of h
        · exact hl.listed_of_mem (shape_1 hshape h).1 h (fun hp' => by have := hleast _ hp'; omega)⟩
      rw [hr] at this; cases this
    · obtain ⟨hun, o, ho, hall⟩ := mem_ready.1 hi
      obtain ⟨h0, hpend⟩ := hl.getD_true hun
      have hin : i ∈ G.map (·.i) := by
        apply Classical.byContradiction
        intro hn
        obtain ⟨m, hm, _⟩ := least_of hne
        obtain ⟨e, he, hb, heq⟩ := shape_2 hshape h0 hn ho m (hsub m hm)
        have h1 := hall e he hb
        rw [heq] at h1
        exact hl.getD_false h1 (shape_1 hshape (hsub m hm)).1 (hsub m hm) hm
      have hip := hpend hin
      obtain ⟨g, hg, hgi⟩ := List.mem_map.1 hin
      have hgi' : g.i = i := hgi
      subst hgi'
      refine hsteps.mem g hg vals w _ hJ.1 (fun k hk hdep => ?_) (fun x w' hd => ?_)
      · refine hJ.2.1 k hk (fun hkp => ?_)
        rw [ho] at hdep
        obtain ⟨q, hq, h3⟩ := Array.any_eq_true.1 hdep
        have h4 : Region.binds md o.after[q] = true ∧ o.after[q].on = k.i := by simpa using h3
        have h1 := hall _ (Array.getElem_mem hq) h4.1
        rw [h4.2] at h1
        exact hl.getD_false h1 (shape_1 hshape (hsub _ hkp)).1 (hsub _ hkp) hkp
      · have hJ' := hJ.step hni hnd hpn hg hd
        refine ⟨hJ'.1, ?_⟩
        rw [putAll_upd hnd (List.mem_map_of_mem hg)]
        refine ih (pend.erase g.i) ?_ (fun j hj => hsub j (List.mem_of_mem_erase hj)) (hpn.erase _) _ (hl.step (List.mem_map_of_mem hg) hpn) _ _ hJ'
        rw [List.length_erase_of_mem hip, hp]; rfl

theorem grow_start {listed0 : Array Bool} {w : World} (vals0 : Nat → Value) (hshape : shapeOk md ops listed0 (G.map (·.i)) = true) (hnd : (G.map (·.d)).Nodup) (hni : (G.map (·.i)).Nodup)
    {a : Act} (ha : putAll (G.map (·.d)) vals0 a = a) (ffin : Nat) {fuel : Nat} (hf : fuel = ffin + G.length)
    (hsteps : Steps P md ops Q w a G G)
    (hfin : ∀ vals w', Grown' w G [] vals w' → wpAnyH P md ops Q (Below w.heap.size w) ffin (setAll (G.map (·.i)) listed0) (putAll (G.map (·.d)) vals a) w') :
    wpAnyH P md ops Q (Below w.heap.size w) fuel listed0 a w := by
  subst hf
  have h := grow_main hshape hnd hni hsteps ffin hfin G.length (G.map (·.i)) (by simp) (fun i h => h) hni listed0 (fun j => ?_) vals0 w ⟨Below.refl _ _, fun g hg hn => ?_, fun g hg _ _ _ _ _ hn => ?_⟩
  · rw [ha] at h; exact h
  · cases listed0[j]? <;> simp
  · exact absurd (List.mem_map_of_mem hg) hn
  · exact absurd (List.mem_map_of_mem hg) hn

/-- An operation that comes to the same value wherever it comes up, taken first. -/
theorem take_first {S : World → Prop} {fuel : Nat} {listed : Array Bool} {a : Act} {w : World} (i d : Nat) (v : Value) {oi : Oper} (hi : ops[i]? = some oi) (hd : oi.dst = some d)
    (hs : Region.noSelect ops = true) (hf : Region.free md ops listed i = true) (hr : (Region.ready md ops listed).contains i = true)
    (hQ : ∀ c a w, Q (.panic c) (a.put oi.dst v) w → Q (.panic c) a w) (hw : Region.wanted oi (yielded ops a.tmps) = true)
    (hy : ∀ w, S w → (execOp a.eval oi).run P w = .ok (.value v) w) (hS : S w)
    (h : wpAnyH P md ops Q S fuel (listed.setIfInBounds i true) (a.put (some d) v) w) : wpAnyH P md ops Q S (fuel + 1) listed a w :=
  wpAnyH_take hi hs hf hr hQ (Or.inl ⟨hw, hy⟩) hS (by rw [hd]; exact h)

theorem region_grow {id : Nat} {a : Act} {w : World} (hm : P.follows .mixedOrders = true)
    (h : wpAnyH P .any ops Q (Below w.drew.heap.size w.drew) ops.size (Array.replicate ops.size false) a w.drew) : (Code.region id ops true).wp P Q a w := wp_region_held hm h
end
end Go.Proofs.YtfammopenanapaaDoor
