/- A region that draws its order, each of whose operations leaves a value that hangs on no order: it is walked once, in the text's order. General: over any program.
   S is held of the world throughout; each operation, run in the frame of the text's order in whatever world meets S, leaves its value and a world that meets S. -/
import Derived.Below
import Derived.Deep.RegionHeld
import Derived.Deep.RegionHeld3
import Derived.BigCall
namespace Go.Proofs.YtfammopenanapaaDoor
open Go.RowKit

def depB (md : Region.Mode) (ops : Array Oper) (i j : Nat) : Bool :=
  match ops[i]? with
  | some o => o.after.any fun e => Region.binds md e && e.on == j
  | none => false
/-- One operation against all: its slot is its own; it looks at a slot of the region's only if that one's operation is ahead of it, or behind it, by an edge. -/
def seqOne (md : Region.Mode) (ops : Array Oper) (m i : Nat) : Bool :=
  match ops[i]? with
  | some o => match o.dst with
    | some d => decide (d < m) && (o.after.all fun e => !Region.binds md e || decide (e.on < i)) &&
        ((List.range ops.size).all fun j => j == i || match ops[j]? with
          | some oj => match oj.dst with
            | some dj => dj != d && (!(o.looksAt ops).contains dj || (decide (j < i) && depB md ops i j) || (decide (i < j) && depB md ops j i))
            | none => false
          | none => false)
    | none => false
  | none => false
def seqOk (md : Region.Mode) (ops : Array Oper) (m : Nat) : Bool := Region.noSelect ops && (List.range ops.size).all fun i => seqOne md ops m i

section
variable {P : Program} {md : Region.Mode} {ops : Array Oper} {Q : Exit → Act → World → Prop} {S : World → Prop} {m : Nat}

theorem depB_spec {i j : Nat} {o : Oper} (ho : ops[i]? = some o) (h : depB md ops i j = true) : ∃ e ∈ o.after, Region.binds md e = true ∧ e.on = j := by
  unfold depB at h; rw [ho] at h
  obtain ⟨k, hk, h3⟩ := Array.any_eq_true.1 h
  exact ⟨o.after[k], Array.getElem_mem hk, by simpa using h3⟩

theorem seqOk_spec (h : seqOk md ops m = true) {i : Nat} (hi : i < ops.size) : ∃ o d, ops[i]? = some o ∧ o.dst = some d ∧ d < m ∧ (∀ e ∈ o.after, Region.binds md e = true → e.on < i) ∧
    ∀ j, j < ops.size → j ≠ i → ∀ oj dj, ops[j]? = some oj → oj.dst = some dj → dj ≠ d ∧ (dj ∈ o.looksAt ops → (j < i ∧ ∃ e ∈ o.after, Region.binds md e = true ∧ e.on = j) ∨ (i < j ∧ ∃ e ∈ oj.after, Region.binds md e = true ∧ e.on = i)) := by
  unfold seqOk at h
  rw [Bool.and_eq_true] at h
  have h1 := List.all_eq_true.1 h.2 i (List.mem_range.2 hi)
  unfold seqOne at h1
  cases ho : ops[i]? with
  | none => rw [ho] at h1; cases h1
  | some o =>
    rw [ho] at h1; dsimp only at h1
    cases hd : o.dst with
    | none => rw [hd] at h1; cases h1
    | some d =>
      rw [hd] at h1; dsimp only at h1
      simp only [Bool.and_eq_true, decide_eq_true_eq] at h1
      obtain ⟨⟨h2, h3⟩, h4⟩ := h1
      refine ⟨o, d, rfl, hd, h2, fun e he hb => ?_, fun j hj hne oj dj hoj hdj => ?_⟩
      · have h5 := Array.all_eq_true'.1 h3 e he
        simpa [hb] using h5
      · have h5 := List.all_eq_true.1 h4 j (List.mem_range.2 hj)
        rw [hoj] at h5; dsimp only at h5; rw [hdj] at h5; dsimp only at h5
        simp only [Bool.or_eq_true, beq_iff_eq, hne, false_or, Bool.and_eq_true, bne_iff_ne, ne_eq, Bool.not_eq_true', decide_eq_true_eq] at h5
        refine ⟨h5.1, fun hl => ?_⟩
        rcases h5.2 with (h6 | h6) | h6
        · rw [Bool.eq_false_iff] at h6; exact absurd (by simpa using hl) h6
        · exact Or.inl ⟨h6.1, depB_spec ho h6.2⟩
        · exact Or.inr ⟨h6.1, depB_spec hoj h6.2⟩

/-- No way out: no panic. -/
def QF : Exit → Act → World → Prop := fun _ _ _ => False
theorem lets_QF (h : LetsOut QF) : False := by obtain ⟨_, _, h⟩ := h; exact h
theorem Oper.wp_QF {o : Oper} {a : Act} {w : World} {K : Act → World → Prop} (h : o.wp P a w K QF) : o.wp P a w K Q := by
  unfold Oper.wp at *
  generalize (execOp a.eval o).run P w = r at *
  cases r with
  | ok n w' =>
    cases n <;> simp only [Oper.upon] at h ⊢ <;>
      first
        | exact h
        | exact Calls.mono h (fun e w'' he => by
            cases e with
            | returned u => exact he
            | panicked c => exact False.elim he
            | outgrown => exact (lets_QF he).elim)
  | halt x w' => cases x <;> simp only [Oper.upon] at h ⊢ <;> exact False.elim h
theorem wpOp_QF {i : Nat} {a : Act} {w : World} {K : Act → World → Prop} (h : wpOp P ops QF i K a w) : wpOp P ops Q i K a w := by
  unfold wpOp at *
  split
  · next ho => rw [ho] at h; exact h
  · next o ho =>
    rw [ho] at h; dsimp only at h
    split
    · next hw =>
      rw [if_pos hw] at h
      rcases h with h | ⟨_, h⟩
      · exact Or.inl (Oper.wp_QF h)
      · exact (lets_QF h).elim
    · next hw => rw [if_neg hw] at h; exact h

/-- What is to be shown of operation k in the frame A: it leaves v. -/
def SeqStep (P : Program) (ops : Array Oper) (S : World → Prop) (k : Nat) (A : Act) (d : Nat) (v : Value) : Prop :=
  ∀ (w : World) (K : Act → World → Prop), S w → (∀ w', S w' → K (A.put (some d) v) w') → wpOp P ops QF k K A w

/-- The operations from k on, m of them, in the text's order. -/
def SeqW (P : Program) (ops : Array Oper) (S : World → Prop) (fin : Act → Prop) : Nat → Nat → Act → Prop
  | 0, _, A => fin A
  | m + 1, k, A => ∃ o d v, ops[k]? = some o ∧ o.dst = some d ∧ SeqStep P ops S k A d v ∧ SeqW P ops S fin m (k + 1) (A.put (some d) v)

/-- The frames of the text's order. -/
def seqFr (d : Nat → Nat) (v : Nat → Value) (A : Act) : Nat → Act
  | 0 => A
  | k + 1 => (seqFr d v A k).put (some (d k)) (v k)

theorem SeqW.vals {fin : Act → Prop} (d : Nat → Nat) (hd : ∀ k o dd, ops[k]? = some o → o.dst = some dd → d k = dd) : ∀ (n k : Nat) (A0 : Act) (v0 : Nat → Value),
    SeqW P ops S fin n k (seqFr d v0 A0 k) → ∃ v : Nat → Value, (∀ j, j < k → v j = v0 j) ∧ (∀ j, k ≤ j → j < k + n → SeqStep P ops S j (seqFr d v A0 j) (d j) (v j)) ∧ fin (seqFr d v A0 (k + n)) := by
  have same : ∀ (A0 : Act) (u v : Nat → Value) (k : Nat), (∀ j, j < k → u j = v j) → seqFr d u A0 k = seqFr d v A0 k := by
    intro A0 u v k
    induction k with
    | zero => intro _; rfl
    | succ k ih =>
      intro h
      show (seqFr d u A0 k).put _ _ = (seqFr d v A0 k).put _ _
      rw [ih (fun j hj => h j (by omega)), h k (by omega)]
  intro n
  induction n with
  | zero => intro k A0 v0 h; exact ⟨v0, fun _ _ => rfl, fun j h1 h2 => by omega, h⟩
  | succ n ih =>
    intro k A0 v0 h
    obtain ⟨o, dd, v, ho, hdd, hs, h⟩ := h
    have e := hd k o dd ho hdd
    let v1 : Nat → Value := fun j => if j = k then v else v0 j
    have e1 : ∀ j, j < k → v1 j = v0 j := fun j hj => if_neg (by omega)
    have ek : v1 k = v := if_pos rfl
    have e2 : seqFr d v1 A0 (k + 1) = (seqFr d v0 A0 k).put (some dd) v := by
      show (seqFr d v1 A0 k).put (some (d k)) (v1 k) = _
      rw [same A0 v1 v0 k e1, ek, e]
    rw [← e2] at h
    obtain ⟨u, hu1, hu2, hu3⟩ := ih (k + 1) A0 v1 h
    have hu0 : ∀ j, j < k → u j = v0 j := fun j hj => (hu1 j (by omega)).trans (e1 j hj)
    refine ⟨u, hu0, fun j h1 h2 => ?_, by rw [show k + (n + 1) = k + 1 + n by omega]; exact hu3⟩
    by_cases hjk : j = k
    · subst hjk
      rw [same A0 u v0 j hu0, hu1 j (by omega), ek, e]
      exact hs
    · exact hu2 j (by omega) (by omega)

/-- What a frame is, of which the operations in L have come up. -/
def SeqInv (d : Nat → Nat) (v : Nat → Value) (A0 : Act) (n : Nat) (L : Nat → Prop) (a : Act) : Prop :=
  a.defers = A0.defers ∧ a.tmps.size = A0.tmps.size ∧ (∀ j, j < n → L j → a.tmps[d j]? = some (v j)) ∧ ∀ s, (∀ j, j < n → L j → d j ≠ s) → a.tmps[s]? = A0.tmps[s]?

theorem SeqInv.put {d : Nat → Nat} {v : Nat → Value} {A0 a : Act} {n i : Nat} {L : Nat → Prop} (hinj : ∀ j k, j < n → k < n → d j = d k → j = k) (hsz : ∀ j, j < n → d j < A0.tmps.size) (hi : i < n)
    (h : SeqInv d v A0 n L a) : SeqInv d v A0 n (fun j => L j ∨ j = i) (a.put (some (d i)) (v i)) := by
  obtain ⟨h1, h2, h3, h4⟩ := h
  refine ⟨h1, by simpa [Act.put] using h2, fun j hj hL => ?_, fun s hs => ?_⟩
  · show (a.tmps.setIfInBounds (d i) (v i))[d j]? = _
    by_cases hji : j = i
    · subst hji
      rw [Array.getElem?_setIfInBounds_self_of_lt (by rw [h2]; exact hsz j hj)]
    · rw [Array.getElem?_setIfInBounds_ne (fun e => hji (hinj _ _ hi hj e).symm)]
      exact h3 j hj (hL.resolve_right hji)
  · show (a.tmps.setIfInBounds (d i) (v i))[s]? = _
    rw [Array.getElem?_setIfInBounds_ne (hs i hi (Or.inr rfl))]
    exact h4 s (fun j hj hL => hs j hj (Or.inl hL))

theorem seqFr_inv {d : Nat → Nat} {v : Nat → Value} {A0 : Act} {n : Nat} (hinj : ∀ j k, j < n → k < n → d j = d k → j = k) (hsz : ∀ j, j < n → d j < A0.tmps.size) :
    ∀ k, k ≤ n → SeqInv d v A0 n (fun j => j < k) (seqFr d v A0 k)
  | 0, _ => ⟨rfl, rfl, fun j _ h => by omega, fun _ _ => rfl⟩
  | k + 1, hk => by
    have h := (seqFr_inv (v := v) hinj hsz k (by omega)).put hinj hsz (i := k) (by omega)
    refine ⟨h.1, h.2.1, fun j hj hL => h.2.2.1 j hj (by dsimp only; omega), fun s hs => h.2.2.2 s (fun j hj hL => hs j hj (by dsimp only at hL; omega))⟩

theorem SeqInv.ext {d : Nat → Nat} {v : Nat → Value} {A0 a b : Act} {n : Nat} {L L' : Nat → Prop} (h : SeqInv d v A0 n L a) (h' : SeqInv d v A0 n L' b) (hL : ∀ j, j < n → (L j ↔ L' j)) : a = b := by
  obtain ⟨h1, h2, h3, h4⟩ := h
  obtain ⟨g1, g2, g3, g4⟩ := h'
  have e : a.tmps = b.tmps := by
    apply Array.ext_getElem?
    intro s
    by_cases hs : ∃ j, j < n ∧ L j ∧ d j = s
    · obtain ⟨j, hj, hl, rfl⟩ := hs
      rw [h3 j hj hl, g3 j hj ((hL j hj).1 hl)]
    · rw [h4 s (fun j hj hl e => hs ⟨j, hj, hl, e⟩), g4 s (fun j hj hl e => hs ⟨j, hj, (hL j hj).2 hl, e⟩)]
  cases a; cases b
  simp only at e h1 g1
  subst e; rw [h1, g1]

/-- An operation looks at the same in both frames: it does the same. -/
theorem seq_transfer {k : Nat} {o : Oper} {A a : Act} {d : Nat} {v : Value} (ho : ops[k]? = some o) (hod : o.dst = some d) (hsel : ∀ cs b, o.op ≠ .select cs b) 
    (hAd : d < A.tmps.size) (hsame : ∀ s ∈ o.looksAt ops, a.tmps[s]? = A.tmps[s]?) (h : SeqStep P ops S k A d v) : SeqStep P ops S k a d v := by
  intro w K hS hK
  have h1 := h w (fun a' w' => a' = A.put (some d) v ∧ S w') hS (fun w' hS' => ⟨rfl, hS'⟩)
  have hexec : execOp a.eval o = execOp A.eval o := by
    refine execOp_congr o hsel fun x hx => ?_
    cases x with
    | tmp t =>
      have := hsame t (List.mem_append_left _ (List.mem_filterMap.2 ⟨.tmp t, by simpa using hx, rfl⟩))
      simp only [Act.eval, Array.getD_eq_getD_getElem?, this]
    | _ => rfl
  have hwant : Region.wanted o (yielded ops a.tmps) = Region.wanted o (yielded ops A.tmps) := by
    unfold Region.wanted
    cases hg : o.guard with
    | none => rfl
    | some gw =>
      obtain ⟨g, want⟩ := gw
      have hy : yielded ops a.tmps g = yielded ops A.tmps g := by
        unfold yielded
        cases ht : (ops[g]?).bind (·.dst) with
        | none => rfl
        | some t =>
          have := hsame t (List.mem_append_right _ (by simp [hg, ht]))
          simp only [Option.bind_some, this]
      simp only [hy]
  have inj : ∀ u : Value, A.put (some d) u = A.put (some d) v → u = v := by
    intro u e
    have e1 : (A.put (some d) u).tmps[d]? = (A.put (some d) v).tmps[d]? := by rw [e]
    simp only [Act.put, Array.getElem?_setIfInBounds_self_of_lt hAd, Option.some.injEq] at e1
    exact e1
  unfold wpOp at *
  simp only [ho] at *
  rw [hwant]
  split
  · rename_i hw
    rw [if_pos hw] at h1
    rcases h1 with h1 | ⟨hasks, hlets⟩
    case inr => exact .inr ⟨by unfold Oper.asks at *; rw [hexec]; exact hasks, hlets⟩
    refine .inl ?_
    unfold Oper.wp at *
    rw [hexec]
    generalize (execOp A.eval o).run P w = r at *
    cases r with
    | ok n w' =>
      cases n <;> simp only [Oper.upon, hod] at h1 ⊢
      case value u => obtain ⟨e, hS'⟩ := h1; obtain rfl := inj u e; exact hK _ hS'
      case skip => obtain ⟨e, hS'⟩ := h1; obtain rfl := inj _ e; exact hK _ hS'
      case defer x =>
        exfalso
        have e := congrArg Act.defers h1.1
        have e' : x :: A.defers = A.defers := e
        have := congrArg List.length e'
        simp at this
      case enter f args =>
        refine Calls.mono h1 fun e w'' he => ?_
        cases e with
        | returned u => obtain ⟨e, hS'⟩ := he; obtain rfl := inj u e; exact hK _ hS'
        | panicked c => exact False.elim he
        | outgrown => exact he
      case row row args => exact Rows.mono h1 fun u w'' he => by obtain ⟨e, hS'⟩ := he; obtain rfl := inj u e; exact hK _ hS'
    | halt x w' =>
      cases x <;> simp only [Oper.upon] at h1 ⊢ <;> exact False.elim h1
  · rename_i hw
    rw [if_neg hw] at h1
    rw [hod] at h1 ⊢
    obtain ⟨e, hS'⟩ := h1
    obtain rfl := inj _ e
    exact hK _ hS'

theorem least_of' {p : Nat → Prop} : ∀ n : Nat, (∃ j, j < n ∧ p j) → ∃ m, m < n ∧ p m ∧ ∀ j, j < m → ¬ p j := by
  intro n ⟨j, hj, hp⟩
  induction j using Nat.strongRecOn with
  | _ j ih =>
    by_cases h : ∃ k, k < j ∧ p k
    · obtain ⟨k, hk, hpk⟩ := h; exact ih k hk (by omega) hpk
    · exact ⟨j, hj, hp, fun k hk hpk => h ⟨k, hk, hpk⟩⟩

theorem seq_main (hok : seqOk md ops m = true) {d : Nat → Nat} {v : Nat → Value} {A0 : Act} (hm : m = A0.tmps.size)
    (hd : ∀ k o dd, ops[k]? = some o → o.dst = some dd → d k = dd)
    (hsteps : ∀ j, j < ops.size → SeqStep P ops S j (seqFr d v A0 j) (d j) (v j)) (hfin : ∀ w, S w → Q .normal (seqFr d v A0 ops.size) w) :
    ∀ (fuel : Nat) (pend : List Nat), pend.length = fuel → pend.Nodup → ∀ (listed : Array Bool), listed.size = ops.size → (∀ j, j < ops.size → (listed.getD j true = false ↔ j ∈ pend)) → (∀ j ∈ pend, j < ops.size) →
      (∀ j oj, ops[j]? = some oj → listed.getD j false = true → ∀ e ∈ oj.after, Region.binds md e = true → listed.getD e.on false = true) →
      ∀ a w, SeqInv d v A0 ops.size (fun j => listed.getD j false = true) a → S w → wpAny P md ops Q fuel listed a w := by
  have hinj : ∀ j k, j < ops.size → k < ops.size → d j = d k → j = k := by
    intro j k hj hk e
    apply Classical.byContradiction; intro hne
    obtain ⟨o, dd, ho, hdd, _, _, hall⟩ := seqOk_spec hok hk
    obtain ⟨oj, dj, hoj, hdj, _, _, _⟩ := seqOk_spec hok hj
    have := (hall j hj hne oj dj hoj hdj).1
    rw [hd j oj dj hoj hdj, hd k o dd ho hdd] at e
    exact this e
  have hsz : ∀ j, j < ops.size → d j < A0.tmps.size := by
    intro j hj
    obtain ⟨o, dd, ho, hdd, hlt, _, _⟩ := seqOk_spec hok hj
    rw [hd j o dd ho hdd, ← hm]; exact hlt
  have hnosel : ∀ (j : Nat) (o : Oper) cs b, ops[j]? = some o → o.op ≠ .select cs b := by
    have : Region.noSelect ops = true := by unfold seqOk at hok; rw [Bool.and_eq_true] at hok; exact hok.1
    intro j o cs b ho; exact Region.noSelect_spec this j o cs b ho
  have two : ∀ (listed : Array Bool) (j : Nat), listed.size = ops.size → j < ops.size → (listed.getD j false = true ↔ ¬ listed.getD j true = false) := by
    intro listed j hs hj
    simp only [Array.getD_eq_getD_getElem?, Array.getElem?_eq_getElem (show j < listed.size by omega), Option.getD_some]
    cases listed[j] <;> simp
  have done : ∀ (listed : Array Bool), listed.size = ops.size → Region.ready md ops listed = [] → ∀ j, j < ops.size → listed.getD j false = true := by
    intro listed hs hr j hj
    apply Classical.byContradiction; intro hn
    obtain ⟨i, hi, hpi, hleast⟩ := least_of' (p := fun j => ¬ listed.getD j false = true) ops.size ⟨j, hj, hn⟩
    obtain ⟨o, dd, ho, _, _, haft, _⟩ := seqOk_spec hok hi
    have : i ∈ Region.ready md ops listed := mem_ready.2 ⟨Classical.byContradiction fun h => hpi ((two listed i hs hi).2 h), o, ho, fun e he hb => by
      have := haft e he hb
      exact Classical.byContradiction fun h => hleast _ this h⟩
    rw [hr] at this; cases this
  intro fuel
  induction fuel with
  | zero =>
    intro pend hp _ listed hls hl _ _ a w hinv hS
    obtain rfl := List.length_eq_zero_iff.1 hp
    have hall : ∀ j, j < ops.size → listed.getD j false = true := fun j hj => (two listed j hls hj).2 (fun h => by have := (hl j hj).1 h; cases this)
    refine ⟨?_, ?_⟩
    · cases hr : Region.ready md ops listed with
      | nil => rfl
      | cons x xs =>
        exfalso
        have hx : x ∈ Region.ready md ops listed := by rw [hr]; exact List.mem_cons_self
        obtain ⟨h0, o, ho, _⟩ := mem_ready.1 hx
        have hlt := (Array.getElem?_eq_some_iff.1 ho).1
        exact (two listed x hls hlt).1 (hall x hlt) h0
    · rw [hinv.ext (seqFr_inv hinj hsz ops.size (Nat.le_refl _)) (fun j hj => ⟨fun _ => hj, fun _ => hall j hj⟩)]
      exact hfin w hS
  | succ fuel ih =>
    intro pend hp hpn listed hls hl hpl hcl a w hinv hS
    refine ⟨fun hr => ?_, fun i hi => ?_⟩
    · have hall := done listed hls hr
      rw [hinv.ext (seqFr_inv hinj hsz ops.size (Nat.le_refl _)) (fun j hj => ⟨fun _ => hj, fun _ => hall j hj⟩)]
      exact hfin w hS
    · obtain ⟨hun, o, ho, hall⟩ := mem_ready.1 hi
      have hlt := (Array.getElem?_eq_some_iff.1 ho).1
      obtain ⟨o', dd, ho', hdd, _, haft, hlook⟩ := seqOk_spec hok hlt
      rw [ho] at ho'; cases ho'
      have hdi := hd i o dd ho hdd
      have hip := (hl i hlt).1 hun
      have hcan := seqFr_inv (v := v) hinj hsz i (by omega)
      have hnoti : ¬ listed.getD i false = true := fun h => (two listed i hls hlt).1 h hun
      have hsame : ∀ s ∈ o.looksAt ops, a.tmps[s]? = (seqFr d v A0 i).tmps[s]? := by
        intro s hs
        by_cases hreg : ∃ j, j < ops.size ∧ d j = s
        · obtain ⟨j, hj, rfl⟩ := hreg
          obtain ⟨oj, dj, hoj, hdj, _, _, _⟩ := seqOk_spec hok hj
          have hdj' := hd j oj dj hoj hdj
          by_cases hji : j = i
          · subst hji
            rw [hinv.2.2.2 (d j) (fun k hk hL e => hnoti (by rw [← hinj _ _ hk hj e]; exact hL)), hcan.2.2.2 (d j) (fun k hk hL e => by have := hinj _ _ hk hj e; omega)]
          · rcases (hlook j hj hji oj dj hoj hdj).2 (by rw [← hdj']; exact hs) with ⟨h1, e, he, hb, heq⟩ | ⟨h1, e, he, hb, heq⟩
            · have hLj : listed.getD j false = true := by have := hall e he hb; rw [heq] at this; exact this
              rw [hinv.2.2.1 j hj hLj, hcan.2.2.1 j hj h1]
            · have hLj : ¬ listed.getD j false = true → a.tmps[d j]? = (seqFr d v A0 i).tmps[d j]? := fun hnj => by
                rw [hinv.2.2.2 (d j) (fun k hk hL e => hnj (by rw [← hinj _ _ hk hj e]; exact hL)), hcan.2.2.2 (d j) (fun k hk hL e => by have := hinj _ _ hk hj e; omega)]
              refine hLj (fun hnj => hnoti ?_)
              have := hcl j oj hoj hnj e he hb
              rw [heq] at this; exact this
        · rw [hinv.2.2.2 s (fun j hj _ e => hreg ⟨j, hj, e⟩), hcan.2.2.2 s (fun j hj _ e => hreg ⟨j, hj, e⟩)]
      have hA : d i < (seqFr d v A0 i).tmps.size := by rw [hcan.2.1]; exact hsz i hlt
      have hset : ∀ j, j < ops.size → ((listed.setIfInBounds i true).getD j false = true ↔ (listed.getD j false = true ∨ j = i)) := by
        intro j hj
        by_cases hji : j = i
        · subst hji
          simp only [Array.getD_eq_getD_getElem?, Array.getElem?_setIfInBounds_self_of_lt (show j < listed.size by omega), Option.getD_some, or_true]
        · rw [getD_set_ne false (Ne.symm hji)]; simp [hji]
      refine wpOp_QF (seq_transfer ho (hdi ▸ hdd) (fun cs b => hnosel i o cs b ho) hA hsame (hsteps i hlt) w _ hS (fun w' hS' => ?_))
      refine ih (pend.erase i) (by rw [List.length_erase_of_mem hip, hp]; rfl) (hpn.erase _) _ (by simpa using hls) (fun j hj => ?_) (fun j hj => hpl j (List.mem_of_mem_erase hj)) (fun j oj hoj hL e he hb => ?_) _ _ ?_ hS'
      · by_cases hji : j = i
        · subst hji
          have h1 : ¬ (listed.setIfInBounds j true).getD j true = false := by
            have := (hset j hj).2 (Or.inr rfl)
            exact (two _ j (by simpa using hls) hj).1 this
          exact ⟨fun h => absurd h h1, fun h => absurd rfl ((List.Nodup.mem_erase_iff hpn).1 h).1⟩
        · rw [getD_set_ne true (Ne.symm hji), hl j hj]
          exact ⟨fun h => (List.mem_erase_of_ne hji).2 h, fun h => List.mem_of_mem_erase h⟩
      · have hjlt := (Array.getElem?_eq_some_iff.1 hoj).1
        have hon : e.on < ops.size := by
          obtain ⟨o2, d2, ho2, _, _, haft2, _⟩ := seqOk_spec hok hjlt
          rw [hoj] at ho2; cases ho2
          have := haft2 e he hb; omega
        refine (hset _ hon).2 (Or.inl ?_)
        rcases (hset j hjlt).1 hL with h | rfl
        · exact hcl j oj hoj h e he hb
        · rw [ho] at hoj; cases hoj; exact hall e he hb
      · have h := hinv.put hinj hsz (i := i) hlt
        refine ⟨h.1, h.2.1, fun j hj hL => h.2.2.1 j hj ((hset j hj).1 hL), fun s hs => h.2.2.2 s (fun j hj hL => hs j hj ((hset j hj).2 hL))⟩

/-- The same, over the list of what is left: each operation stands written out at the list's head. -/
def SeqL (P : Program) (ops : Array Oper) (S : World → Prop) (fin : Act → Prop) : List Oper → Act → Prop
  | [], A => fin A
  | o :: os, A => ∃ d v, o.dst = some d ∧ (∀ (w : World) (K : Act → World → Prop), S w → (∀ w', S w' → K (A.put (some d) v) w') →
      if Region.wanted o (yielded ops A.tmps) = true then Oper.wp P o A w K QF else K (A.put (some d) undef) w) ∧ SeqL P ops S fin os (A.put (some d) v)
theorem SeqL.nil {fin : Act → Prop} {A : Act} (h : fin A) : SeqL P ops S fin [] A := h
/-- An operation that is carried out. -/
theorem SeqL.yes {fin : Act → Prop} {os : List Oper} {A A' : Act} {o : Oper} {d : Nat} {v : Value} (hd : o.dst = some d) (hw : Region.wanted o (yielded ops A.tmps) = true)
    (hs : ∀ (w : World) (K : Act → World → Prop), S w → Shut (∀ w', S w' → K (A.put (some d) v) w') → Oper.wp P o A w K QF) (hA : A.put (some d) v = A')
    (h : SeqL P ops S fin os A') : SeqL P ops S fin (o :: os) A :=
  ⟨d, v, hd, fun w K hS hK => by rw [if_pos hw]; exact hs w K hS hK, by rw [hA]; exact h⟩
/-- An operation whose guard says no. -/
theorem SeqL.no {fin : Act → Prop} {os : List Oper} {A A' : Act} {o : Oper} {d : Nat} (hd : o.dst = some d) (hw : Region.wanted o (yielded ops A.tmps) = false) (hA : A.put (some d) undef = A')
    (h : SeqL P ops S fin os A') : SeqL P ops S fin (o :: os) A :=
  ⟨d, undef, hd, fun w K hS hK => by rw [if_neg (by rw [hw]; decide)]; exact hK w hS, by rw [hA]; exact h⟩
theorem SeqL.toW {fin : Act → Prop} : ∀ (os pre : List Oper) (A : Act), ops = (pre ++ os).toArray → SeqL P ops S fin os A → SeqW P ops S fin os.length pre.length A
  | [], _, _, _, h => h
  | o :: os, pre, A, hl, h => by
    obtain ⟨d, v, hd, hs, h⟩ := h
    have ho : ops[pre.length]? = some o := by rw [hl]; simp
    refine ⟨o, d, v, ho, hd, fun w K hS hK => wpOp_step ho (fun K' hK' => ?_), ?_⟩
    · rw [hd]; exact hs w K' hS (fun w' hS' => hK' _ _ (hK w' hS'))
    · have := SeqL.toW os (pre ++ [o]) _ (by rw [hl]; simp) h
      simpa using this

/-- **A region that draws its order, walked once.** -/
theorem region_seq {id : Nat} {a : Act} {w : World} {l : List Oper} (hl : ops = l.toArray) (hm : P.follows .mixedOrders = true) (hok : seqOk .any ops a.tmps.size = true) (hS : S w.drew)
    (h : ∀ fin : Act → Prop, Shut (∀ A, (∀ w', S w' → Q .normal A w') → fin A) → SeqL P ops S fin l a) : (Code.region id ops true).wp P Q a w := by
  refine wp_region_any hm ?_
  let d : Nat → Nat := fun k => ((ops[k]?).bind (·.dst)).getD 0
  have hd : ∀ k o dd, ops[k]? = some o → o.dst = some dd → d k = dd := fun k o dd ho hdd => by simp [d, ho, hdd]
  have hsz : l.length = ops.size := by rw [hl]; simp
  have h1 := SeqL.toW l [] a (by rw [hl]; simp) (h (fun A => ∀ w', S w' → Q .normal A w') (fun A hA => hA))
  rw [hsz] at h1
  obtain ⟨v, _, hsteps, hfin⟩ := SeqW.vals d hd ops.size 0 a (fun _ => undef) h1
  rw [Nat.zero_add] at hfin
  refine seq_main hok rfl hd (fun j hj => hsteps j (Nat.zero_le _) (by omega)) hfin ops.size (List.range ops.size) (by simp) List.nodup_range (Array.replicate ops.size false) (by simp) (fun j hj => ?_) (fun j hj => by simpa using hj) (fun j oj hoj hL => ?_) a _ ?_ hS
  · simp [Array.getD_eq_getD_getElem?, hj]
  · have hjlt := (Array.getElem?_eq_some_iff.1 hoj).1
    simp [Array.getD_eq_getD_getElem?, hjlt] at hL
  · refine ⟨rfl, rfl, fun j hj hL => ?_, fun _ _ => rfl⟩
    simp [Array.getD_eq_getD_getElem?, hj] at hL
end
end Go.Proofs.YtfammopenanapaaDoor
