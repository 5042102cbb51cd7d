/- Sets of strings as rising lists: plain data of layer 7. -/
import Derived.Sort.LotA
import Derived.Sort.Walk0
namespace Go.Proofs.YtfammopenanapaaDoor

abbrev Str := List UInt8
theorem str_tri {x y : Str} (h1 : ¬ x < y) (h2 : ¬ y < x) : x = y := List.le_antisymm (List.not_lt.1 h2) (List.not_lt.1 h1)
theorem str_ne {x y : Str} (h : x < y) : x ≠ y := fun e => by subst e; exact List.lt_irrefl x h
def Strict (l : List Str) : Prop := l.Pairwise (· < ·)
theorem strict_nil : Strict [] := List.Pairwise.nil
theorem strict_uniq : ∀ {l m : List Str}, Strict l → Strict m → (∀ y, y ∈ l ↔ y ∈ m) → l = m
  | [], [], _, _, _ => rfl
  | [], y :: m, _, _, h => absurd ((h y).2 List.mem_cons_self) (by simp)
  | x :: l, [], _, _, h => absurd ((h x).1 List.mem_cons_self) (by simp)
  | x :: l, y :: m, hl, hm, h => by
    obtain ⟨a1, a2⟩ := List.pairwise_cons.1 hl
    obtain ⟨b1, b2⟩ := List.pairwise_cons.1 hm
    have hxy : x = y := by
      rcases List.mem_cons.1 ((h x).1 List.mem_cons_self) with e | hx
      · exact e
      · rcases List.mem_cons.1 ((h y).2 List.mem_cons_self) with e | hy
        · exact e.symm
        · exact absurd (List.lt_trans (b1 x hx) (a1 y hy)) (List.lt_irrefl _)
    subst hxy
    congr 1
    refine strict_uniq a2 b2 (fun y => ⟨fun hy => ?_, fun hy => ?_⟩)
    · rcases List.mem_cons.1 ((h y).1 (List.mem_cons_of_mem _ hy)) with e | h'
      · exact absurd (a1 y hy) (by rw [e]; exact List.lt_irrefl _)
      · exact h'
    · rcases List.mem_cons.1 ((h y).2 (List.mem_cons_of_mem _ hy)) with e | h'
      · exact absurd (b1 y hy) (by rw [e]; exact List.lt_irrefl _)
      · exact h'

/-- A string in its place, once. -/
def insS (x : Str) : List Str → List Str
  | [] => [x]
  | y :: l => if x < y then x :: y :: l else if x = y then y :: l else y :: insS x l
theorem mem_insS (x : Str) : ∀ (l : List Str) (y : Str), y ∈ insS x l ↔ y = x ∨ y ∈ l
  | [], y => by simp [insS]
  | z :: l, y => by
    unfold insS
    split
    · simp
    · split
      · next h => subst h; simp
      · rw [List.mem_cons, mem_insS x l y, List.mem_cons]
        constructor
        · rintro (h | h | h) <;> simp [h]
        · rintro (h | h | h) <;> simp [h]
theorem strict_insS (x : Str) : ∀ {l : List Str}, Strict l → Strict (insS x l)
  | [], _ => by simp [insS, Strict]
  | y :: l, h => by
    obtain ⟨a1, a2⟩ := List.pairwise_cons.1 h
    unfold insS
    split
    · next hxy =>
      refine List.pairwise_cons.2 ⟨fun z hz => ?_, h⟩
      rcases List.mem_cons.1 hz with rfl | hz
      · exact hxy
      · exact List.lt_trans hxy (a1 z hz)
    · next hxy =>
      split
      · exact h
      · next hne =>
        refine List.pairwise_cons.2 ⟨fun z hz => ?_, strict_insS x a2⟩
        rcases (mem_insS x l z).1 hz with rfl | hz
        · rcases Classical.em (y < z) with h' | h'
          · exact h'
          · exact absurd (str_tri hxy h') hne
        · exact a1 z hz
def srt (l : List Str) : List Str := l.foldl (fun acc x => insS x acc) []
theorem srt_snoc (l : List Str) (x : Str) : srt (l ++ [x]) = insS x (srt l) := by unfold srt; rw [List.foldl_append]; rfl
theorem fold_spec : ∀ (l acc : List Str), Strict acc → Strict (l.foldl (fun acc x => insS x acc) acc) ∧ ∀ y, y ∈ l.foldl (fun acc x => insS x acc) acc ↔ y ∈ acc ∨ y ∈ l
  | [], acc, h => ⟨h, fun y => by simp⟩
  | x :: l, acc, h => by
    obtain ⟨h1, h2⟩ := fold_spec l (insS x acc) (strict_insS x h)
    refine ⟨h1, fun y => ?_⟩
    rw [List.foldl_cons, h2, mem_insS, List.mem_cons]
    constructor
    · rintro ((h | h) | h) <;> simp [h]
    · rintro (h | h | h) <;> simp [h]
theorem strict_srt (l : List Str) : Strict (srt l) := (fold_spec l [] strict_nil).1
theorem mem_srt (l : List Str) (y : Str) : y ∈ srt l ↔ y ∈ l := by
  have := (fold_spec l [] strict_nil).2 y
  unfold srt
  simpa using this
theorem srt_of {l m : List Str} (h : Strict m) (he : ∀ y, y ∈ m ↔ y ∈ l) : srt l = m := strict_uniq (strict_srt l) h (fun y => by rw [mem_srt, he])
theorem srt_len_le (l : List Str) : (srt l).length ≤ l.length := by
  have key : ∀ (x : Str) (m : List Str), (insS x m).length ≤ m.length + 1 := by
    intro x m
    induction m with
    | nil => simp [insS]
    | cons y m ih => unfold insS; split <;> (try split) <;> simp <;> omega
  have : ∀ (l acc : List Str), (l.foldl (fun acc x => insS x acc) acc).length ≤ acc.length + l.length := by
    intro l
    induction l with
    | nil => intro acc; simp
    | cons x l ih => intro acc; rw [List.foldl_cons]; have := ih (insS x acc); have := key x acc; simp; omega
  have := this l []
  simpa [srt] using this

/-- What the document's Put does, round by round. -/
def putF (x : Str) (r : List Str × Bool) (y : Str) : List Str × Bool :=
  if (!r.2 && (decide (x < y) || x == y)) = true then (r.1 ++ (if x < y then [x, y] else [y]), true) else (r.1 ++ [y], r.2)
def putE (x : Str) (r : List Str × Bool) : List Str := if r.2 = true then r.1 else r.1 ++ [x]
theorem putF_true (x : Str) : ∀ (l acc : List Str), l.foldl (putF x) (acc, true) = (acc ++ l, true)
  | [], acc => by simp
  | y :: l, acc => by
    rw [List.foldl_cons]
    have e : putF x (acc, true) y = (acc ++ [y], true) := by simp [putF]
    rw [e, putF_true x l]
    simp
theorem putF_false (x : Str) : ∀ (l acc : List Str), Strict l → putE x (l.foldl (putF x) (acc, false)) = acc ++ insS x l
  | [], acc, _ => by simp [putE, insS]
  | y :: l, acc, h => by
    rw [List.foldl_cons]
    unfold insS
    by_cases h1 : x < y
    · have e : putF x (acc, false) y = (acc ++ [x, y], true) := by simp [putF, h1]
      rw [e, putF_true, if_pos h1]
      simp [putE]
    · by_cases h2 : x = y
      · have e : putF x (acc, false) y = (acc ++ [y], true) := by simp [putF, h2, List.lt_irrefl]
        rw [e, putF_true, if_neg h1, if_pos h2]
        simp [putE]
      · have e : putF x (acc, false) y = (acc ++ [y], false) := by simp [putF, h1, h2]
        rw [e, if_neg h1, if_neg h2, putF_false x l _ (List.pairwise_cons.1 h).2]
        simp

/-- Neighbours that are the same, once. -/
def ddF (acc : List Str) (x : Str) : List Str := if acc.getLast? = some x then acc else acc ++ [x]
def dd (l : List Str) : List Str := l.foldl ddF []
theorem dd_snoc (l : List Str) (x : Str) : dd (l ++ [x]) = ddF (dd l) x := by unfold dd; rw [List.foldl_append]; rfl
theorem dd_len (l : List Str) : (dd l).length ≤ l.length := by
  have : ∀ (l acc : List Str), (l.foldl ddF acc).length ≤ acc.length + l.length := by
    intro l
    induction l with
    | nil => intro acc; simp
    | cons x l ih => intro acc; rw [List.foldl_cons]; have := ih (ddF acc x); have h2 : (ddF acc x).length ≤ acc.length + 1 := by unfold ddF; split <;> simp
                     simp; omega
  have := this l []
  simpa [dd] using this
theorem snoc_ind {α : Type} {P : List α → Prop} (h0 : P []) (h1 : ∀ l x, P l → P (l ++ [x])) (l : List α) : P l := by
  have : ∀ m : List α, P m.reverse := by
    intro m
    induction m with
    | nil => exact h0
    | cons x m ih => rw [List.reverse_cons]; exact h1 _ _ ih
  have := this l.reverse
  rwa [List.reverse_reverse] at this
theorem dd_spec (l : List Str) : l.Pairwise (· ≤ ·) → Strict (dd l) ∧ (∀ y, y ∈ dd l ↔ y ∈ l) ∧ (dd l).getLast? = l.getLast? := by
  refine snoc_ind (P := fun l => l.Pairwise (· ≤ ·) → Strict (dd l) ∧ (∀ y, y ∈ dd l ↔ y ∈ l) ∧ (dd l).getLast? = l.getLast?) ?_ ?_ l
  · intro _; exact ⟨strict_nil, fun y => Iff.rfl, rfl⟩
  · clear l
    intro l x ih h
    obtain ⟨h1, _, h3⟩ := List.pairwise_append.1 h
    obtain ⟨k1, k2, k3⟩ := ih h1
    rw [dd_snoc]
    unfold ddF
    split
    · next hl =>
      refine ⟨k1, fun y => ?_, by rw [hl]; simp⟩
      have hx : x ∈ l := by rw [k3] at hl; exact List.mem_of_getLast? hl
      rw [k2, List.mem_append, List.mem_singleton]
      exact ⟨Or.inl, fun h => h.elim id (fun e => by rw [e]; exact hx)⟩
    · next hl =>
      refine ⟨?_, fun y => by rw [List.mem_append, List.mem_append, k2], by simp⟩
      refine List.pairwise_append.2 ⟨k1, List.pairwise_singleton _ _, ?_⟩
      intro y hy z hz
      rw [List.mem_singleton] at hz
      subst hz
      have hyz : y ≤ z := h3 y ((k2 y).1 hy) z (List.mem_singleton.2 rfl)
      rcases Classical.em (y < z) with h' | h'
      · exact h'
      · exfalso
        have e : y = z := str_tri h' (List.not_lt.2 hyz)
        subst e
        -- the last one of dd l is no less than y, and no more
        cases hd : (dd l).getLast? with
        | none => rw [List.getLast?_eq_none_iff] at hd; rw [hd] at hy; simp at hy
        | some t =>
          have htl : t ∈ l := by rw [k3] at hd; exact List.mem_of_getLast? hd
          have h5 : t ≤ y := h3 t htl y (List.mem_singleton.2 rfl)
          obtain ⟨ys, e2⟩ := List.getLast?_eq_some_iff.1 hd
          rw [e2] at hy k1
          rcases List.mem_append.1 hy with h6 | h6
          · have := (List.pairwise_append.1 k1).2.2 y h6 t (List.mem_singleton.2 rfl)
            exact List.not_lt.2 h5 this
          · rw [List.mem_singleton] at h6
            apply hl
            rw [hd, h6]
theorem dd_sort (l : List Str) : dd (l.mergeSort fun x y => decide (x ≤ y)) = srt l := by
  have hp : (l.mergeSort fun x y => decide (x ≤ y)).Pairwise (· ≤ ·) := by
    have := List.pairwise_mergeSort (le := fun x y : Str => decide (x ≤ y)) (fun a b c h1 h2 => by simp only [decide_eq_true_eq] at *; exact List.le_trans h1 h2) (fun a b => by simp only [Bool.or_eq_true, decide_eq_true_eq]; exact List.le_total a b) l
    exact this.imp (fun h => by simpa using h)
  obtain ⟨h1, h2, _⟩ := dd_spec _ hp
  refine (srt_of h1 (fun y => ?_)).symm
  rw [h2]
  exact (List.mergeSort_perm l _).mem_iff
end Go.Proofs.YtfammopenanapaaDoor
