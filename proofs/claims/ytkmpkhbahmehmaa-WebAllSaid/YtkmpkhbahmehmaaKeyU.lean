/- X-PARTIAL Rows of keys: plain data of layer 26. -/
import Derived.Test.YtkmpkhbahmehmaaKeyS
namespace Go.Proofs.Ytkmpkhbahmehmaa

def StrictK (l : List Ky) : Prop := l.Pairwise fun a b => a.less b = true
theorem strictK_uniq : ∀ {l m : List Ky}, StrictK l → StrictK m → (∀ y, y ∈ l ↔ y ∈ m) → l = m
  | [], [], _, _, _ => rfl
  | [], y :: m, _, _, h => absurd ((h y).2 List.mem_cons_self) (by simp)
  | x :: l, [], _, _, h => absurd ((h x).1 List.mem_cons_self) (by simp)
  | x :: l, y :: m, hl, hm, h => by
    obtain ⟨a1, a2⟩ := List.pairwise_cons.1 hl
    obtain ⟨b1, b2⟩ := List.pairwise_cons.1 hm
    have irr : ∀ z : Ky, ¬ z.less z = true := fun z h => by rw [Ky.less_irrefl] at h; cases h
    have hxy : x = y := by
      rcases List.mem_cons.1 ((h x).1 List.mem_cons_self) with e | hx
      · exact e
      · rcases List.mem_cons.1 ((h y).2 List.mem_cons_self) with e | hy
        · exact e.symm
        · exact absurd (Ky.less_trans (b1 x hx) (a1 y hy)) (irr _)
    subst hxy
    congr 1
    refine strictK_uniq a2 b2 (fun y => ⟨fun hy => ?_, fun hy => ?_⟩)
    · rcases List.mem_cons.1 ((h y).1 (List.mem_cons_of_mem _ hy)) with e | h'
      · exact absurd (a1 y hy) (by rw [e]; exact irr _)
      · exact h'
    · rcases List.mem_cons.1 ((h y).2 (List.mem_cons_of_mem _ hy)) with e | h'
      · exact absurd (b1 y hy) (by rw [e]; exact irr _)
      · exact h'

theorem mem_ddK : ∀ (l : List Ky) (z : Ky), z ∈ ddK l ↔ z ∈ l
  | [], z => Iff.rfl
  | [x], z => Iff.rfl
  | x :: y :: r, z => by
    have ih := mem_ddK (y :: r) z
    show z ∈ (if x = y then ddK (y :: r) else x :: ddK (y :: r)) ↔ _
    split
    · next h => subst h; rw [ih]; simp
    · rw [List.mem_cons, ih]; simp
theorem strict_ddK : ∀ {l : List Ky}, l.Pairwise (fun a b => b.less a = false) → StrictK (ddK l)
  | [], _ => List.Pairwise.nil
  | [x], _ => List.pairwise_singleton _ _
  | x :: y :: r, h => by
    obtain ⟨a1, a2⟩ := List.pairwise_cons.1 h
    have ih := strict_ddK a2
    show StrictK (if x = y then ddK (y :: r) else x :: ddK (y :: r))
    split
    · exact ih
    · next hne =>
      refine List.pairwise_cons.2 ⟨fun z hz => ?_, ih⟩
      have hz' := (mem_ddK _ z).1 hz
      cases hl : x.less z with
      | true => rfl
      | false =>
        exfalso
        have e := Ky.less_tri hl (a1 z hz')
        subst e
        rcases List.mem_cons.1 hz' with e | hr
        · exact hne e
        · have h1 := (List.pairwise_cons.1 a2).1 x hr
          exact hne (Ky.less_tri h1 (a1 y List.mem_cons_self))

/-- A key put into a row, in its place, once. -/
def putR (l : List Ky) (k : Ky) : List Ky := l.takeWhile (·.less k.cl) ++ [k.cl] ++ (l.dropWhile (·.less k.cl)).filter (fun x => decide (x ≠ k.cl))
theorem mem_putR (l : List Ky) (k z : Ky) : z ∈ putR l k ↔ z = k.cl ∨ z ∈ l := by
  unfold putR
  rw [List.mem_append, List.mem_append, List.mem_singleton, List.mem_filter, decide_eq_true_eq]
  have hs : z ∈ l ↔ z ∈ l.takeWhile (·.less k.cl) ∨ z ∈ l.dropWhile (·.less k.cl) := by
    conv => lhs; rw [← List.takeWhile_append_dropWhile (p := (·.less k.cl)) (l := l)]
    rw [List.mem_append]
  rw [hs]
  by_cases e : z = k.cl
  · simp [e]
  · simp [e]
theorem strict_drop {k : Ky} : ∀ {l : List Ky}, StrictK l → ∀ y ∈ l.dropWhile (·.less k), y.less k = false
  | [], _, y, hy => absurd hy (by simp)
  | x :: l, h, y, hy => by
    obtain ⟨a1, a2⟩ := List.pairwise_cons.1 h
    rw [List.dropWhile_cons] at hy
    by_cases hx : x.less k = true
    · rw [if_pos hx] at hy; exact strict_drop a2 y hy
    · rw [if_neg hx] at hy
      rcases List.mem_cons.1 hy with rfl | hy
      · simpa using hx
      · cases hyk : y.less k with
        | false => rfl
        | true => exact absurd (Ky.less_trans (a1 y hy) hyk) hx
theorem strict_putR {l : List Ky} (h : StrictK l) (k : Ky) : StrictK (putR l k) := by
  have ht : StrictK (l.takeWhile (·.less k.cl)) := List.Pairwise.sublist (List.takeWhile_sublist _) h
  have hd : StrictK ((l.dropWhile (·.less k.cl)).filter (fun x => decide (x ≠ k.cl))) := List.Pairwise.sublist (List.filter_sublist.trans (List.dropWhile_sublist _)) h
  have hlow : ∀ x ∈ l.takeWhile (·.less k.cl), x.less k.cl = true := fun x hx => (List.all_eq_true.1 (List.all_takeWhile (p := (·.less k.cl)) (l := l))) x hx
  have hhigh : ∀ y ∈ (l.dropWhile (·.less k.cl)).filter (fun x => decide (x ≠ k.cl)), k.cl.less y = true := fun y hy => by
    obtain ⟨h1, h2⟩ := List.mem_filter.1 hy
    have h3 := strict_drop h y h1
    cases hl : k.cl.less y with
    | true => rfl
    | false => exact absurd (Ky.less_tri h3 hl) (by simpa using h2)
  unfold putR
  refine List.pairwise_append.2 ⟨List.pairwise_append.2 ⟨ht, List.pairwise_singleton _ _, fun a ha b hb => ?_⟩, hd, fun a ha b hb => ?_⟩
  · rw [List.mem_singleton] at hb; subst hb; exact hlow a ha
  · rcases List.mem_append.1 ha with ha | ha
    · exact Ky.less_trans (hlow a ha) (hhigh b hb)
    · rw [List.mem_singleton] at ha; subst ha; exact hhigh b hb

/-- The row of a list's keys. -/
def rowR (l : List Ky) : List Ky := l.foldl putR []
/-- .. without one. -/
def cutR (l : List Ky) (k : Ky) : List Ky := l.foldl (fun out x => if x.cl = k.cl then out else putR out x) []
theorem fold_row : ∀ (l out : List Ky), StrictK out → StrictK (l.foldl putR out) ∧ ∀ z, z ∈ l.foldl putR out ↔ z ∈ out ∨ ∃ y ∈ l, z = y.cl
  | [], out, h => ⟨h, fun z => by simp⟩
  | x :: l, out, h => by
    obtain ⟨h1, h2⟩ := fold_row l (putR out x) (strict_putR h x)
    refine ⟨h1, fun z => ?_⟩
    rw [List.foldl_cons, h2, mem_putR]
    constructor
    · rintro ((h | h) | ⟨y, hy, h⟩)
      · exact Or.inr ⟨x, List.mem_cons_self, h⟩
      · exact Or.inl h
      · exact Or.inr ⟨y, List.mem_cons_of_mem _ hy, h⟩
    · rintro (h | ⟨y, hy, h⟩)
      · exact Or.inl (Or.inr h)
      · rcases List.mem_cons.1 hy with rfl | hy
        · exact Or.inl (Or.inl h)
        · exact Or.inr ⟨y, hy, h⟩
theorem fold_cut (k : Ky) : ∀ (l out : List Ky), StrictK out → StrictK (l.foldl (fun out x => if x.cl = k.cl then out else putR out x) out) ∧
    ∀ z, z ∈ l.foldl (fun out x => if x.cl = k.cl then out else putR out x) out ↔ z ∈ out ∨ ∃ y ∈ l, y.cl ≠ k.cl ∧ z = y.cl
  | [], out, h => ⟨h, fun z => by simp⟩
  | x :: l, out, h => by
    have hs : StrictK (if x.cl = k.cl then out else putR out x) := by
      split
      · exact h
      · exact strict_putR h x
    obtain ⟨h1, h2⟩ := fold_cut k l _ hs
    refine ⟨h1, fun z => ?_⟩
    rw [List.foldl_cons, h2]
    by_cases hx : x.cl = k.cl
    · rw [if_pos hx]
      constructor
      · rintro (h | ⟨y, hy, h⟩)
        · exact Or.inl h
        · exact Or.inr ⟨y, List.mem_cons_of_mem _ hy, h⟩
      · rintro (h | ⟨y, hy, h⟩)
        · exact Or.inl h
        · rcases List.mem_cons.1 hy with rfl | hy
          · exact absurd hx h.1
          · exact Or.inr ⟨y, hy, h⟩
    · rw [if_neg hx, mem_putR]
      constructor
      · rintro ((h | h) | ⟨y, hy, h⟩)
        · exact Or.inr ⟨x, List.mem_cons_self, hx, h⟩
        · exact Or.inl h
        · exact Or.inr ⟨y, List.mem_cons_of_mem _ hy, h⟩
      · rintro (h | ⟨y, hy, h⟩)
        · exact Or.inl (Or.inr h)
        · rcases List.mem_cons.1 hy with rfl | hy
          · exact Or.inl (Or.inl h.2)
          · exact Or.inr ⟨y, hy, h⟩

theorem row_is {xs l' : List Ky} (hp : l'.Perm (xs.map Ky.cl)) (hs : l'.Pairwise (fun a b => b.cl.less a.cl = false)) : ddK l' = rowR xs := by
  have hcl : ∀ x ∈ l', x.cl = x := fun x hx => by
    obtain ⟨y, _, rfl⟩ := List.mem_map.1 (hp.mem_iff.1 hx)
    exact Ky.cl_cl y
  have hs2 : l'.Pairwise (fun a b => b.less a = false) := List.Pairwise.imp_of_mem (fun {a b} ha hb h => by rwa [hcl a ha, hcl b hb] at h) hs
  obtain ⟨h1, h2⟩ := fold_row xs [] List.Pairwise.nil
  refine strictK_uniq (strict_ddK hs2) h1 (fun z => ?_)
  rw [mem_ddK, hp.mem_iff, List.mem_map]
  show _ ↔ z ∈ xs.foldl putR []
  rw [h2]
  constructor
  · rintro ⟨y, hy, rfl⟩; exact Or.inr ⟨y, hy, rfl⟩
  · rintro (h | ⟨y, hy, rfl⟩)
    · cases h
    · exact ⟨y, hy, rfl⟩
theorem row_cons (l : List Ky) (k : Ky) : rowR (k :: l) = rowR (l ++ [k]) := by
  obtain ⟨h1, h2⟩ := fold_row (k :: l) [] List.Pairwise.nil
  obtain ⟨h3, h4⟩ := fold_row (l ++ [k]) [] List.Pairwise.nil
  refine strictK_uniq h1 h3 (fun z => ?_)
  show z ∈ (k :: l).foldl putR [] ↔ z ∈ (l ++ [k]).foldl putR []
  rw [h2, h4]
  simp only [List.mem_append, List.mem_cons, List.not_mem_nil, or_false, false_or]
  constructor
  · rintro ⟨y, hy | hy, h⟩
    · exact ⟨y, Or.inr hy, h⟩
    · exact ⟨y, Or.inl hy, h⟩
  · rintro ⟨y, hy | hy, h⟩
    · exact ⟨y, Or.inr hy, h⟩
    · exact ⟨y, Or.inl hy, h⟩
theorem cut_is (l : List Ky) (k : Ky) : (rowR l).filter (fun x => !decide (x = k.cl)) = cutR l k := by
  obtain ⟨h1, h2⟩ := fold_row l [] List.Pairwise.nil
  obtain ⟨h3, h4⟩ := fold_cut k l [] List.Pairwise.nil
  refine strictK_uniq (List.Pairwise.sublist List.filter_sublist h1) h3 (fun z => ?_)
  rw [List.mem_filter]
  show z ∈ l.foldl putR [] ∧ _ ↔ _
  rw [h2]
  show _ ↔ z ∈ l.foldl (fun out x => if x.cl = k.cl then out else putR out x) []
  rw [h4]
  simp only [List.not_mem_nil, false_or, Bool.not_eq_true', decide_eq_false_iff_not]
  constructor
  · rintro ⟨⟨y, hy, rfl⟩, hne⟩; exact ⟨y, hy, hne, rfl⟩
  · rintro ⟨y, hy, hne, rfl⟩; exact ⟨⟨y, hy, rfl⟩, hne⟩
end Go.Proofs.Ytkmpkhbahmehmaa
