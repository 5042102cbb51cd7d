/- Texts NamN, NamP, NamZ. -/
import Derived.Test.YtdpnphnafidpiaaGreatNamW
/- X-PARTIAL What names.Without, Only and Equal return: layer 7. -/
namespace Go.Proofs.YtdpnphnafidpiaaGreat
open Go.RowKit

def onlyS (n : Bool) (l : List Str) : Str × Bool :=
  match srt l with
  | [x] => if n then ([], false) else (x, true)
  | _ => ([], false)

theorem only_no {n : Bool} {l : List Str} (h : (srt l).length ≠ 1 ∨ n = true) : onlyS n l = ([], false) := by
  unfold onlyS
  split
  · next x hx =>
    rcases h with h | h
    · rw [hx] at h; exact absurd rfl h
    · rw [h]; rfl
  · rfl

theorem only_yes {l : List Str} (h : (srt l).length = 1) : onlyS false l = ((srt l)[0], true) := by
  unfold onlyS
  split
  · next x hx => simp [hx]
  · next hn =>
    exfalso
    match hs : srt l, h with
    | [x], _ => exact hn x hs

end Go.Proofs.YtdpnphnafidpiaaGreat

/- X-PARTIAL Sets that are made in regions that draw their order; what names.Equal returns: layer 7. -/
namespace Go.Proofs.YtdpnphnafidpiaaGreat
open Go.RowKit

def gA (g : Nat → Nat) : Option Addr := if g 3 = 0 then none else some ⟨g 0, g 1, none⟩

/-- Where a made set's strings lie. -/
def RSetG (l : List Str) : RT := fun g lo hi w => SRow w (gA g) l ∧ l.length ≤ g 2 ∧ g 2 ≤ 9223372036854775807 ∧ (gA g = none → g 2 = 0) ∧ (∀ a, gA g = some a → lo ≤ a.block ∧ (l ≠ [] → a.block < hi))

theorem RSetG.stable (l : List Str) : Stable (RSetG l) := by
  intro g lo hi w w' h hb
  obtain ⟨h1, h2, h3, h4, h5⟩ := h
  refine ⟨?_, h2, h3, h4, h5⟩
  cases hA : gA g with
  | none => rw [hA] at h1; exact h1
  | some a =>
    rw [hA] at h1
    intro i hi'
    have hne : l ≠ [] := fun e => by rw [e] at hi'; simp at hi'
    have hlt := (h5 a hA).2 hne
    have e : (a.add i).block = a.block := by unfold Addr.add; split <;> rfl
    rw [hb.cell (by rw [e]; exact hlt)]
    exact h1 i hi'

theorem SetV.ghost {b lo : Nat} {w : World} {v : Value} {n : Bool} {l : List Str} (h : SetV b w v n l) (hlo : lo ≤ b) : ∃ g : Nat → Nat, v = .agg #[.bool n, .slice (gA g) l.length (g 2)] ∧ RSetG l g lo w.heap.size w := by
  obtain ⟨A, c, rfl, h1, h2, h3, h4, h5⟩ := h
  cases A with
  | none =>
    refine ⟨fun i => if i = 2 then c else 0, rfl, ?_⟩
    exact ⟨h3, h1, h2, h4, fun a e => by cases e⟩
  | some a =>
    have hs := (h5 a rfl).2
    obtain ⟨blk, off, sp⟩ := a
    dsimp only at hs
    subst hs
    refine ⟨fun i => if i = 0 then blk else if i = 1 then off else if i = 2 then c else 1, rfl, ?_⟩
    refine ⟨h3, h1, h2, h4, fun a e => ?_⟩
    cases e
    refine ⟨Nat.le_trans hlo (h5 _ rfl).1, fun hne => ?_⟩
    have hpos : 0 < l.length := by
      cases l with
      | nil => exact absurd rfl hne
      | cons x l => simp
    obtain ⟨b', o', e', _, hlt⟩ := h3.cell hpos
    cases e'
    exact hlt

end Go.Proofs.YtdpnphnafidpiaaGreat

/- X-PARTIAL Sets as data, and rows over worlds (what stage 8 and later ones take over). -/
namespace Go.Proofs.YtdpnphnafidpiaaGreat
open Go.RowKit

theorem leq_iff (na nb : Bool) (la lb : List Str) : leqS na la nb lb = true ↔ (∀ x, x ∈ la → x ∈ lb) ∧ (na = true → nb = true) := by
  unfold leqS
  rw [Bool.and_eq_true, allIn_iff]
  cases na <;> cases nb <;> simp

theorem same_exact (na nb : Bool) (la lb : List Str) : (leqS na la nb lb && leqS nb lb na la) = (na == nb && srt la == srt lb) := by
  rw [Bool.eq_iff_iff, Bool.and_eq_true, leq_iff, leq_iff, Bool.and_eq_true, beq_iff_eq, beq_iff_eq]
  constructor
  · rintro ⟨⟨h1, h2⟩, h3, h4⟩
    refine ⟨by cases na <;> cases nb <;> simp_all, srt_of (strict_srt lb) (fun y => ?_)⟩
    rw [mem_srt]
    exact ⟨h3 y, h1 y⟩
  · rintro ⟨h1, h2⟩
    subst h1
    have h : ∀ y, y ∈ la ↔ y ∈ lb := fun y => by rw [← mem_srt la, h2, mem_srt]
    exact ⟨⟨fun x hx => (h x).1 hx, fun h => h⟩, fun x hx => (h x).2 hx, fun h => h⟩

theorem lenS_srt (n : Bool) (l : List Str) : lenS n (srt l) = lenS n l := by
  unfold lenS
  rw [srt_of (strict_srt l) (fun y => Iff.rfl)]

theorem exact_refl (n : Bool) (l : List Str) (A B : Option Addr) (ca cb : Nat) (w : World) (hm : l.length ≤ 9223372036854775807) (hra : SRow w A l) (hrb : SRow w B l) :
    Calls Tryz.prog 22 #[.agg #[.bool n, .slice A l.length ca], .agg #[.bool n, .slice B l.length cb]] w fun e w' => e = .returned (.bool true) ∧ Below w.heap.size w w' := by
  have h := r7_Exact n n l l A B ca cb w hm hm hra hrb
  rw [show (n == n && l == l) = true by simp] at h
  exact h

theorem same_of (na nb : Bool) (la lb : List Str) (hn : na = nb) (h : ∀ x, x ∈ la ↔ x ∈ lb) : (leqS na la nb lb && leqS nb lb na la) = true := by
  rw [Bool.and_eq_true, leq_iff, leq_iff]
  subst hn
  exact ⟨⟨fun x hx => (h x).1 hx, fun h => h⟩, fun x hx => (h x).2 hx, fun h => h⟩

theorem lat_j (na nb : Bool) (la lb : List Str) : leqS na la (na || nb) (srt (la ++ lb)) = true ∧ leqS nb lb (na || nb) (srt (la ++ lb)) = true := by
  refine ⟨(leq_iff _ _ _ _).2 ⟨fun x h => (mem_srt _ _).2 (by simp [h]), fun h => by simp [h]⟩, (leq_iff _ _ _ _).2 ⟨fun x h => (mem_srt _ _).2 (by simp [h]), fun h => by simp [h]⟩⟩

theorem lat_m (na nb : Bool) (la lb : List Str) : leqS (na && nb) (srt (meetL la lb)) na la = true ∧ leqS (na && nb) (srt (meetL la lb)) nb lb = true := by
  refine ⟨(leq_iff _ _ _ _).2 ⟨fun x h => ?_, fun h => by simp at h; exact h.1⟩, (leq_iff _ _ _ _).2 ⟨fun x h => ?_, fun h => by simp at h; exact h.2⟩⟩
  · rw [mem_srt, mem_meetL] at h; exact h.1
  · rw [mem_srt, mem_meetL] at h; exact h.2

theorem SRow.far {w w' : World} {A : Option Addr} {l : List Str} (h : SRow w A l) (hf : ∀ a, A = some a → l ≠ [] → ∀ p : Addr, p.block = a.block → w'.cell? p = w.cell? p) : SRow w' A l := by
  cases A with
  | none => exact h
  | some a =>
    intro i hi
    have hne : l ≠ [] := fun e => by rw [e] at hi; simp at hi
    rw [hf a rfl hne (a.add i) (by unfold Addr.add; split <;> rfl)]
    exact h i hi

theorem cell_far2 (w : World) (b : Nat) (v0 v1 : Value) (p : Addr) (h : p.block ≠ b) : ((w.setCell ⟨b, 0, none⟩ v0).setCell ⟨b, 1, none⟩ v1).cell? p = w.cell? p := by
  rw [World.cell?_setCell_far _ _ _ _ (fun e => h e.symm), World.cell?_setCell_far _ _ _ _ (fun e => h e.symm)]

def rankS (n : Bool) (P : List Str) : Nat := P.length + (if n then 1 else 0)

theorem filter_strict {P T : List Str} (hP : Strict P) (hT : Strict T) (h : ∀ x, x ∈ P → x ∈ T) : T.filter (fun x => decide (x ∈ P)) = P := by
  refine strict_uniq (List.Pairwise.filter _ hT) hP (fun y => ?_)
  rw [List.mem_filter, decide_eq_true_eq]
  exact ⟨fun h => h.2, fun hy => ⟨h y hy, hy⟩⟩

/-- A join that changes something makes the set greater. -/
theorem climb (np nx : Bool) (P X : List Str) (hP : Strict P) :
    rankS np P + (if (leqS (np || nx) (srt (P ++ X)) np P && leqS np P (np || nx) (srt (P ++ X))) then 0 else 1) ≤ rankS (np || nx) (srt (P ++ X)) := by
  have hsub : ∀ x, x ∈ P → x ∈ srt (P ++ X) := fun x h => (mem_srt _ _).2 (by simp [h])
  have hf := filter_strict hP (strict_srt (P ++ X)) hsub
  have hlen := List.length_filter_le (fun x => decide (x ∈ P)) (srt (P ++ X))
  rw [hf] at hlen
  unfold rankS
  generalize hS : (leqS (np || nx) (srt (P ++ X)) np P && leqS np P (np || nx) (srt (P ++ X))) = same
  cases same with
  | true => cases np <;> cases nx <;> simp <;> omega
  | false =>
    by_cases hl : P.length < (srt (P ++ X)).length
    · cases np <;> cases nx <;> simp <;> omega
    · have heq : P.length = (srt (P ++ X)).length := by omega
      have hall : ∀ x, x ∈ srt (P ++ X) → x ∈ P := by
        have h1 : ((srt (P ++ X)).filter (fun x => decide (x ∈ P))).length = (srt (P ++ X)).length := by rw [hf]; exact heq
        have h2 := List.length_filter_eq_length_iff.1 h1
        intro x hx
        exact of_decide_eq_true (h2 x hx)
      have key : np = (np || nx) → False := fun e => by
        have h3 := same_of (np || nx) np (srt (P ++ X)) P e.symm (fun x => ⟨hall x, hsub x⟩)
        rw [hS] at h3
        cases h3
      cases np with
      | true => exact (key rfl).elim
      | false =>
        cases nx with
        | false => exact (key rfl).elim
        | true => simp; omega

end Go.Proofs.YtdpnphnafidpiaaGreat
