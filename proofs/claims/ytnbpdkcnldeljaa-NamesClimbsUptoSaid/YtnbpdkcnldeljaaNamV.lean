/- Rows of sets; joining one after another, and how often that changes anything. -/
import Derived.Test.YtnbpdkcnldeljaaNamQ
namespace Go.Proofs.Ytnbpdkcnldeljaa
open Go.RowKit

structure NSet where
  n : Bool
  A : Option Addr
  l : List Str
  c : Nat
/-- The slice value at 'A' reads as the sets 'L'. -/
def NRow (w : World) (A : Option Addr) (L : List NSet) : Prop :=
  match A with
  | none => L = []
  | some a => ∀ i : Nat, (h : i < L.length) → w.cell? (a.add (i * 2)) = some (.bool L[i].n) ∧ w.cell? (a.add (i * 2 + 1)) = some (.slice L[i].A L[i].l.length L[i].c)
theorem NRow.cell {w : World} {A : Option Addr} {L : List NSet} (h : NRow w A L) {k : Nat} (hk : k < L.length) :
    ∃ b o : Nat, A = some ⟨b, o, none⟩ ∧ w.cell? ⟨b, o + k * 2, none⟩ = some (.bool L[k].n) ∧ w.cell? ⟨b, o + k * 2 + 1, none⟩ = some (.slice L[k].A L[k].l.length L[k].c) ∧ b < w.heap.size := by
  cases A with
  | none => unfold NRow at h; subst h; simp at hk
  | some a =>
    unfold NRow at h; dsimp only at h
    obtain ⟨b, o, p⟩ := a
    have h0 := (h 0 (by omega)).1
    rw [Nat.zero_mul] at h0
    have hp : p = none := by simpa [Addr.add] using World.cell?_spot h0
    subst hp
    have e : ∀ j, (⟨b, o, none⟩ : Addr).add j = ⟨b, o + j, none⟩ := by
      intro j; unfold Addr.add; split
      · next h => subst h; rfl
      · rfl
    obtain ⟨h1, h2⟩ := h k hk
    rw [e] at h1 h2
    refine ⟨b, o, rfl, h1, by rw [Nat.add_assoc]; exact h2, ?_⟩
    rcases Nat.lt_or_ge b w.heap.size with h' | h'
    · exact h'
    · simp [World.cell?, Addr.add, Array.getElem?_eq_none h'] at h0
/-- What each of the sets reads as, too. -/
def NAll (w : World) (L : List NSet) : Prop := ∀ s ∈ L, SRow w s.A s.l ∧ (s.A = none → s.c = 0)
def sumS : List NSet → Nat
  | [] => 0
  | s :: L => s.l.length + sumS L
theorem sumS_take (L : List NSet) (k : Nat) (h : k < L.length) : sumS (L.take (k + 1)) = sumS (L.take k) + L[k].l.length := by
  induction L generalizing k with
  | nil => simp at h
  | cons s L ih =>
    cases k with
    | zero => simp [sumS]
    | succ k =>
      have := ih k (by simpa using h)
      simp only [List.take_succ_cons, sumS, List.getElem_cons_succ] at this ⊢
      omega
theorem sumS_take_le (L : List NSet) (k : Nat) : sumS (L.take k) ≤ sumS L := by
  induction L generalizing k with
  | nil => simp [sumS]
  | cons s L ih =>
    cases k with
    | zero => simp [sumS]
    | succ k => have := ih k; simp only [List.take_succ_cons, sumS]; omega

def rankS (n : Bool) (P : List Str) : Nat := P.length + (if n then 1 else 0)
theorem filter_strict {P T : List Str} (hP : Strict P) (hT : Strict T) (h : ∀ x, x ∈ P → x ∈ T) : T.filter (fun x => decide (x ∈ P)) = P := by
  refine strict_uniq (List.Pairwise.filter _ hT) hP (fun y => ?_)
  rw [List.mem_filter, decide_eq_true_eq]
  exact ⟨fun h => h.2, fun hy => ⟨h y hy, hy⟩⟩
/-- A join that changes something makes the set greater. -/
theorem climb (np nx : Bool) (P X : List Str) (hP : Strict P) :
    rankS np P + (if (leqS (np || nx) (srt (P ++ X)) np P && leqS np P (np || nx) (srt (P ++ X))) then 0 else 1) ≤ rankS (np || nx) (srt (P ++ X)) := by
  have hsub : ∀ x, x ∈ P → x ∈ srt (P ++ X) := fun x h => (mem_srt _ _).2 (by simp [h])
  have hf := filter_strict hP (strict_srt (P ++ X)) hsub
  have hlen := List.length_filter_le (fun x => decide (x ∈ P)) (srt (P ++ X))
  rw [hf] at hlen
  unfold rankS
  generalize hS : (leqS (np || nx) (srt (P ++ X)) np P && leqS np P (np || nx) (srt (P ++ X))) = same
  cases same with
  | true => cases np <;> cases nx <;> simp <;> omega
  | false =>
    by_cases hl : P.length < (srt (P ++ X)).length
    · cases np <;> cases nx <;> simp <;> omega
    · have heq : P.length = (srt (P ++ X)).length := by omega
      have hall : ∀ x, x ∈ srt (P ++ X) → x ∈ P := by
        have h1 : ((srt (P ++ X)).filter (fun x => decide (x ∈ P))).length = (srt (P ++ X)).length := by rw [hf]; exact heq
        have h2 := List.length_filter_eq_length_iff.1 h1
        intro x hx
        exact of_decide_eq_true (h2 x hx)
      have key : np = (np || nx) → False := fun e => by
        have h3 := same_of (np || nx) np (srt (P ++ X)) P e.symm (fun x => ⟨hall x, hsub x⟩)
        rw [hS] at h3
        cases h3
      cases np with
      | true => exact (key rfl).elim
      | false =>
        cases nx with
        | false => exact (key rfl).elim
        | true => simp; omega
end Go.Proofs.Ytnbpdkcnldeljaa
