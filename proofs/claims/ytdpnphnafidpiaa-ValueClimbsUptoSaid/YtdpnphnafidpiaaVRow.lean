/- Rows of values; widening one by another, and how often that changes anything. Layer 8. -/
import Derived.Test.YtdpnphnafidpiaaValH
namespace Go.Proofs.Ytdpnphnafidpiaa
open Go.RowKit

structure NVal where
  i : In
  n : Bool
  A : Option Addr
  l : List Str
  c : Nat
def NVal.cells (s : NVal) : List Value := [.bool s.i.s.s, .int .i64 s.i.s.lo, .int .i64 s.i.s.hi, .bool s.i.c.s, .int .i64 s.i.c.m, .int .i64 s.i.c.r, .bool s.n, .slice s.A s.l.length s.c]
/-- The slice value at 'A' reads as the values 'L'. -/
def VRow (w : World) (A : Option Addr) (L : List NVal) : Prop :=
  match A with
  | none => L = []
  | some a => ∀ k : Nat, (h : k < L.length) → ∀ j : Nat, j < 8 → w.cell? (a.add (k * 8 + j)) = L[k].cells[j]?
theorem VRow.cell {w : World} {A : Option Addr} {L : List NVal} (h : VRow w A L) {k : Nat} (hk : k < L.length) :
    ∃ b o : Nat, A = some ⟨b, o, none⟩ ∧ (∀ j, j < 8 → w.cell? ⟨b, o + k * 8 + j, none⟩ = L[k].cells[j]?) ∧ b < w.heap.size := by
  cases A with
  | none => unfold VRow at h; subst h; simp at hk
  | some a =>
    unfold VRow at h; dsimp only at h
    obtain ⟨b, o, p⟩ := a
    have h0 := h 0 (by omega) 0 (by omega)
    rw [Nat.zero_mul, Nat.zero_add] at h0
    have h0' : w.cell? ((⟨b, o, p⟩ : Addr).add 0) = some (.bool (L[0]'(by omega)).i.s.s) := h0
    have hp : p = none := by simpa [Addr.add] using World.cell?_spot h0'
    subst hp
    have e : ∀ j, (⟨b, o, none⟩ : Addr).add j = ⟨b, o + j, none⟩ := by
      intro j; unfold Addr.add; split
      · next h => subst h; rfl
      · rfl
    refine ⟨b, o, rfl, fun j hj => ?_, ?_⟩
    · have := h k hk j hj
      rw [e, ← Nat.add_assoc] at this
      exact this
    · rcases Nat.lt_or_ge b w.heap.size with h' | h'
      · exact h'
      · simp [World.cell?, Addr.add, Array.getElem?_eq_none h'] at h0'
/-- What the strings of each of the values read as, too. -/
def VAll (w : World) (L : List NVal) : Prop := ∀ s ∈ L, s.i.ok ∧ SRow w s.A s.l ∧ (s.A = none → s.c = 0)
def sumV : List NVal → Nat
  | [] => 0
  | s :: L => s.l.length + sumV L
theorem sumV_take (L : List NVal) (k : Nat) (h : k < L.length) : sumV (L.take (k + 1)) = sumV (L.take k) + L[k].l.length := by
  induction L generalizing k with
  | nil => simp at h
  | cons s L ih =>
    cases k with
    | zero => simp [sumV]
    | succ k =>
      have := ih k (by simpa using h)
      simp only [List.take_succ_cons, sumV, List.getElem_cons_succ] at this ⊢
      omega
theorem sumV_take_le (L : List NVal) (k : Nat) : sumV (L.take k) ≤ sumV L := by
  induction L generalizing k with
  | nil => simp [sumV]
  | cons s L ih =>
    cases k with
    | zero => simp [sumV]
    | succ k => have := ih k; simp only [List.take_succ_cons, sumV]; omega

theorem Sp.leq_of_clean {a b : Sp} (h : a.leq b = true) : a.clean.leq b = true := by rw [Sp.clean_leq]; exact h
/-- Widening: above both, and each change takes something of the rank. -/
theorem In.widen_step {v x : In} (L : List Int) (hv : v.std) (hx : x.ok) :
    (v.widen x L).std ∧ v.leq (v.widen x L) = true ∧ x.leq (v.widen x L) = true ∧
      (v.widen x L).s.wrank L + (v.widen x L).c.rank + (if (v.widen x L).clean.same v.clean then 0 else 1) ≤ v.s.wrank L + v.c.rank := by
  have hxs := In.clean_std hx
  have hst : (v.widen x L).std := by unfold In.widen; rw [In.std_clean hv]; exact In.widenC_std L hv hxs
  obtain ⟨w1, w2, w3, w4, w5⟩ := Sp.widen_ok (s := v.s) (x := x.clean.s) L hv.1 hxs.1 (Sp.clean_of_ok hv)
  obtain ⟨j1, j2, j3, _, j5⟩ := Cg.join_std (c := v.c) (x := x.clean.c) hv.2.1 hxs.2.1.1
  have es : (v.widen x L).s = v.s.widen x.clean.s L := by unfold In.widen; rw [In.std_clean hv]; rfl
  have ec : (v.widen x L).c = v.c.join x.clean.c := by unfold In.widen; rw [In.std_clean hv]; rfl
  refine ⟨hst, ?_, ?_, ?_⟩
  · unfold In.leq
    rw [In.std_clean hv, In.std_clean hst, es, ec, w3, j2]; rfl
  · unfold In.leq
    rw [In.std_clean hst, es, ec, w4, j3]; rfl
  · rw [In.std_clean hst, In.std_clean hv, es, ec]
    have r1 : (v.s.widen x.clean.s L).wrank L ≤ v.s.wrank L := by
      by_cases h : v.s.widen x.clean.s L = v.s
      · rw [h]; omega
      · have := w5 h; omega
    have r2 : (v.c.join x.clean.c).rank ≤ v.c.rank := by
      by_cases h : v.c.join x.clean.c = v.c
      · rw [h]; omega
      · have := j5 h; omega
    by_cases hsame : (v.widen x L).same v = true
    · rw [if_pos hsame]; omega
    · rw [if_neg hsame]
      by_cases h : v.s.widen x.clean.s L = v.s
      · have hc : v.c.join x.clean.c ≠ v.c := fun e => hsame (by
          have : v.widen x L = v := In.ext' (es.trans h) (ec.trans e)
          rw [this]; exact In.same_self v)
        have := j5 hc; omega
      · have := w5 h; omega
theorem In.zero_rank (L : List Int) : In.zero.s.wrank L + In.zero.c.rank = 2 * L.length + 68 := by
  have h1 : In.zero.s.wrank L = 2 * L.length + 3 := if_pos rfl
  have h2 : In.zero.c.rank = 65 := if_pos rfl
  rw [h1, h2]
end Go.Proofs.Ytdpnphnafidpiaa
