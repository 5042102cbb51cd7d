/- What the laws about sets of names want: counts, the same, lives. -/
import Derived.Test.YtnbpdkcnldeljaaNamP
namespace Go.Proofs.Ytnbpdkcnldeljaa
open Go.RowKit

theorem none_len (n : Bool) (l : List Str) : (lenS n l == 0) = (!n && l.length == 0) := by
  have h : (srt l).length = 0 ↔ l.length = 0 := by
    constructor
    · intro h
      have e : srt l = [] := List.eq_nil_of_length_eq_zero h
      cases l with
      | nil => rfl
      | cons x l => have := (mem_srt (x :: l) x).2 List.mem_cons_self; rw [e] at this; simp at this
    · intro h
      have e : l = [] := List.eq_nil_of_length_eq_zero h
      subst e; rfl
  rw [Bool.eq_iff_iff]
  unfold lenS
  cases n
  · simp only [beq_iff_eq, Bool.not_false, Bool.true_and]
    have e : (if false = true then (1 : Int) else 0) = 0 := rfl
    rw [e]
    omega
  · simp only [Bool.not_true, Bool.false_and]
    constructor
    · intro h
      have h := beq_iff_eq.1 h
      rw [if_pos trivial] at h
      omega
    · intro h; cases h
theorem leq_iff (na nb : Bool) (la lb : List Str) : leqS na la nb lb = true ↔ (∀ x, x ∈ la → x ∈ lb) ∧ (na = true → nb = true) := by
  unfold leqS
  rw [Bool.and_eq_true, allIn_iff]
  cases na <;> cases nb <;> simp
theorem same_exact (na nb : Bool) (la lb : List Str) : (leqS na la nb lb && leqS nb lb na la) = (na == nb && srt la == srt lb) := by
  rw [Bool.eq_iff_iff, Bool.and_eq_true, leq_iff, leq_iff, Bool.and_eq_true, beq_iff_eq, beq_iff_eq]
  constructor
  · rintro ⟨⟨h1, h2⟩, h3, h4⟩
    refine ⟨by cases na <;> cases nb <;> simp_all, srt_of (strict_srt lb) (fun y => ?_)⟩
    rw [mem_srt]
    exact ⟨h3 y, h1 y⟩
  · rintro ⟨h1, h2⟩
    subst h1
    have h : ∀ y, y ∈ la ↔ y ∈ lb := fun y => by rw [← mem_srt la, h2, mem_srt]
    exact ⟨⟨fun x hx => (h x).1 hx, fun h => h⟩, fun x hx => (h x).2 hx, fun h => h⟩

theorem lenS_lives : lenS true (srt ([[97]] ++ srt [[98]])) = 3 := by kernel_rfl
theorem lenS_srt (n : Bool) (l : List Str) : lenS n (srt l) = lenS n l := by
  unfold lenS
  rw [srt_of (strict_srt l) (fun y => Iff.rfl)]

set_option maxHeartbeats 2000000 in
theorem law07_lives (w : World) : Calls Try.prog 23 #[] w fun e w' => e = .returned (.bool true) ∧ Below w.heap.size w w' := by
  go_enter Try.func23, Try.ntmps23
  go_wp2_with fail
  go_at_call 22
  generalize hW : (w.alloc (.cells #[encStr [97]] 9)).alloc (.cells #[encStr [98]] 9) = W at *
  have hr1 : SRow W (some ⟨w.heap.size, 0, none⟩) [[97]] := by
    intro i hi
    have : i = 0 := by simp at hi; omega
    subst this
    rw [← hW]
    simp [Addr.add, go_sem]
  have hr2 : SRow W (some ⟨w.heap.size + 1, 0, none⟩) [[98]] := by
    intro i hi
    have : i = 0 := by simp at hi; omega
    subst this
    rw [← hW]
    simp [Addr.add, go_sem]
  have HW : Below w.heap.size w W := by rw [← hW]; exact (by repeat (first | (with_reducible assumption) | (with_reducible exact Below.refl _ _) | (with_reducible refine Below.alloc ?_ (by first | omega | (simp; omega) | (simp; done) | (dsimp only; omega)) _) | (with_reducible refine Below.setCell ?_ (by first | omega | (simp; omega) | (simp; done) | (dsimp only; omega)) _) | (with_reducible refine Below.drew ?_) | (with_reducible refine Below.trans ?_ (Below.mono (by assumption) (by first | omega | (simp; omega) | (simp; done) | (dsimp only; omega))))))
  clear hW
  refine (names_Of false [[98]] (some ⟨w.heap.size + 1, 0, none⟩) 1 W (by decide) (fun e => by cases e) hr2).mono ?_
  rintro e x1 ⟨⟨v1, rfl, A1, c1, rfl, i1, j1, r1, n1, s1⟩, hb1⟩
  have H1 := HW.trans (hb1.mono HW.size)
  go_wp2_with fail
  go_at_call 13
  refine (names_Join true false [[97]] (srt [[98]]) (some ⟨w.heap.size, 0, none⟩) A1 1 c1 x1 (by decide) (fun e => by cases e) n1 (hr1.mono hb1) r1).mono ?_
  rintro e x2 ⟨⟨v2, rfl, A2, c2, rfl, i2, j2, r2, n2, s2⟩, hb2⟩
  have H2 := H1.trans (hb2.mono H1.size)
  go_wp2_with fail
  go_at_call 11
  have h3 := names_Len (true || false) (srt ([[97]] ++ srt [[98]])) A2 c2 x2 (by decide) n2 r2
  rw [show (true || false) = true from rfl, lenS_lives] at h3
  refine h3.mono ?_
  rintro e x3 ⟨rfl, hb3⟩
  go_wp2
  go_ret
  exact ⟨rfl, H2.trans (hb3.mono H2.size)⟩

theorem exact_refl (n : Bool) (l : List Str) (A B : Option Addr) (ca cb : Nat) (w : World) (hm : l.length ≤ 9223372036854775807) (hra : SRow w A l) (hrb : SRow w B l) :
    Calls Try.prog 12 #[.agg #[.bool n, .slice A l.length ca], .agg #[.bool n, .slice B l.length cb]] w fun e w' => e = .returned (.bool true) ∧ Below w.heap.size w w' := by
  have h := r7_Exact n n l l A B ca cb w hm hm hra hrb
  rw [show (n == n && l == l) = true by simp] at h
  exact h

end Go.Proofs.Ytnbpdkcnldeljaa

