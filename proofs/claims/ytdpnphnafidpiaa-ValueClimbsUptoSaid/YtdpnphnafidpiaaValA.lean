/- Ints of values: a span and a congruence together (pure). Layer 8. -/
import Derived.Test.YtdpnphnafidpiaaSpanY
import Derived.Test.YtdpnphnafidpiaaCongX
namespace Go.Proofs.Ytdpnphnafidpiaa
open Go.RowKit

structure In where
  s : Sp
  c : Cg
def In.zero : In := ⟨Sp.zero, Cg.zero⟩
def In.none (i : In) : Bool := i.s.none || !i.c.s
def In.clean (i : In) : In := if i.none = true then In.zero else ⟨i.s, i.c.clean⟩
def In.ok (i : In) : Prop := i.s.ok ∧ i.c.ok
/-- As cleaning leaves it. -/
def In.std (i : In) : Prop := i.s.ok ∧ i.c.std ∧ ((i.s = Sp.zero ∧ i.c = Cg.zero) ∨ (i.s.none = false ∧ i.c.s = true))
def In.has (i : In) (n : Int) : Bool := i.s.has n && i.c.has n
theorem In.ext' {a b : In} (h1 : a.s = b.s) (h2 : a.c = b.c) : a = b := by
  cases a; cases b; simp only at h1 h2; subst h1 h2; rfl
theorem Sp.zero_ok : Sp.zero.ok := ⟨⟨by decide, by decide⟩, ⟨by decide, by decide⟩⟩
theorem In.zero_std : In.zero.std := ⟨Sp.zero_ok, Cg.zero_std, Or.inl ⟨rfl, rfl⟩⟩
theorem In.std_ok {i : In} (h : i.std) : i.ok := ⟨h.1, h.2.1.1⟩
theorem In.clean_t {i : In} (h : i.none = true) : i.clean = In.zero := if_pos h
theorem In.clean_f {i : In} (h : i.none = false) : i.clean = ⟨i.s, i.c.clean⟩ := if_neg (by rw [h]; decide)
theorem In.none_f {i : In} (h : i.none = false) : i.s.none = false ∧ i.c.s = true := by
  unfold In.none at h
  rw [Bool.or_eq_false_iff] at h
  exact ⟨h.1, by simpa using h.2⟩
theorem Cg.clean_s (c : Cg) : c.clean.s = c.s := by
  cases hs : c.s
  · rw [Cg.clean_no hs]
  · by_cases hm : c.m < 0
    · rw [Cg.clean_neg hs hm]
    · rw [Cg.clean_pos hs hm]
theorem In.clean_std {i : In} (h : i.ok) : i.clean.std := by
  cases hn : i.none
  · rw [In.clean_f hn]
    obtain ⟨h1, h2⟩ := In.none_f hn
    exact ⟨h.1, Cg.clean_std h.2, Or.inr ⟨h1, by rw [Cg.clean_s]; exact h2⟩⟩
  · rw [In.clean_t hn]; exact In.zero_std
theorem In.std_clean {i : In} (h : i.std) : i.clean = i := by
  obtain ⟨h1, h2, ⟨h3, h4⟩ | ⟨h3, h4⟩⟩ := h
  · have e : i = In.zero := In.ext' h3 h4
    rw [e]; rfl
  · rw [In.clean_f (by unfold In.none; rw [h3, h4]; rfl), Cg.std_clean h2]
theorem In.clean_clean {i : In} (h : i.ok) : i.clean.clean = i.clean := In.std_clean (In.clean_std h)
theorem Sp.none_has {a : Sp} (h : a.none = true) (n : Int) : a.has n = false := by
  cases hh : a.has n
  · rfl
  · unfold Sp.has at hh
    simp at hh
    have := (Sp.none_iff a).2 ⟨hh.1.1, by omega⟩
    rw [this] at h; cases h
theorem In.clean_has {i : In} (h : i.ok) (n : Int) : i.clean.has n = i.has n := by
  cases hn : i.none
  · rw [In.clean_f hn]
    unfold In.has
    dsimp only
    rw [show i.c.clean.has n = i.c.has n by unfold Cg.has; rw [Cg.std_clean (Cg.clean_std h.2)]]
  · rw [In.clean_t hn]
    unfold In.has
    have h1 : In.zero.s.has n = false := Sp.none_has rfl n
    rw [h1, Bool.false_and]
    unfold In.none at hn
    rw [Bool.or_eq_true] at hn
    rcases hn with hn | hn
    · rw [Sp.none_has hn, Bool.false_and]
    · have : i.c.s = false := by simpa using hn
      rw [Cg.has_no this, Bool.and_false]

def In.leq (a b : In) : Bool := a.clean.s.leq b.clean.s && a.clean.c.leq b.clean.c
def In.joinC (x y : In) : In := ⟨x.s.join y.s, x.c.join y.c⟩
def In.join (a b : In) : In := In.joinC a.clean b.clean
def In.widenC (x y : In) (l : List Int) : In := ⟨x.s.widen y.s l, x.c.join y.c⟩
def In.widen (a b : In) (l : List Int) : In := In.widenC a.clean b.clean l
def In.isAll (x : In) : Bool := x.c.s && x.c.m == 1 && x.c.r == 0
def In.narrowC (x y : In) : In := In.clean ⟨x.s.narrow y.s, if x.isAll = true then y.c else x.c⟩

theorem Sp.leq_zero (x : Sp) : Sp.zero.leq x = true := Sp.leq_none x rfl
theorem Sp.join_zl {y : Sp} : Sp.zero.join y = y.clean := Sp.join_1 rfl
theorem Sp.join_zr {x : Sp} : x.join Sp.zero = x.clean := Sp.join_zero x
theorem Sp.widen_zl {y : Sp} (l : List Int) : Sp.zero.widen y l = y.clean := Sp.widen_1 l rfl
theorem Cg.join_s {x y : Cg} (hx : x.std) (hy : y.std) (h : x.s = true ∨ y.s = true) : (x.join y).s = true := by
  unfold Cg.join
  rw [Cg.std_clean hx, Cg.std_clean hy]
  unfold Cg.joinC
  split
  · next h' => rcases h with h | h; rw [h] at h'; cases h'; exact h
  · next h' =>
    split
    · simpa using h'
    · split
      · rfl
      · unfold Cg.of; rw [Cg.clean_s]
theorem Sp.join_none {x y : Sp} (h : x.none = false ∨ y.none = false) : (x.join y).none = false := by
  obtain ⟨h1, h2⟩ := Sp.join_up x y
  rcases h with h | h
  · rcases (Sp.leq_iff _ _).1 h1 with h' | h'
    · rw [h] at h'; cases h'
    · exact h'.1
  · rcases (Sp.leq_iff _ _).1 h2 with h' | h'
    · rw [h] at h'; cases h'
    · exact h'.1
theorem Sp.join_ok {x y : Sp} (hx : x.ok) (hy : y.ok) : (x.join y).ok := by
  have hof : ∀ lo hi : Int, I64 lo → I64 hi → (Sp.of lo hi).ok := fun lo hi h1 h2 => by
    by_cases h : hi < lo
    · rw [Sp.of_t h]; exact Sp.zero_ok
    · rw [Sp.of_f h]; exact ⟨h1, h2⟩
  have hcl : ∀ z : Sp, z.ok → z.clean.ok := fun z hz => by unfold Sp.clean; split; exact Sp.zero_ok; exact hz
  unfold Sp.join
  split
  · exact hcl y hy
  · split
    · exact hx
    · refine hof _ _ ?_ ?_
      · rw [Int.min_def]; split; exact hx.1; exact hy.1
      · rw [Int.max_def]; split; exact hy.2; exact hx.2
theorem In.joinC_std {x y : In} (hx : x.std) (hy : y.std) : (In.joinC x y).std := by
  refine ⟨Sp.join_ok hx.1 hy.1, (Cg.join_std hx.2.1 hy.2.1.1).1, ?_⟩
  unfold In.joinC
  dsimp only
  rcases hx.2.2 with ⟨e1, e2⟩ | ⟨e1, e2⟩
  · rcases hy.2.2 with ⟨f1, f2⟩ | ⟨f1, f2⟩
    · rw [e1, e2, f1, f2]; exact Or.inl ⟨rfl, rfl⟩
    · exact Or.inr ⟨Sp.join_none (Or.inr f1), Cg.join_s hx.2.1 hy.2.1 (Or.inr f2)⟩
  · exact Or.inr ⟨Sp.join_none (Or.inl e1), Cg.join_s hx.2.1 hy.2.1 (Or.inl e2)⟩
theorem Sp.clean_of_ok {x : In} (hx : x.std) : x.s.clean = x.s := by
  rcases hx.2.2 with ⟨e, _⟩ | ⟨e, _⟩
  · rw [e]; rfl
  · exact Sp.clean_some e
theorem In.widenC_std {x y : In} (l : List Int) (hx : x.std) (hy : y.std) : (In.widenC x y l).std := by
  obtain ⟨h1, h2, h3, h4, _⟩ := Sp.widen_ok l hx.1 hy.1 (Sp.clean_of_ok hx)
  refine ⟨h2, (Cg.join_std hx.2.1 hy.2.1.1).1, ?_⟩
  unfold In.widenC
  dsimp only
  have hn : x.s.none = false ∨ y.s.none = false → (x.s.widen y.s l).none = false := by
    intro h
    rcases h with h | h
    · rcases (Sp.leq_iff _ _).1 h3 with h' | h'
      · rw [h] at h'; cases h'
      · exact h'.1
    · rcases (Sp.leq_iff _ _).1 h4 with h' | h'
      · rw [h] at h'; cases h'
      · exact h'.1
  rcases hx.2.2 with ⟨e1, e2⟩ | ⟨e1, e2⟩
  · rcases hy.2.2 with ⟨f1, f2⟩ | ⟨f1, f2⟩
    · rw [e1, e2, f1, f2]; exact Or.inl ⟨rfl, rfl⟩
    · exact Or.inr ⟨hn (Or.inr f1), Cg.join_s hx.2.1 hy.2.1 (Or.inr f2)⟩
  · exact Or.inr ⟨hn (Or.inl e1), Cg.join_s hx.2.1 hy.2.1 (Or.inl e2)⟩
end Go.Proofs.Ytdpnphnafidpiaa
