/- X-PARTIAL The document's own answer: pairs of keys: layer 29. -/
import Derived.Test.YtkmpkhbahmehmaaRowG
import Derived.Test.YtkmpkhbahmehmaaWebA
import Derived.Test.YtkmpkhbahmehmaaKeyX
import Derived.Test.YtkmpkhbahmehmaaTake
namespace Go.Proofs.Ytkmpkhbahmehmaa
open Go.RowKit Go.Lib

abbrev Pr := Ky × Ky
def encP (p : Pr) : List Value := [encStr p.1.n, .int .i64 p.1.d, encStr p.2.n, .int .i64 p.2.d]
theorem encP_len (p : Pr) : (encP p).length = 4 := rfl
theorem encP_one (p : Pr) : ∀ u ∈ encP p, u.oneCell' = true := by
  intro u hu
  simp [encP] at hu
  rcases hu with rfl | rfl | rfl | rfl <;> rfl
abbrev PRow (w : World) (A : Option Addr) (m : List Pr) : Prop := GRow encP 4 w A m
abbrev OwnP (w : World) (base : Nat) (v : Value) (m : List Pr) : Prop := OwnG encP 4 53 w base v m
theorem pair_type : GType Try.prog 27 53 4 48 :=
  gtype_of (z := .agg #[.string ⟨#[]⟩, .int .i64 0, .string ⟨#[]⟩, .int .i64 0]) Try.underlying27 (by kernel_rfl) rfl (by decide)
theorem PRow.get {w : World} {A : Option Addr} {m : List Pr} (h : PRow w A m) {j : Nat} (hj : j < m.length) : ∃ b o : Nat, A = some ⟨b, o, none⟩ ∧ b < w.heap.size ∧ w.cell? ⟨b, o + j * 4, none⟩ = some (encStr m[j].1.n) ∧ w.cell? ⟨b, o + j * 4 + 1, none⟩ = some (.int .i64 m[j].1.d) ∧ w.cell? ⟨b, o + j * 4 + 2, none⟩ = some (encStr m[j].2.n) ∧ w.cell? ⟨b, o + j * 4 + 3, none⟩ = some (.int .i64 m[j].2.d) := by
  obtain ⟨b, o, e, hz, hc⟩ := h j hj
  exact ⟨b, o, e, hz, hc 0 (by omega), hc 1 (by omega), hc 2 (by omega), hc 3 (by omega)⟩
theorem blk_set4 {w : World} {b : Nat} {c0 c1 c2 c3 v0 v1 v2 v3 : Value} {t : TypeId} (h : w.heap[b]? = some (.cells #[c0, c1, c2, c3] t)) :
    ((((w.setCell ⟨b, 0, none⟩ v0).setCell ⟨b, 1, none⟩ v1).setCell ⟨b, 2, none⟩ v2).setCell ⟨b, 3, none⟩ v3).heap[b]? = some (.cells #[v0, v1, v2, v3] t) := by
  simp [World.setCell, Array.getElem?_modify, h]
theorem key_neq (a b : Ky) (w : World) : (binOp BinOp.neq 24 (.agg #[encStr a.n, .int .i64 a.d]) (.agg #[encStr b.n, .int .i64 b.d])).run Try.prog w = .ok (.bool (!decide (a = b))) w := by
  have := encK_equal a b w
  unfold encKy at this
  simp [binOp, this]
theorem key_eql (a b : Ky) (w : World) : (binOp BinOp.eql 24 (.agg #[encStr a.n, .int .i64 a.d]) (.agg #[encStr b.n, .int .i64 b.d])).run Try.prog w = .ok (.bool (decide (a = b))) w := by
  have := encK_equal a b w
  unfold encKy at this
  simp [binOp, this]
theorem pair_equal (p q : Pr) (w : World) : (Op.equal 53 (.agg #[encStr p.1.n, .int .i64 p.1.d, encStr p.2.n, .int .i64 p.2.d]) (.agg #[encStr q.1.n, .int .i64 q.1.d, encStr q.2.n, .int .i64 q.2.d])).run Try.prog w = .ok (decide (p = q)) w := by
  have hb := bytes_eq p.1.n q.1.n
  have hd := bytes_eq p.2.n q.2.n
  have e : (decide (p = q)) = ((decide (p.1.n = q.1.n) && (p.1.d == q.1.d)) && (decide (p.2.n = q.2.n) && (p.2.d == q.2.d))) := by
    by_cases h : p = q
    · subst h; simp
    · rw [decide_eq_false h]
      cases h1 : decide (p.1.n = q.1.n) <;> cases h2 : (p.1.d == q.1.d) <;> cases h3 : decide (p.2.n = q.2.n) <;> cases h4 : (p.2.d == q.2.d) <;> simp
      exact h (Prod.ext (Ky.ext (by simpa using h1) (by simpa using h2)) (Ky.ext (by simpa using h3) (by simpa using h4)))
  rw [e]
  unfold encStr
  cases h1 : decide (p.1.n = q.1.n) <;> cases h2 : (p.1.d == q.1.d) <;> cases h3 : decide (p.2.n = q.2.n) <;> cases h4 : (p.2.d == q.2.d) <;> rw [h1] at hb <;> rw [h3] at hd <;> simp only [decide_eq_true_eq, decide_eq_false_iff_not] at h1 h3 <;> simp [Op.equal, Op.maxDepth, go_sem, h1, h2, h3, h4]
theorem pair_neq (p q : Pr) (w : World) : (binOp BinOp.neq 53 (.agg #[encStr p.1.n, .int .i64 p.1.d, encStr p.2.n, .int .i64 p.2.d]) (.agg #[encStr q.1.n, .int .i64 q.1.d, encStr q.2.n, .int .i64 q.2.d])).run Try.prog w = .ok (.bool (!decide (p = q))) w := by
  simp [binOp, pair_equal p q w]

def addP (m : List Pr) (x y : Ky) : List Pr := m.filter (fun p => decide (p ≠ (x.cl, y.cl))) ++ [(x.cl, y.cl)]
theorem filter_take {α : Type} (f : α → Bool) {m : List α} {i : Nat} (hi : i < m.length) : (m.take (i + 1)).filter f = (m.take i).filter f ++ (if f m[i] = true then [m[i]] else []) := by
  rw [List.take_succ_eq_append_getElem hi, List.filter_append]
  congr 1
  by_cases h : f m[i] = true
  · rw [if_pos h]; simp [h]
  · rw [if_neg h]; simp [h]
end Go.Proofs.Ytkmpkhbahmehmaa
