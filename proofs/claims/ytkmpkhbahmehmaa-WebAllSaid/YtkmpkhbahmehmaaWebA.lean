/- X-PARTIAL Maps by keys; links: layer 29. -/
import Derived.Test.YtkmpkhbahmehmaaRows
import Derived.Test.YtkmpkhbahmehmaaTouch
import Derived.Test.YtkmpkhbahmehmaaKeyC
import Derived.Test.YtkmpkhbahmehmaaKit
namespace Go.Proofs.Ytkmpkhbahmehmaa
open Go.RowKit Go.Lib

def encKy (k : Ky) : Value := .agg #[encStr k.n, .int .i64 k.d]
theorem bytes_eq (s t : Str) : ((⟨s.toArray⟩ : ByteArray) == ⟨t.toArray⟩) = decide (s = t) := by
  by_cases h : s = t
  · rw [decide_eq_true h]; exact (MapKept.bytes_beq _ _).2 (by rw [h])
  · rw [decide_eq_false h]
    cases hb : ((⟨s.toArray⟩ : ByteArray) == ⟨t.toArray⟩)
    · rfl
    · exact absurd (by simpa using congrArg (fun b : ByteArray => b.data.toList) ((MapKept.bytes_beq _ _).1 hb)) h
theorem encK_equal (a b : Ky) (w : World) : (Op.equal 24 (encKy a) (encKy b)).run Try.prog w = .ok (decide (a = b)) w := by
  have hb := bytes_eq a.n b.n
  have e : (decide (a = b)) = (decide (a.n = b.n) && (a.d == b.d)) := by
    by_cases h : a = b
    · subst h; simp
    · rw [decide_eq_false h]
      cases h1 : decide (a.n = b.n) <;> cases h2 : (a.d == b.d) <;> simp
      exact h (Ky.ext (by simpa using h1) (by simpa using h2))
  rw [e]
  unfold encKy encStr
  cases h1 : decide (a.n = b.n) <;> cases h2 : (a.d == b.d) <;> rw [h1] at hb <;> simp only [decide_eq_true_eq, decide_eq_false_iff_not] at h1 <;> simp [Op.equal, Op.maxDepth, go_sem, h2, h1]
theorem key_law : KLaw Try.prog 24 encKy where
  check em k w := by
    have c0 : (Instr.checkKey em 9999 9 (encStr k.n)).run Try.prog w = .ok () w := by
      rw [show (9999 : Nat) = 9998 + 1 from rfl]; unfold Instr.checkKey; simp [run_underlying Try.underlying9]
    have c1 : (Instr.checkKey em 9999 3 (.int .i64 k.d)).run Try.prog w = .ok () w := by
      rw [show (9999 : Nat) = 9998 + 1 from rfl]; unfold Instr.checkKey; simp [run_underlying Try.underlying3]
    rw [show (10000 : Nat) = 9999 + 1 from rfl]
    unfold Instr.checkKey encKy
    unfold encStr at c0 ⊢
    simp [run_underlying Try.underlying24, go_sem, c0, c1]
  find k es L w h := by
    refine (run_findKey_eq (P := Try.prog) (k := 24) w (by rw [Try.underlying24]) _ _).trans ?_
    have key : ∀ (es : List MapEntry) (L : List (Ky × Value)) (i : Nat), es.map (fun e => (e.key, e.val)) = L.map (fun p => (encKy p.1, p.2)) → (Instr.findAsking 24 (encKy k) es i).run Try.prog w = .ok (findE encKy k L i) w := by
      intro es
      induction es with
      | nil =>
        intro L i h
        cases L with
        | nil => rfl
        | cons p L => cases h
      | cons e es ih =>
        intro L i h
        cases L with
        | nil => cases h
        | cons p L =>
          obtain ⟨q, u⟩ := p
          simp only [List.map_cons, List.cons.injEq, Prod.mk.injEq] at h
          obtain ⟨⟨hk, hv⟩, h⟩ := h
          unfold Instr.findAsking findE
          have he := encK_equal k q w
          rw [← hk] at he
          by_cases hq : q = k
          · rw [if_pos hq]
            rw [decide_eq_true hq.symm] at he
            simp [he, hv]
          · rw [if_neg hq]
            rw [decide_eq_false (fun e => hq e.symm)] at he
            simp [he, ih L (i + 1) h]
    exact key es L 0 h
  stays k w := by
    have hb : ((⟨k.n.toArray⟩ : ByteArray) == ⟨k.n.toArray⟩) = true := (MapKept.bytes_beq _ _).2 rfl
    have : Instr.sameBits 10000 (encKy k) (encKy k) = true := by
      show Instr.sameBits (9999 + 1) (encKy k) (encKy k) = true
      unfold encKy encStr
      simp [Instr.sameBits, hb]
    simp [Instr.keyThatStays, this]
theorem links_under : Try.prog.underlying 44 = some (.map 24 56) := Try.underlying44
theorem set_under : Try.prog.underlying 56 = some (.map 24 59) := Try.underlying56
end Go.Proofs.Ytkmpkhbahmehmaa
