/- X-PARTIAL Numbers of texts: layer 10. -/
import Derived.Test.YtfammopenanapaaDoorTokC
import Derived.Lib.AtoiAll
namespace Go.Proofs.YtfammopenanapaaDoor
open Go.RowKit Go.Lib

/-- What digits spell. -/
def numV (acc : Nat) (l : Str) : Nat := l.foldl (fun a c => a * 10 + (c.toNat - 48)) acc
theorem numV_nil (acc : Nat) : numV acc [] = acc := by unfold numV; rw [List.foldl_nil]
theorem numV_cons (acc : Nat) (c : UInt8) (r : Str) : numV acc (c :: r) = numV (acc * 10 + (c.toNat - 48)) r := by unfold numV; rw [List.foldl_cons]
def Digits (l : Str) : Prop := ∀ c ∈ l, 48 ≤ c.toNat ∧ c.toNat ≤ 57

theorem numV_ge : ∀ (l : Str) (acc : Nat), acc ≤ numV acc l
  | [], acc => by rw [numV_nil]; exact Nat.le_refl _
  | c :: r, acc => by
    have := numV_ge r (acc * 10 + (c.toNat - 48))
    rw [numV_cons]
    omega
theorem numV_low : ∀ (l : Str) (acc : Nat), acc * 10 ^ l.length ≤ numV acc l
  | [], acc => by rw [numV_nil, List.length_nil, Nat.pow_zero, Nat.mul_one]; exact Nat.le_refl _
  | c :: r, acc => by
    have h := numV_low r (acc * 10 + (c.toNat - 48))
    rw [numV_cons]
    refine Nat.le_trans ?_ h
    rw [List.length_cons, Nat.pow_succ, Nat.mul_comm (10 ^ r.length), ← Nat.mul_assoc]
    exact Nat.mul_le_mul_right _ (by omega)
theorem numV_high : ∀ (l : Str) (acc : Nat), Digits l → numV acc l < (acc + 1) * 10 ^ l.length
  | [], acc, _ => by rw [numV_nil, List.length_nil, Nat.pow_zero, Nat.mul_one]; exact Nat.lt_succ_self _
  | c :: r, acc, hd => by
    have hc := hd c List.mem_cons_self
    have h := numV_high r (acc * 10 + (c.toNat - 48)) (fun x hx => hd x (List.mem_cons_of_mem _ hx))
    rw [numV_cons]
    refine Nat.lt_of_lt_of_le h ?_
    rw [List.length_cons, Nat.pow_succ, Nat.mul_comm (10 ^ r.length), ← Nat.mul_assoc]
    exact Nat.mul_le_mul_right _ (by omega)
theorem numV_snoc : ∀ (l : Str) (acc : Nat) (c : UInt8), numV acc (l ++ [c]) = numV acc l * 10 + (c.toNat - 48)
  | [], acc, c => by rw [List.nil_append, numV_cons, numV_nil, numV_nil]
  | x :: l, acc, c => by rw [List.cons_append, numV_cons, numV_cons, numV_snoc l]

theorem parse_is : ∀ (l : Str) (acc : Nat), Digits l → acc < 18446744073709551616 →
    Lib.parseUint10 acc l = if numV acc l < 18446744073709551616 then .ok (numV acc l) else .range
  | [], acc, _, ha => by rw [Lib.parseUint10, numV_nil, if_pos ha]
  | c :: r, acc, hd, ha => by
    have hc := hd c List.mem_cons_self
    have hr : Digits r := fun x hx => hd x (List.mem_cons_of_mem _ hx)
    have hg := numV_ge r (acc * 10 + (c.toNat - 48))
    rw [Lib.parseUint10, if_pos hc, numV_cons]
    split
    · rw [if_neg (by omega)]
    · split
      · rw [if_neg (by omega)]
      · exact parse_is r _ hr (by omega)

theorem atoi_is {l : Str} (hd : Digits l) (hn : l ≠ []) : Lib.atoiAll l = if numV 0 l ≤ 9223372036854775807 then .ok (numV 0 l : Int) else .range := by
  cases l with
  | nil => exact absurd rfl hn
  | cons c r =>
    have hc := hd c List.mem_cons_self
    have e1 : ¬ c.toNat = 43 := by omega
    have e2 : ¬ c.toNat = 45 := by omega
    unfold Lib.atoiAll
    simp only [e1, e2, or_self, if_false, Lib.parseMag, List.cons_ne_nil]
    rw [parse_is _ 0 hd (by decide)]
    by_cases h : numV 0 (c :: r) < 18446744073709551616
    · rw [if_pos h]
      by_cases h2 : numV 0 (c :: r) ≤ 9223372036854775807
      · rw [if_pos h2]
        simp
        omega
      · rw [if_neg h2]
        simp
        omega
    · rw [if_neg h, if_neg (by omega)]

/-- What a number's digits are, and what is wrong with them: 3 noughts ahead, 4 too great. -/
def numR (d : Str) : Int × Int :=
  if d.head? = some 48 ∧ 1 < d.length then (0, 3) else if numV 0 d ≤ 9223372036854775807 then (numV 0 d, 0) else (0, 4)

theorem long_is {d : Str} (hd : Digits d) (h : d.head? ≠ some 48) (hl : 19 < d.length) : ¬ numV 0 d ≤ 9223372036854775807 := by
  cases d with
  | nil => simp at hl
  | cons c r =>
    have hc := hd c List.mem_cons_self
    have h48 : c ≠ 48 := fun e => h (by rw [e]; rfl)
    have h49 : 49 ≤ c.toNat := by
      rcases Nat.lt_or_ge c.toNat 49 with h' | h'
      · exact absurd (UInt8.toNat_inj.1 (show c.toNat = (48 : UInt8).toNat by have : (48 : UInt8).toNat = 48 := rfl; omega)) h48
      · exact h'
    have hlow := numV_low r (0 * 10 + (c.toNat - 48))
    have hp : 10 ^ 19 ≤ 10 ^ r.length := Nat.pow_le_pow_right (by decide) (by simp at hl; omega)
    have h1 : 1 * 10 ^ r.length ≤ (0 * 10 + (c.toNat - 48)) * 10 ^ r.length := Nat.mul_le_mul_right _ (by omega)
    have e : (10 : Nat) ^ 19 = 10000000000000000000 := by decide
    rw [e] at hp
    rw [numV_cons]
    omega
theorem short_lt {d : Str} (hd : Digits d) (hl : d.length ≤ 19) : numV 0 d < 10000000000000000000 := by
  have h := numV_high d 0 hd
  have hp : (10 : Nat) ^ d.length ≤ 10 ^ 19 := Nat.pow_le_pow_right (by decide) hl
  have e : (10 : Nat) ^ 19 = 10000000000000000000 := by decide
  rw [e] at hp
  omega
theorem kB_digit {c : UInt8} : kB c = 3 ↔ 48 ≤ c.toNat ∧ c.toNat ≤ 57 := by
  unfold kB kindOf
  have := c.toNat_lt
  split
  · omega
  · split
    · omega
    · split
      · omega
      · split <;> omega
end Go.Proofs.YtfammopenanapaaDoor
