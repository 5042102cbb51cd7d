/- X-PARTIAL What keys' texts are read as: layer 26. -/
import Derived.Test.YtfammopenanapaaDoorKeyL
import Derived.Test.YtfammopenanapaaDoorKeyF
namespace Go.Proofs.YtfammopenanapaaDoor
open Go.RowKit Go.Lib

theorem dec_low {n : Nat} (h : n < 10) : Lib.decDigits n = [UInt8.ofNat (48 + n)] := Lib.decDigits_one h
theorem dec_high {n : Nat} (h : ¬ n < 10) : Lib.decDigits n = Lib.decDigits (n / 10) ++ [UInt8.ofNat (48 + n % 10)] := by
  rw [Lib.decDigits, dif_neg h]
theorem dg_nat {m : Nat} (h : m < 10) : (UInt8.ofNat (48 + m)).toNat = 48 + m := by
  rw [UInt8.toNat_ofNat']; omega
theorem dec_num : ∀ n : Nat, numV 0 (Lib.decDigits n) = n := by
  intro n
  induction n using Nat.strongRecOn with
  | ind n ih =>
    by_cases h : n < 10
    · rw [dec_low h, numV_cons, numV_nil, dg_nat h]; omega
    · rw [dec_high h, numV_snoc, ih (n / 10) (by omega), dg_nat (by omega)]; omega
theorem dec_all : ∀ n : Nat, (Lib.decDigits n).all isDg = true := by
  intro n
  have hd : ∀ m, m < 10 → isDg (UInt8.ofNat (48 + m)) = true := fun m hm => isDg_nat.2 (by rw [dg_nat hm]; omega)
  induction n using Nat.strongRecOn with
  | ind n ih =>
    by_cases h : n < 10
    · rw [dec_low h, List.all_cons, hd n h]; rfl
    · rw [dec_high h, List.all_append, ih (n / 10) (by omega), List.all_cons, hd _ (by omega)]; rfl
theorem dec_head : ∀ n : Nat, 0 < n → (Lib.decDigits n).head? ≠ some 48 ∧ Lib.decDigits n ≠ [] := by
  intro n
  induction n using Nat.strongRecOn with
  | ind n ih =>
    intro hn
    by_cases h : n < 10
    · rw [dec_low h]
      refine ⟨fun e => ?_, by simp⟩
      have := congrArg UInt8.toNat (Option.some.inj e)
      rw [dg_nat h] at this
      have h48 : (48 : UInt8).toNat = 48 := rfl
      omega
    · obtain ⟨h1, h2⟩ := ih (n / 10) (by omega) (by omega)
      rw [dec_high h]
      refine ⟨?_, by simp⟩
      cases hl : Lib.decDigits (n / 10) with
      | nil => exact absurd hl h2
      | cons c r => rw [hl] at h1; exact h1
theorem dec_isNum (n : Nat) : isNum (Lib.decDigits n) = true := by
  unfold isNum
  rw [dec_all, Bool.true_and]
  rcases Nat.eq_zero_or_pos n with h | h
  · subst h
    rw [dec_low (by omega)]; rfl
  · obtain ⟨h1, h2⟩ := dec_head n h
    have b1 : (Lib.decDigits n != []) = true := by simpa using h2
    have b2 : ((Lib.decDigits n).head? != some 48) = true := by simpa using h1
    rw [b1, b2]
    simp

theorem ahead_app (n r : Str) (h : ∀ c ∈ n, c ≠ 46) : ahead (n ++ 46 :: r) = n := by
  unfold ahead
  induction n with
  | nil => rfl
  | cons c n ih =>
    have hc : (c != 46) = true := by simpa using h c List.mem_cons_self
    rw [List.cons_append, List.takeWhile_cons, if_pos hc, ih (fun x hx => h x (List.mem_cons_of_mem _ hx))]
theorem ahead_self (n : Str) (h : ∀ c ∈ n, c ≠ 46) : ahead n = n := by
  unfold ahead
  induction n with
  | nil => rfl
  | cons c n ih =>
    have hc : (c != 46) = true := by simpa using h c List.mem_cons_self
    rw [List.takeWhile_cons, if_pos hc, ih (fun x hx => h x (List.mem_cons_of_mem _ hx))]
theorem name_nodot {n : Str} (h : isName n = true) : ∀ c ∈ n, c ≠ 46 := by
  intro c hc e
  subst e
  cases n with
  | nil => cases hc
  | cons x l =>
    have h2 : (decide ((x :: l).length ≤ 20) && !isWord (x :: l) && (kB x == 2) && (x :: l).all alnum) = true := h
    rw [Bool.and_eq_true] at h2
    exact absurd ((List.all_eq_true.1 h2.2) 46 hc) (by decide)

theorem read_text (k : Ky) (hn : isName k.n = true) (hd1 : k.d ≤ 9223372036854775807) : readK (textK k) = (k.cl, 0) := by
  have hnd := name_nodot hn
  unfold textK
  by_cases h : k.d < 0
  · rw [if_pos h, Ky.cl_neg h]
    unfold readK
    rw [ahead_self _ hnd, if_neg (by rw [hn]; decide), if_pos rfl]
  · rw [if_neg h, Ky.cl_pos h]
    have e1 : k.n ++ [46] ++ Lib.itoa k.d = k.n ++ 46 :: Lib.decDigits k.d.toNat := by
      rw [List.append_assoc]
      have : Lib.itoa k.d = Lib.decDigits k.d.toNat := by unfold Lib.itoa; rw [if_neg h]
      rw [this]; rfl
    rw [e1]
    have e2 : (k.n ++ 46 :: Lib.decDigits k.d.toNat).drop (k.n.length + 1) = Lib.decDigits k.d.toNat := by
      rw [← List.drop_drop, List.drop_left]; rfl
    unfold readK
    rw [ahead_app _ _ hnd, if_neg (by rw [hn]; decide), if_neg (by simp), e2, dec_isNum, if_neg (by decide), dec_num, if_pos (by omega)]
    refine Prod.ext (Ky.ext rfl ?_) rfl
    show (k.d.toNat : Int) = k.d
    omega
end Go.Proofs.YtfammopenanapaaDoor
