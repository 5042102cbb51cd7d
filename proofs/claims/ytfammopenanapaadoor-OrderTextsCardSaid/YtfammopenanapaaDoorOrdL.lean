/- X-PARTIAL Negative numbers as texts: the document's own answer: layers 14, 37. -/
import Derived.Test.YtfammopenanapaaDoorKeyQ
namespace Go.Proofs.YtfammopenanapaaDoor
open Go.RowKit Go.Lib

theorem conv_digit (w : World) (v : Int) (c : UInt8) (h : UInt8.ofNat v.toNat = c) :
    (convert 22 9 (.slice (some ⟨w.heap.size, 0, none⟩) 1 1)).run Tryd.prog (w.alloc (.cells #[.int .u8 v] 5)) = .ok (encStr [c]) (w.alloc (.cells #[.int .u8 v] 5)) := by
  have hx := run_convert_bytes_arg (P := Tryd.prog) (w.alloc (.cells #[.int .u8 v] 5)) 22 5 Tryd.underlying22 Tryd.underlying5 w.heap.size 0 1 1 [v] rfl (fun i hi => by
    have : i = 0 := by omega
    subst this
    simp [go_sem]) 9 Tryd.underlying9
  rw [hx]
  show Result.ok (Value.string ⟨(#[UInt8.ofNat v.toNat] : Array UInt8)⟩) _ = _
  rw [h]

set_option maxRecDepth 1000000 in
set_option maxHeartbeats 4000000 in
theorem r14_NumNeg (n : Nat) (w : World) (hn0 : 0 < n) (hn : n ≤ 9223372036854775808) :
    Calls Tryd.prog 24 #[.int .i64 (-(n : Int))] w fun e w' => e = .returned (encStr (45 :: Lib.decDigits n)) ∧ Below w.heap.size w w' := by
  have h0 : n ≠ 0 := by omega
  have hb : (-(n : Int) == 0) = false := by rw [beq_eq_false_iff_ne]; omega
  have hlt : -(n : Int) < 0 := by omega
  have hlen : (Lib.decDigits n).length ≤ 21 := by
    have := Lib.itoa_length_le (-(n : Int)) (by omega) (by omega)
    have e : Lib.itoa (-(n : Int)) = 45 :: Lib.decDigits n := by
      unfold Lib.itoa
      rw [if_pos hlt]
      simp
    rw [e, List.length_cons] at this
    omega
  have hL : decLeft n = Lib.decDigits n := if_neg h0
  generalize hD : Lib.decDigits n = D at *
  clear hD
  have a9 := fun W => (run_string_add_sum (P := Tryd.prog) W ⟨([45] : Str).toArray⟩ ⟨D.toArray⟩ (by rw [mk_size, mk_size]; show 1 + _ ≤ _; omega))
  go_enter Tryd.func24, Tryd.ntmps24
  go_wp2_with fail
  go_loopw [3, 4] (fun v3 v4 wr => ∃ (m : Nat) (s : Str), m ≤ n ∧ v4 = .int .i64 (-(m : Int)) ∧ v3 = encStr s ∧ decLeft m ++ s = D ∧ Below w.heap.size w wr) (fun _ v4 _ => (-(RowKit.intOf v4)).toNat)
  case atStart => exact ⟨n, [], Nat.le_refl _, rfl, rfl, by rw [hL, List.append_nil], Below.refl _ _⟩
  case round =>
    obtain ⟨m, s, hm, rfl, rfl, hs, hB⟩ := hrel
    by_cases hz : m = 0
    · subst hz
      have hsD : s = D := hs
      subst hsD
      go_wp2_with fail
      rw [mk_app]
      go_ret
      exact ⟨rfl, hB⟩
    · have hmb : (-(m : Int) != 0) = true := by rw [bne_iff_ne]; omega
      have ed : Int.tdiv (-(m : Int)) 10 = -((m : Int) / 10) := by rw [Int.neg_tdiv, Int.tdiv_eq_ediv_of_nonneg (by omega)]
      have hsl : s.length ≤ 21 := by
        have := congrArg List.length hs
        rw [List.length_append] at this
        omega
      have HS := Lib.hid (show decLeft (m / 10) ++ (UInt8.ofNat (48 + m % 10) :: s) = D by
        have e := decLeft_step (m := m) (by omega)
        rw [← hs, e, List.append_assoc]; rfl)
      have a1 : ∀ W, (Op.stringOp .add ⟨([UInt8.ofNat (48 + m % 10)] : Str).toArray⟩ ⟨s.toArray⟩).run Tryd.prog W = .ok (encStr (UInt8.ofNat (48 + m % 10) :: s)) W := fun W => by
        refine (run_string_add_sum _ _ _ (by rw [mk_size, mk_size]; show 1 + _ ≤ _; omega)).trans ?_
        rw [mk_app]; rfl
      rcases Nat.eq_zero_or_pos (m % 10) with h10 | h10
      · have em : Int.tmod (-(m : Int)) 10 = 0 := by rw [Int.neg_tmod, Int.tmod_eq_emod_of_nonneg (by omega)]; omega
        have hcv := conv_digit wr 48 (UInt8.ofNat (48 + m % 10)) (by rw [h10]; rfl)
        have hB2 : Below w.heap.size w (wr.alloc (.cells #[.int .u8 48] 5)) := hB.alloc hB.size _
        clear hs hlen hL h10
        generalize hy : UInt8.ofNat (48 + m % 10) :: s = y at *
        have HY := Lib.hid hy
        clear hy
        generalize ([UInt8.ofNat (48 + m % 10)] : Str) = x at *
        go_wp2_with fail
        go_roundw
        case rel => exact ⟨m / 10, y, by omega, by go_num, rfl, HS.out, hB2⟩
        case measure => simp [RowKit.intOf]; omega
      · have em : Int.tmod (-(m : Int)) 10 = -((m : Int) % 10) := by rw [Int.neg_tmod, Int.tmod_eq_emod_of_nonneg (by omega)]
        have h11 : 0 < (m : Int) % 10 := by omega
        have hcv := conv_digit wr (48 + (m : Int) % 10) (UInt8.ofNat (48 + m % 10)) (by rw [show (48 + (m : Int) % 10).toNat = 48 + m % 10 by omega])
        have hB2 : Below w.heap.size w (wr.alloc (.cells #[.int .u8 (48 + (m : Int) % 10)] 5)) := hB.alloc hB.size _
        clear hs hlen hL h10
        generalize hy : UInt8.ofNat (48 + m % 10) :: s = y at *
        have HY := Lib.hid hy
        clear hy
        generalize ([UInt8.ofNat (48 + m % 10)] : Str) = x at *
        go_wp2_with fail
        go_roundw
        case rel => exact ⟨m / 10, y, by omega, by go_num, rfl, HS.out, hB2⟩
        case measure => simp [RowKit.intOf]; omega
/-- The document's own numbers as texts, of any sign. -/
theorem r14_NumZ (d : Int) (w : World) (h0 : -9223372036854775808 ≤ d) (h1 : d ≤ 9223372036854775807) :
    Calls Tryd.prog 24 #[.int .i64 d] w fun e w' => e = .returned (encStr (Lib.itoa d)) ∧ Below w.heap.size w w' := by
  by_cases h : d < 0
  · have H := r14_NumNeg (-d).toNat w (by omega) (by omega)
    rw [show (-((-d).toNat : Int)) = d by omega] at H
    have e : Lib.itoa d = 45 :: Lib.decDigits (-d).toNat := by
      unfold Lib.itoa
      rw [if_pos h, show d.natAbs = (-d).toNat by omega]
    rw [e]
    exact H
  · have H := r14_Num d.toNat w (by omega)
    rw [show ((d.toNat : Nat) : Int) = d by omega] at H
    rw [show Lib.itoa d = Lib.decDigits d.toNat by unfold Lib.itoa; rw [if_neg h]]
    exact H
end Go.Proofs.YtfammopenanapaaDoor
