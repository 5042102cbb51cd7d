/- X-PARTIAL The document's own answer: numbers as texts, keys as texts: layer 26. -/
import Derived.Test.YtfammopenanapaaDoorKeyP
import Derived.Laws.BytesArg
namespace Go.Proofs.YtfammopenanapaaDoor
open Go.RowKit Go.Lib

/-- What is left of a number, as digits. -/
def decLeft (m : Nat) : Str := if m = 0 then [] else Lib.decDigits m
theorem decLeft_step {m : Nat} (h : 0 < m) : decLeft m = decLeft (m / 10) ++ [UInt8.ofNat (48 + m % 10)] := by
  unfold decLeft
  rw [if_neg (by omega)]
  by_cases h10 : m < 10
  · rw [if_pos (by omega), dec_low h10, Nat.mod_eq_of_lt h10]; rfl
  · rw [if_neg (by omega), dec_high h10]

set_option maxRecDepth 1000000 in
set_option maxHeartbeats 4000000 in
theorem r14_Num (n : Nat) (w : World) (hn : n ≤ 9223372036854775807) :
    Calls Tryd.prog 24 #[.int .i64 n] w fun e w' => e = .returned (encStr (Lib.decDigits n)) ∧ Below w.heap.size w w' := by
  by_cases h0 : n = 0
  · subst h0
    rw [dec_low (by omega)]
    go_enter Tryd.func24, Tryd.ntmps24
    go_wp2_with fail
    go_ret
    exact ⟨rfl, Below.refl _ _⟩
  · have hb : ((n : Int) == 0) = false := by rw [beq_eq_false_iff_ne]; omega
    have hlen : (Lib.decDigits n).length ≤ 21 := by
      have := Lib.itoa_length_le (n : Int) (by omega) (by omega)
      rwa [Lib.itoa_nonneg] at this
    have hL : decLeft n = Lib.decDigits n := if_neg h0
    generalize hD : Lib.decDigits n = D at *
    clear hD
    go_enter Tryd.func24, Tryd.ntmps24
    go_wp2_with fail
    go_loopw [3, 4] (fun v3 v4 wr => ∃ (m : Nat) (s : Str), m ≤ n ∧ v4 = .int .i64 m ∧ v3 = encStr s ∧ decLeft m ++ s = D ∧ Below w.heap.size w wr) (fun _ v4 _ => (RowKit.intOf v4).toNat)
    case atStart => exact ⟨n, [], Nat.le_refl _, rfl, rfl, by rw [hL, List.append_nil], Below.refl _ _⟩
    case round =>
      obtain ⟨m, s, hm, rfl, rfl, hs, hB⟩ := hrel
      by_cases hz : m = 0
      · subst hz
        have hsD : s = D := hs
        subst hsD
        go_wp2_with fail
        go_ret
        exact ⟨rfl, hB⟩
      · have hmb : ((m : Int) != 0) = true := by rw [bne_iff_ne]; omega
        have hsl : s.length ≤ 21 := by
          have := congrArg List.length hs
          rw [List.length_append] at this
          omega
        have HS := Lib.hid (show decLeft (m / 10) ++ (UInt8.ofNat (48 + m % 10) :: s) = D by
          have e := decLeft_step (m := m) (by omega)
          rw [← hs, e, List.append_assoc]; rfl)
        have hcv : (convert 22 9 (.slice (some ⟨wr.heap.size, 0, none⟩) 1 1)).run Tryd.prog (wr.alloc (.cells #[.int .u8 (48 + (m : Int) % 10)] 5)) = .ok (encStr [UInt8.ofNat (48 + m % 10)]) (wr.alloc (.cells #[.int .u8 (48 + (m : Int) % 10)] 5)) := by
          have hx := run_convert_bytes_arg (P := Tryd.prog) (wr.alloc (.cells #[.int .u8 (48 + (m : Int) % 10)] 5)) 22 5 Tryd.underlying22 Tryd.underlying5 wr.heap.size 0 1 1 [48 + (m : Int) % 10] rfl (fun i hi => by
            have : i = 0 := by omega
            subst this
            simp [go_sem]) 9 Tryd.underlying9
          rw [hx]
          have ez : (48 + (m : Int) % 10).toNat = 48 + m % 10 := by omega
          show Result.ok (Value.string ⟨(#[UInt8.ofNat (48 + (m : Int) % 10).toNat] : Array UInt8)⟩) _ = _
          rw [ez]
        have a1 : ∀ W, (Op.stringOp .add ⟨([UInt8.ofNat (48 + m % 10)] : Str).toArray⟩ ⟨s.toArray⟩).run Tryd.prog W = .ok (encStr (UInt8.ofNat (48 + m % 10) :: s)) W := fun W => by
          refine (run_string_add_sum _ _ _ (by rw [mk_size, mk_size]; show 1 + _ ≤ _; omega)).trans ?_
          rw [mk_app]; rfl
        have hB2 : Below w.heap.size w (wr.alloc (.cells #[.int .u8 (48 + (m : Int) % 10)] 5)) := hB.alloc hB.size _
        have hmd : ¬ (m : Int) % 10 < 0 := by omega
        clear hs hlen hL
        generalize hy : UInt8.ofNat (48 + m % 10) :: s = y at *
        have HY := Lib.hid hy
        clear hy
        generalize ([UInt8.ofNat (48 + m % 10)] : Str) = x at *
        go_wp2_with fail
        go_roundw
        case rel => exact ⟨m / 10, y, by omega, by go_num, rfl, HS.out, hB2⟩
        case measure => simp [RowKit.intOf]; omega
end Go.Proofs.YtfammopenanapaaDoor
