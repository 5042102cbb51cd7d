/- X-PARTIAL Numbers of texts, walked: layer 10. -/
import Derived.Test.YtgaecojdebpcgaaDoorTokE
import Derived.Test.YtgaecojdebpcgaaDoorTokF
namespace Go.Proofs.YtgaecojdebpcgaaDoor
open Go.RowKit Go.Lib

def NumRel (d : Str) (v i : Value) : Prop := ∃ k : Nat, k ≤ d.length ∧ i = .int .i64 k ∧ v = .int .u64 (numV 0 (d.take k))

theorem numV_next {d : Str} {k : Nat} (h : k < d.length) : numV 0 (d.take (k + 1)) = numV 0 (d.take k) * 10 + (d[k].toNat - 48) := by
  rw [List.take_succ_eq_append_getElem h, numV_snoc]

set_option maxHeartbeats 2000000 in
theorem r10_number (d : Str) (w : World) (hd : Digits d) (hn : d ≠ []) (hm : d.length ≤ 9223372036854775807) :
    Calls Tryd.prog 28 #[encStr d] w fun e w' => e = .returned (.tuple #[.int .i64 (numR d).1, .int .i64 (numR d).2]) ∧ w = w' := by
  have hpos : 0 < d.length := List.length_pos_iff.2 hn
  have hg0 := mk_get d 0 hpos
  have hh : d.head? = some d[0] := by cases d with | nil => exact absurd rfl hn | cons x l => rfl
  by_cases h3 : d.head? = some 48 ∧ 1 < d.length
  · have hr : numR d = (0, 3) := if_pos h3
    rw [hr]
    have h0 : d[0] = 48 := by rw [hh] at h3; exact Option.some.inj h3.1
    have h1 := h3.2
    rw [h0] at hg0
    clear hr hh h3 h0 hd hn
    go_enter Tryd.func28, Tryd.ntmps28
    go_wp2
    go_ret2
    exact ⟨rfl, rfl⟩
  · have t0 : ((d[0].toNat : Int) == 48) = true ∧ d.length = 1 ∨ ((d[0].toNat : Int) == 48) = false ∧ d.head? ≠ some 48 := by
      by_cases h : d[0] = 48
      · left
        exact ⟨by rw [h]; rfl, by have : ¬ 1 < d.length := fun h' => h3 ⟨by rw [hh, h], h'⟩; omega⟩
      · right
        refine ⟨?_, by rw [hh]; intro e; exact h (Option.some.inj e)⟩
        rw [beq_eq_false_iff_ne]
        intro e
        exact h (UInt8.toNat_inj.1 (show d[0].toNat = 48 by omega))
    have hr : numR d = if numV 0 d ≤ 9223372036854775807 then ((numV 0 d : Int), 0) else (0, 4) := if_neg h3
    have HLONG : Hid (19 < d.length → numR d = (0, 4)) := Lib.hid (fun h => by
      rw [hr, if_neg (long_is hd (by rcases t0 with h' | h' <;> first | (exact h'.2) | (exfalso; omega)) h)])
    have HR := Lib.hid hr
    have HD := Lib.hid hd
    have HX := Lib.hid h3
    have h1b : ((d[0].toNat : Int) == 48) = true → d.length = 1 := fun h => by
      rcases t0 with h' | h'
      · exact h'.2
      · rw [h] at h'; exact absurd h'.1 (by decide)
    have HB := Lib.hid h1b
    clear hr h3 hd hn hh t0 h1b
    generalize hc0 : d[0] = c0 at *
    clear hc0
    generalize hb0 : ((c0.toNat : Int) == 48) = b0 at *
    have hgt : b0 = true → decide ((1 : Int) < d.length) = false := fun h => decide_eq_false (by have := HB.out h; omega)
    go_enter Tryd.func28, Tryd.ntmps28
    cases b0
    all_goals
      try have hgt' := hgt rfl
      clear hgt
      go_wp2
      clear hg0 hb0
      go_loop [4, 5] (fun v i => NumRel d v i) (fun _ i => d.length - (RowKit.intOf i).toNat)
      case atStart => exact ⟨0, Nat.zero_le _, rfl, rfl⟩
      case round =>
        obtain ⟨k, hk, rfl, rfl⟩ := hrel
        by_cases hlt : k < d.length
        · by_cases hl : d.length ≤ 19
          · have hg := mk_get d k hlt
            have hnx := numV_next hlt
            have hc := HD.out d[k] (List.getElem_mem hlt)
            have hsh := short_lt (d := d.take (k + 1)) (fun c h => HD.out c (List.mem_of_mem_take h)) (by rw [List.length_take]; omega)
            rw [hnx] at hsh
            obtain ⟨m, hm'⟩ : ∃ m, d[k].toNat = m + 48 := ⟨d[k].toNat - 48, by omega⟩
            generalize d[k] = c at *
            have HN := Lib.hid hnx
            clear hnx
            rw [hm'] at hsh hc
            generalize hv : numV 0 (d.take k) = v at *
            have w1 : IntKind.u64.wrap ((v : Int) * 10) = (v : Int) * 10 := IntWalk.u64_in _ (by omega)
            have w2 : IntKind.u64.wrap ((v : Int) * 10 + m) = (v : Int) * 10 + m := IntWalk.u64_in _ (by omega)
            have w3 : IntKind.u8.wrap (m : Int) = m := IntWalk.u8_in _ (by omega)
            have w4 : IntKind.u64.wrap (m : Int) = m := IntWalk.u64_in _ (by omega)
            go_wp2
            go_round
            case rel => exact ⟨k + 1, by omega, by go_num, by rw [HN.out, hm']; simp⟩
            case measure => simp [RowKit.intOf]; omega
          · have HE := Lib.hid (HLONG.out (by omega))
            go_wp2
            go_ret2
            exact ⟨by rw [HE.out]; rfl, rfl⟩
        · have e : d.take k = d := List.take_of_length_le (by omega)
          rw [e]
          by_cases hv : numV 0 d ≤ 9223372036854775807
          · have HE := Lib.hid (show numR d = ((numV 0 d : Int), 0) by rw [HR.out, if_pos hv])
            generalize numV 0 d = v at *
            have w1 : IntKind.i64.wrap (v : Int) = v := IntWalk.i64_in _ (by omega)
            go_wp2
            go_ret2
            exact ⟨by rw [HE.out]; rfl, rfl⟩
          · have HE := Lib.hid (show numR d = (0, 4) by rw [HR.out, if_neg hv])
            generalize numV 0 d = v at *
            go_wp2
            go_ret2
            exact ⟨by rw [HE.out]; rfl, rfl⟩
end Go.Proofs.YtgaecojdebpcgaaDoor
