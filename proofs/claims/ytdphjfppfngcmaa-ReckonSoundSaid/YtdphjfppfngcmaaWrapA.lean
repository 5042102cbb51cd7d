/- X-PARTIAL What wrap.count returns, of one truth and of two: layer 2. -/
import Derived.Test.YtdphjfppfngcmaaLawA
import Derived.Test.YtdphjfppfngcmaaRefF
import Derived.ScopeJumps
namespace Go.Proofs.Ytdphjfppfngcmaa
open Go.RowKit

set_option maxHeartbeats 1000000 in
theorem wrap_count1 (p : Nat) (x : Bool) (w : World) (hc : w.cell? ⟨p, 0, none⟩ = some (.bool x)) :
    Calls Try.prog 77 #[.slice (some ⟨p, 0, none⟩) 1 1] w fun e w' => e = .returned (.int .i64 (if x then 1 else 0)) ∧ w = w' := by
  cases x
  · show Calls _ _ _ _ fun e w' => e = .returned (.int .i64 0) ∧ w = w'
    go_enter Try.func77, Try.ntmps77
    go_wp2
    refine wp_scope_jumps 0 (fun a' w' => w' = w ∧ ∃ u0 u1 u2 u4 u5 u6 u7 u8 u9 u10 u11 u12 u13 u14 u15 u16 u17 : Value, a' = { tmps := #[u0, u1, u2, .int .i64 0, u4, u5, u6, u7, u8, u9, u10, u11, u12, u13, u14, u15, u16, u17], defers := [] }) (fun _ _ => 0) rfl ?_ ?_
    · go_wp2
      refine wp_loop_rounds 2 ?_
      iterate 1 (rw [rounds_succ]; go_wp2)
      refine wp_goto ?_
      refine ⟨rfl, rfl, _, _, _, _, _, _, _, _, _, _, _, _, _, _, _, _, _, rfl⟩
    · rintro a' w' ⟨rfl, u0, u1, u2, u4, u5, u6, u7, u8, u9, u10, u11, u12, u13, u14, u15, u16, u17, rfl⟩
      go_wp2
      try simp only [Exit.jump]
      go_ret
      exact ⟨rfl, rfl⟩
  · show Calls _ _ _ _ fun e w' => e = .returned (.int .i64 1) ∧ w = w'
    go_enter Try.func77, Try.ntmps77
    go_wp2
    refine wp_scope_jumps 0 (fun a' w' => w' = w ∧ ∃ u0 u1 u2 u4 u5 u6 u7 u8 u9 u10 u11 u12 u13 u14 u15 u16 u17 : Value, a' = { tmps := #[u0, u1, u2, .int .i64 1, u4, u5, u6, u7, u8, u9, u10, u11, u12, u13, u14, u15, u16, u17], defers := [] }) (fun _ _ => 0) rfl ?_ ?_
    · go_wp2
      refine wp_loop_rounds 2 ?_
      iterate 2 (rw [rounds_succ]; go_wp2)
      go_step3
      go_wp2
      simp only [Exit.jump]
      go_ret
      exact ⟨rfl, rfl⟩
    · rintro a' w' ⟨rfl, u0, u1, u2, u4, u5, u6, u7, u8, u9, u10, u11, u12, u13, u14, u15, u16, u17, rfl⟩
      go_wp2
      try simp only [Exit.jump]
      go_ret
      exact ⟨rfl, rfl⟩

set_option maxHeartbeats 1000000 in
theorem wrap_count2 (p : Nat) (x y : Bool) (w : World) (hc : w.cell? ⟨p, 0, none⟩ = some (.bool x)) (hd : w.cell? ⟨p, 1, none⟩ = some (.bool y)) :
    Calls Try.prog 77 #[.slice (some ⟨p, 0, none⟩) 2 2] w fun e w' => e = .returned (.int .i64 (if x then (if y then 2 else 1) else 0)) ∧ w = w' := by
  cases x
  · show Calls _ _ _ _ fun e w' => e = .returned (.int .i64 0) ∧ w = w'
    go_enter Try.func77, Try.ntmps77
    go_wp2
    refine wp_scope_jumps 0 (fun a' w' => w' = w ∧ ∃ u0 u1 u2 u4 u5 u6 u7 u8 u9 u10 u11 u12 u13 u14 u15 u16 u17 : Value, a' = { tmps := #[u0, u1, u2, .int .i64 0, u4, u5, u6, u7, u8, u9, u10, u11, u12, u13, u14, u15, u16, u17], defers := [] }) (fun _ _ => 0) rfl ?_ ?_
    · go_wp2
      refine wp_loop_rounds 3 ?_
      iterate 1 (rw [rounds_succ]; go_wp2)
      refine wp_goto ?_
      refine ⟨rfl, rfl, _, _, _, _, _, _, _, _, _, _, _, _, _, _, _, _, _, rfl⟩
    · rintro a' w' ⟨rfl, u0, u1, u2, u4, u5, u6, u7, u8, u9, u10, u11, u12, u13, u14, u15, u16, u17, rfl⟩
      go_wp2
      try simp only [Exit.jump]
      go_ret
      exact ⟨rfl, rfl⟩
  cases y
  · show Calls _ _ _ _ fun e w' => e = .returned (.int .i64 1) ∧ w = w'
    go_enter Try.func77, Try.ntmps77
    go_wp2
    refine wp_scope_jumps 0 (fun a' w' => w' = w ∧ ∃ u0 u1 u2 u4 u5 u6 u7 u8 u9 u10 u11 u12 u13 u14 u15 u16 u17 : Value, a' = { tmps := #[u0, u1, u2, .int .i64 1, u4, u5, u6, u7, u8, u9, u10, u11, u12, u13, u14, u15, u16, u17], defers := [] }) (fun _ _ => 0) rfl ?_ ?_
    · go_wp2
      refine wp_loop_rounds 3 ?_
      iterate 2 (rw [rounds_succ]; go_wp2)
      refine wp_goto ?_
      refine ⟨rfl, rfl, _, _, _, _, _, _, _, _, _, _, _, _, _, _, _, _, _, rfl⟩
    · rintro a' w' ⟨rfl, u0, u1, u2, u4, u5, u6, u7, u8, u9, u10, u11, u12, u13, u14, u15, u16, u17, rfl⟩
      go_wp2
      try simp only [Exit.jump]
      go_ret
      exact ⟨rfl, rfl⟩
  · show Calls _ _ _ _ fun e w' => e = .returned (.int .i64 2) ∧ w = w'
    go_enter Try.func77, Try.ntmps77
    go_wp2
    refine wp_scope_jumps 0 (fun a' w' => w' = w ∧ ∃ u0 u1 u2 u4 u5 u6 u7 u8 u9 u10 u11 u12 u13 u14 u15 u16 u17 : Value, a' = { tmps := #[u0, u1, u2, .int .i64 2, u4, u5, u6, u7, u8, u9, u10, u11, u12, u13, u14, u15, u16, u17], defers := [] }) (fun _ _ => 0) rfl ?_ ?_
    · go_wp2
      refine wp_loop_rounds 3 ?_
      iterate 3 (rw [rounds_succ]; go_wp2)
      go_step3
      go_wp2
      simp only [Exit.jump]
      go_ret
      exact ⟨rfl, rfl⟩
    · rintro a' w' ⟨rfl, u0, u1, u2, u4, u5, u6, u7, u8, u9, u10, u11, u12, u13, u14, u15, u16, u17, rfl⟩
      go_wp2
      try simp only [Exit.jump]
      go_ret
      exact ⟨rfl, rfl⟩
end Go.Proofs.Ytdphjfppfngcmaa
