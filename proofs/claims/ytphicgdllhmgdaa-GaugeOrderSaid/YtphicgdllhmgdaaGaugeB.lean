/- What the functions of package gauge return at the few numbers that the law's own trial takes: layer 35. -/
import Derived.Test.YtphicgdllhmgdaaGaugeA
import Derived.Laws.ComplexArith
import Derived.RegionTactic
import Derived.ChangeAlike
namespace Go.Proofs.Ytphicgdllhmgdaa
open Go.RowKit

set_option maxHeartbeats 1000000 in
theorem gauge_new (w : World) : Calls Try.prog 44 #[] w fun e w' => e = .returned (.pointer (some ⟨w.heap.size, 0, none⟩)) ∧ w' = w.alloc (.cells #[.complex .f64 0 0] 74) := by
  go_enter Try.func44, Try.ntmps44
  go_wp2
  go_ret
  exact ⟨rfl, rfl⟩

set_option maxHeartbeats 1000000 in
theorem gauge_part1 (w : World) : Calls Try.prog 64 #[.int .i64 1] w fun e w' => e = .returned (.float .f64 4607182418800017408) ∧ w = w' := by
  go_enter Try.func64, Try.ntmps64
  go_wp2
  go_ret
  exact ⟨rfl, rfl⟩

set_option maxHeartbeats 1000000 in
theorem gauge_inc1 (p : Nat) (w : World) (hc : w.cell? ⟨p, 0, none⟩ = some (.complex .f64 0 0)) (hf : w.frozen? ⟨p, 0, none⟩ = false) :
    Calls Try.prog 63 #[.pointer (some ⟨p, 0, none⟩), .complex .f64 4613937818241073152 4607182418800017408] w fun e w' => e = .returned (.tuple #[]) ∧ w' = w.setCell ⟨p, 0, none⟩ (.complex .f64 4613937818241073152 4607182418800017408) := by
  have kc := fun w : World => run_complex_sum (P := Try.prog) w .add (Or.inl rfl) 72 .f64 0 0 4613937818241073152 4607182418800017408 4613937818241073152 4607182418800017408 (by kernel_rfl)
  have k1 := fun w : World => (by kernel_rfl : (Builtin.min_ #[76, 76] 76 #[.float .f64 4613937818241073152, .float .f64 4841369599423283200]).run Try.prog w = .ok (.float .f64 4613937818241073152) w)
  have k2 := fun w : World => (by kernel_rfl : (Builtin.min_ #[76, 76] 76 #[.float .f64 4607182418800017408, .float .f64 4841369599423283200]).run Try.prog w = .ok (.float .f64 4607182418800017408) w)
  have ks := fun (w : World) (ad : Addr) (x y : Nat) => run_store Try.prog w ad (.complex .f64 x y) .plain rfl
  go_enter Try.func63, Try.ntmps63
  go_wp2
  go_end0
  exact ⟨rfl, rfl⟩

set_option maxHeartbeats 1000000 in
theorem gauge_inc2 (p : Nat) (w : World) (hc : w.cell? ⟨p, 0, none⟩ = some (.complex .f64 4613937818241073152 4607182418800017408)) (hf : w.frozen? ⟨p, 0, none⟩ = false) :
    Calls Try.prog 63 #[.pointer (some ⟨p, 0, none⟩), .complex .f64 4607182418800017408 4613937818241073152] w fun e w' => e = .returned (.tuple #[]) ∧ w' = w.setCell ⟨p, 0, none⟩ (.complex .f64 4616189618054758400 4616189618054758400) := by
  have kc := fun w : World => run_complex_sum (P := Try.prog) w .add (Or.inl rfl) 72 .f64 4613937818241073152 4607182418800017408 4607182418800017408 4613937818241073152 4616189618054758400 4616189618054758400 (by kernel_rfl)
  have k1 := fun w : World => (by kernel_rfl : (Builtin.min_ #[76, 76] 76 #[.float .f64 4616189618054758400, .float .f64 4841369599423283200]).run Try.prog w = .ok (.float .f64 4616189618054758400) w)
  have ks := fun (w : World) (ad : Addr) (x y : Nat) => run_store Try.prog w ad (.complex .f64 x y) .plain rfl
  go_enter Try.func63, Try.ntmps63
  go_wp2
  go_end0
  exact ⟨rfl, rfl⟩

set_option maxHeartbeats 1000000 in
theorem gauge_add31 (p : Nat) (w : World) (hc : w.cell? ⟨p, 0, none⟩ = some (.complex .f64 0 0)) (hf : w.frozen? ⟨p, 0, none⟩ = false) :
    Calls Try.prog 47 #[.pointer (some ⟨p, 0, none⟩), .int .i64 3, .int .i64 1] w fun e w' => e = .returned (.tuple #[]) ∧ w' = w.setCell ⟨p, 0, none⟩ (.complex .f64 4613937818241073152 4607182418800017408) := by
  go_enter Try.func47, Try.ntmps47
  go_wp2_with (first | (go_at_call 64; (with_reducible refine (gauge_part3 _).mono ?_); rintro e w1 ⟨rfl, rfl⟩) | (go_at_call 64; (with_reducible refine (gauge_part1 _).mono ?_); rintro e w1 ⟨rfl, rfl⟩) | (go_at_call 63; (with_reducible refine (gauge_inc1 p _ hc hf).mono ?_); rintro e w1 ⟨rfl, rfl⟩))
  go_end0
  exact ⟨rfl, rfl⟩

set_option maxHeartbeats 1000000 in
theorem gauge_add13 (p : Nat) (w : World) (hc : w.cell? ⟨p, 0, none⟩ = some (.complex .f64 4613937818241073152 4607182418800017408)) (hf : w.frozen? ⟨p, 0, none⟩ = false) :
    Calls Try.prog 47 #[.pointer (some ⟨p, 0, none⟩), .int .i64 1, .int .i64 3] w fun e w' => e = .returned (.tuple #[]) ∧ w' = w.setCell ⟨p, 0, none⟩ (.complex .f64 4616189618054758400 4616189618054758400) := by
  go_enter Try.func47, Try.ntmps47
  go_wp2_with (first | (go_at_call 64; (with_reducible refine (gauge_part1 _).mono ?_); rintro e w1 ⟨rfl, rfl⟩) | (go_at_call 64; (with_reducible refine (gauge_part3 _).mono ?_); rintro e w1 ⟨rfl, rfl⟩) | (go_at_call 63; (with_reducible refine (gauge_inc2 p _ hc hf).mono ?_); rintro e w1 ⟨rfl, rfl⟩))
  go_end0
  exact ⟨rfl, rfl⟩

set_option maxHeartbeats 1000000 in
theorem gauge_add_nil (a b : Int) (w : World) : Calls Try.prog 47 #[.pointer none, .int .i64 a, .int .i64 b] w fun e w' => e = .returned (.tuple #[]) ∧ w = w' := by
  go_enter Try.func47, Try.ntmps47
  go_wp2
  go_end0
  exact ⟨rfl, rfl⟩

set_option maxHeartbeats 1000000 in
theorem gauge_join_nil (p : Addr) (w : World) : Calls Try.prog 45 #[.pointer (some p), .pointer none] w fun e w' => e = .returned (.tuple #[]) ∧ w = w' := by
  go_enter Try.func45, Try.ntmps45
  go_wp2
  go_end0
  exact ⟨rfl, rfl⟩

set_option maxHeartbeats 1000000 in
theorem gauge_nil_join (q : Value) (w : World) : Calls Try.prog 45 #[.pointer none, q] w fun e w' => e = .returned (.tuple #[]) ∧ w = w' := by
  go_enter Try.func45, Try.ntmps45
  go_wp2
  go_end0
  exact ⟨rfl, rfl⟩

set_option maxHeartbeats 1000000 in
theorem gauge_parts_nil (w : World) : Calls Try.prog 49 #[.pointer none] w fun e w' => e = .returned (.tuple #[.int .i64 0, .int .i64 0]) ∧ w = w' := by
  go_enter Try.func49, Try.ntmps49
  go_wp2
  go_ret2
  exact ⟨rfl, rfl⟩

set_option maxHeartbeats 1000000 in
theorem gauge_parts0 (p : Nat) (w : World) (hc : w.cell? ⟨p, 0, none⟩ = some (.complex .f64 0 0)) :
    Calls Try.prog 49 #[.pointer (some ⟨p, 0, none⟩)] w fun e w' => e = .returned (.tuple #[.int .i64 0, .int .i64 0]) ∧ w' = w.drew := by
  have kv := fun w : World => (by kernel_rfl : (convert 76 3 (.float .f64 0)).run Try.prog w = .ok (.int .i64 0) w)
  go_enter Try.func49, Try.ntmps49
  go_wp2
  go_region
  go_wp2
  go_ret2
  exact ⟨rfl, rfl⟩

set_option maxHeartbeats 1000000 in
theorem gauge_parts4 (p : Nat) (w : World) (hc : w.cell? ⟨p, 0, none⟩ = some (.complex .f64 4616189618054758400 4616189618054758400)) :
    Calls Try.prog 49 #[.pointer (some ⟨p, 0, none⟩)] w fun e w' => e = .returned (.tuple #[.int .i64 4, .int .i64 4]) ∧ w' = w.drew := by
  have kv := fun w : World => (by kernel_rfl : (convert 76 3 (.float .f64 4616189618054758400)).run Try.prog w = .ok (.int .i64 4) w)
  go_enter Try.func49, Try.ntmps49
  go_wp2
  go_region
  go_wp2
  go_ret2
  exact ⟨rfl, rfl⟩

set_option maxHeartbeats 1000000 in
theorem gauge_share_nil (w : World) : Calls Try.prog 50 #[.pointer none] w fun e w' => e = .returned (.int .i64 0) ∧ w = w' := by
  go_enter Try.func50, Try.ntmps50
  go_wp2_with (go_at_call 49; (with_reducible refine (gauge_parts_nil _).mono ?_); rintro e w1 ⟨rfl, rfl⟩)
  go_ret
  exact ⟨rfl, rfl⟩

set_option maxHeartbeats 1000000 in
theorem gauge_share4 (p : Nat) (w : World) (hc : w.cell? ⟨p, 0, none⟩ = some (.complex .f64 4616189618054758400 4616189618054758400)) :
    Calls Try.prog 50 #[.pointer (some ⟨p, 0, none⟩)] w fun e w' => e = .returned (.int .i64 500) ∧ w' = w.drew := by
  go_enter Try.func50, Try.ntmps50
  go_wp2_with (go_at_call 49; (with_reducible refine (gauge_parts4 _ _ hc).mono ?_); rintro e w1 ⟨rfl, rfl⟩)
  go_ret
  exact ⟨rfl, rfl⟩
end Go.Proofs.Ytphicgdllhmgdaa
