/- X-PARTIAL What sondageref01.Neg, Sub, Of return. -/
import Derived.Test.YtbjdiaakhlgcgaaRefB
import Derived.Test.YtbjdiaakhlgcgaaMathC
namespace Go.Proofs.Ytbjdiaakhlgcgaa
open Go.RowKit

set_option maxRecDepth 100000 in
set_option maxHeartbeats 1000000 in
theorem r_neg (a b : Int) (hb : U64 b) (w : World) :
    Calls Try.prog 61 #[.agg #[.int .i64 a, .int .u64 b]] w fun e w' =>
      e = .returned (.agg #[.int .i64 (hiW (wrap128 (-wv a b))), .int .u64 (loW (wrap128 (-wv a b)))]) ∧ Below w.heap.size w w' := by
  have q0 := dg_D16 0 b
  have q1 := dg_D16 1 b
  have q2 := dg_D16 2 b
  have q3 := dg_D16 3 b
  have q4 := dg_D16 0 (IntKind.u64.wrap a)
  have q5 := dg_D16 1 (IntKind.u64.wrap a)
  have q6 := dg_D16 2 (IntKind.u64.wrap a)
  have q7 := dg_D16 3 (IntKind.u64.wrap a)
  have f0 := dig_flip q0
  have f1 := dig_flip q1
  have f2 := dig_flip q2
  have f3 := dig_flip q3
  have f4 := dig_flip q4
  have f5 := dig_flip q5
  have f6 := dig_flip q6
  have f7 := dig_flip q7
  unfold D16 at q0 q1 q2 q3 q4 q5 q6 q7
  have HW := Lib.hid (r_wide _ _ _ _ _ _ _ _ f0 f1 f2 f3 f4 f5 f6 f7)
  have HA := Lib.hid (fun w => r_add (wrap64 (cat4 (65535 - dg 0 (IntKind.u64.wrap a)) (65535 - dg 1 (IntKind.u64.wrap a)) (65535 - dg 2 (IntKind.u64.wrap a)) (65535 - dg 3 (IntKind.u64.wrap a)))) _ 0 1 (cat4_U64 f0 f1 f2 f3) U64_1 w)
  rw [neg_hl a b hb] at HA
  clear f0 f1 f2 f3 f4 f5 f6 f7
  go_enter Try.func61, Try.ntmps61
  go_wp2_with (go_at_call 70; refine (r_digits _ _ (by assumption) _).mono ?_; rintro e w1 ⟨rfl, C1, C2, C3, rfl⟩)
  refine wp_loop_rounds 9 ?_
  iterate 8 (rw [rounds_succ]; go_wp2)
  rw [rounds_succ]
  go_wp2_with (first | (go_at_call 71; (with_reducible refine (HW.out _).mono ?_); rintro e w1 ⟨rfl, hb1⟩; obtain ⟨hc1, hf1⟩ := bcell hb1; have hz1 := hb1.size; (try simp at hz1); (try have hy1 := Nat.lt_of_succ_le hz1); (try have hv1 := Nat.lt_of_succ_lt hy1); (try have hw10 : w.heap.size < w1.heap.size := by omega); (try have hw11 : w.heap.size + 1 < w1.heap.size := by omega); (try have hw12 : w.heap.size + 1 + 1 < w1.heap.size := by omega); (try have hw13 : w.heap.size + 1 + 1 + 1 < w1.heap.size := by omega)) | (go_at_call 62; (with_reducible refine (HA.out _).mono ?_); rintro e w1 ⟨rfl, hb1⟩; obtain ⟨hc1, hf1⟩ := bcell hb1; have hz1 := hb1.size; (try simp at hz1); (try have hy1 := Nat.lt_of_succ_le hz1); (try have hv1 := Nat.lt_of_succ_lt hy1); (try have hw10 : w.heap.size < w1.heap.size := by omega); (try have hw11 : w.heap.size + 1 < w1.heap.size := by omega); (try have hw12 : w.heap.size + 1 + 1 < w1.heap.size := by omega); (try have hw13 : w.heap.size + 1 + 1 + 1 < w1.heap.size := by omega)))
  exact bodyPost_ret (by simp [results, Try.results61, go_sem, *] <;> rfl) rfl ⟨rfl, (by repeat (first | (with_reducible assumption) | (with_reducible exact Below.refl _ _) | (with_reducible refine Below.alloc ?_ (by first | omega | (simp; omega) | (simp; done) | (dsimp only; omega)) _) | (with_reducible refine Below.setCell ?_ (by first | omega | (simp; omega) | (simp; done) | (dsimp only; omega)) _) | (with_reducible refine Below.drew ?_) | (with_reducible refine Below.trans ?_ (Below.mono (by assumption) (by first | omega | (simp; omega) | (simp; done) | (dsimp only; omega))))))⟩

set_option maxHeartbeats 1000000 in
theorem r_of (n : Int) (hn : I64 n) (w : World) :
    Calls Try.prog 60 #[.int .i64 n] w fun e w' => e = .returned (.agg #[.int .i64 (hiW n), .int .u64 (loW n)]) ∧ Below w.heap.size w w' := by
  by_cases h : n < 0
  · have e := neg_of n hn h
    have HA := Lib.hid (fun w => r_add 0 ((-(n + 1))) 0 1 (U64_neg hn h) U64_1 w)
    have HN := Lib.hid (fun w => r_neg (hiW (wrap128 (wv 0 ((-(n + 1))) + wv 0 1))) (loW (wrap128 (wv 0 ((-(n + 1))) + wv 0 1))) (U64.lo _) w)
    rw [wv_hilo, e] at HN
    have n1 : -9223372036854775808 ≤ n := hn.1
    clear e hn
    go_enter Try.func60, Try.ntmps60
    go_wp2_with (first | (go_at_call 62; (with_reducible refine (HA.out _).mono ?_); rintro e w1 ⟨rfl, hb1⟩; obtain ⟨hc1, hf1⟩ := bcell hb1; have hz1 := hb1.size; (try simp at hz1); (try have hy1 := Nat.lt_of_succ_le hz1); (try have hv1 := Nat.lt_of_succ_lt hy1); (try have hw10 : w.heap.size < w1.heap.size := by omega); (try have hw11 : w.heap.size + 1 < w1.heap.size := by omega); (try have hw12 : w.heap.size + 1 + 1 < w1.heap.size := by omega); (try have hw13 : w.heap.size + 1 + 1 + 1 < w1.heap.size := by omega)) | (go_at_call 61; (with_reducible refine (HN.out _).mono ?_); rintro e w1 ⟨rfl, hb1⟩; obtain ⟨hc1, hf1⟩ := bcell hb1; have hz1 := hb1.size; (try simp at hz1); (try have hy1 := Nat.lt_of_succ_le hz1); (try have hv1 := Nat.lt_of_succ_lt hy1); (try have hw10 : w.heap.size < w1.heap.size := by omega); (try have hw11 : w.heap.size + 1 < w1.heap.size := by omega); (try have hw12 : w.heap.size + 1 + 1 < w1.heap.size := by omega); (try have hw13 : w.heap.size + 1 + 1 + 1 < w1.heap.size := by omega)))
    exact bodyPost_ret (by simp [results, Try.results60, go_sem, *] <;> rfl) rfl ⟨rfl, (by repeat (first | (with_reducible assumption) | (with_reducible exact Below.refl _ _) | (with_reducible refine Below.alloc ?_ (by first | omega | (simp; omega) | (simp; done) | (dsimp only; omega)) _) | (with_reducible refine Below.setCell ?_ (by first | omega | (simp; omega) | (simp; done) | (dsimp only; omega)) _) | (with_reducible refine Below.drew ?_) | (with_reducible refine Below.trans ?_ (Below.mono (by assumption) (by first | omega | (simp; omega) | (simp; done) | (dsimp only; omega))))))⟩
  · rw [← of_hi n hn, ← of_lo n]
    have e : n / 9223372036854775808 = 0 := by unfold I64 at hn; omega
    rw [e]; clear e
    go_enter Try.func60, Try.ntmps60
    go_wp2
    exact bodyPost_ret (by simp [results, Try.results60, go_sem, *] <;> rfl) rfl ⟨rfl, (by repeat (first | (with_reducible assumption) | (with_reducible exact Below.refl _ _) | (with_reducible refine Below.alloc ?_ (by first | omega | (simp; omega) | (simp; done) | (dsimp only; omega)) _) | (with_reducible refine Below.setCell ?_ (by first | omega | (simp; omega) | (simp; done) | (dsimp only; omega)) _) | (with_reducible refine Below.drew ?_) | (with_reducible refine Below.trans ?_ (Below.mono (by assumption) (by first | omega | (simp; omega) | (simp; done) | (dsimp only; omega))))))⟩
end Go.Proofs.Ytbjdiaakhlgcgaa
