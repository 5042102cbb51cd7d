/- What cong.product, cong.inverse, cong.steps return. Layer 5. -/
import Derived.Test.YtbjdiaakhlgcgaaCongM
import Derived.Test.YtbjdiaakhlgcgaaCongL
import Derived.Test.YtbjdiaakhlgcgaaDivC
namespace Go.Proofs.Ytbjdiaakhlgcgaa
open Go.RowKit

set_option maxHeartbeats 1000000 in
theorem cong_product (a b m : Int) (ha : 0 ≤ a) (ha' : a < m) (hb : 0 ≤ b) (hb' : b < m) (hm : I64 m) (w : World) :
    Calls Try.prog 68 #[.int .i64 a, .int .i64 b, .int .i64 m] w fun e w' => e = .returned (.int .i64 (a * b % m)) ∧ Below w.heap.size w w' := by
  unfold I64 at hm
  have p0 : 0 ≤ a * b := Int.mul_nonneg ha hb
  have p1 : a * b ≤ 9223372036854775807 * 9223372036854775807 := Int.mul_le_mul (by omega) (by omega) hb (by omega)
  have HM := Lib.hid (bits_mul64 a b (by unfold U64 M64; omega) (by unfold U64 M64; omega))
  have e1 : a * b / 18446744073709551616 * 18446744073709551616 + a * b % 18446744073709551616 = a * b := by omega
  have hr := bits_rem64 (a * b / 18446744073709551616) (a * b % 18446744073709551616) m (by unfold U64 M64; omega) (by unfold U64 M64; omega) (by unfold U64 M64; omega) (by omega)
  rw [e1] at hr
  have HR := Lib.hid hr
  clear hr e1
  have r0 := Int.emod_nonneg (a * b) (show m ≠ 0 by omega)
  have r1 := Int.emod_lt_of_pos (a * b) (show 0 < m by omega)
  generalize a * b % m = r at *
  generalize a * b / 18446744073709551616 = h at *
  generalize a * b % 18446744073709551616 = l at *
  have w1 : IntKind.u64.wrap a = a := by rw [wrapu]; omega
  have w2 : IntKind.u64.wrap b = b := by rw [wrapu]; omega
  have w3 : IntKind.u64.wrap m = m := by rw [wrapu]; omega
  have w4 : wrap64 r = r := by unfold wrap64; omega
  go_enter Try.func68, Try.ntmps68
  go_wp2_with (first | (go_at_call 65; (with_reducible refine (HM.out _).mono ?_); rintro e w1 ⟨rfl, rfl⟩) | (go_at_call 75; (with_reducible refine (HR.out _).mono ?_); rintro e w1 ⟨rfl, hb1⟩; obtain ⟨hc1, hf1⟩ := bcell hb1; have hz1 := hb1.size; (try simp at hz1); (try have hy1 := Nat.lt_of_succ_le hz1); (try have hv1 := Nat.lt_of_succ_lt hy1); (try have hw10 : w.heap.size < w1.heap.size := by omega); (try have hw11 : w.heap.size + 1 < w1.heap.size := by omega); (try have hw12 : w.heap.size + 1 + 1 < w1.heap.size := by omega); (try have hw13 : w.heap.size + 1 + 1 + 1 < w1.heap.size := by omega)))
  go_ret
  exact ⟨rfl, (by repeat (first | (with_reducible assumption) | (with_reducible exact Below.refl _ _) | (with_reducible refine Below.alloc ?_ (by first | omega | (simp; omega) | (simp; done) | (dsimp only; omega)) _) | (with_reducible refine Below.setCell ?_ (by first | omega | (simp; omega) | (simp; done) | (dsimp only; omega)) _) | (with_reducible refine Below.drew ?_) | (with_reducible refine Below.trans ?_ (Below.mono (by assumption) (by first | omega | (simp; omega) | (simp; done) | (dsimp only; omega))))))⟩

set_option maxRecDepth 100000 in
set_option maxHeartbeats 4000000 in
theorem cong_inverse (a m : Int) (h0 : 0 ≤ a) (h1 : a < m) (hm : I64 m) (hg : Int.gcd a m = 1) (w : World) :
    Calls Try.prog 69 #[.int .i64 a, .int .i64 m] w fun e w' => e = .returned (.int .i64 (invI a m)) ∧ Below w.heap.size w w' := by
  unfold I64 at hm
  have hI := InvI.start h0 h1 hg
  clear hg
  have HM : Hid (∀ x w, Calls Try.prog 38 #[.int .i64 x, .int .i64 m] w fun e w' => e = .returned (.int .i64 (x % m)) ∧ w = w') := Lib.hid (fun x w => by
    have := cong_mod x m (by unfold I64; omega) w
    rw [modI_pos (by omega)] at this; exact this)
  go_enter Try.func69, Try.ntmps69
  go_wp2
  try go_region
  try go_wp2
  refine wp_scope_jumps 0 (fun a' w' => Below w.heap.size w w' ∧ ∃ (r s x y : Int) (u2 u3 u9 u10 u11 u12 u13 u14 u15 u16 u17 u18 u19 u20 u21 u22 u23 u24 u25 u26 u27 u28 u29 u30 u31 : Value), a' = { tmps := #[.int .i64 a, .int .i64 m, u2, u3, .int .i64 0, .int .i64 r, .int .i64 s, .int .i64 x, .int .i64 y, u9, u10, u11, u12, u13, u14, u15, u16, u17, u18, u19, u20, u21, u22, u23, u24, u25, u26, u27, u28, u29, u30, u31], defers := [] } ∧ InvI a m r s x y)
    (fun a' _ => (intOf (a'.tmps.getD 6 undef)).toNat) rfl ?_ ?_
  · have hn := hI.next (show 0 < m by omega)
    rw [Int.ediv_eq_zero_of_lt h0 h1, Int.zero_mul, Int.zero_mul, Int.sub_zero, Int.sub_zero] at hn
    have HN := Lib.hid hn.1
    have qz : a.tdiv m = 0 := by rw [Int.tdiv_eq_ediv_of_nonneg h0]; exact Int.ediv_eq_zero_of_lt h0 h1
    have qz' : a / m = 0 := Int.ediv_eq_zero_of_lt h0 h1
    have m0 : (m == 0) = false := by simp; omega
    have m1 : ¬ m = 0 := by omega
    have wz : IntKind.i64.wrap 0 = 0 := IntWalk.i64_in _ (by omega)
    clear hn hI
    go_wp2
    go_step3
    go_wp2
    try go_region
    try go_wp2
    try go_region
    try go_wp2
    go_step3
    exact ⟨rfl, (by repeat (first | (with_reducible assumption) | (with_reducible exact Below.refl _ _) | (with_reducible refine Below.alloc ?_ (by first | omega | (simp; omega) | (simp; done) | (dsimp only; omega)) _) | (with_reducible refine Below.setCell ?_ (by first | omega | (simp; omega) | (simp; done) | (dsimp only; omega)) _) | (with_reducible refine Below.drew ?_) | (with_reducible refine Below.trans ?_ (Below.mono (by assumption) (by first | omega | (simp; omega) | (simp; done) | (dsimp only; omega)))))), m, a, 0, 1, _, _, _, _, _, _, _, _, _, _, _, _, _, _, _, _, _, _, _, _, _, _, _, _, _, rfl, HN.out⟩
  · rintro a' w' ⟨hB, r, s, x, y, u2, u3, u9, u10, u11, u12, u13, u14, u15, u16, u17, u18, u19, u20, u21, u22, u23, u24, u25, u26, u27, u28, u29, u30, u31, rfl, hJ⟩
    by_cases hs : s = 0
    · subst hs
      have hd := hJ.done (show 0 < m by omega)
      have HD := Lib.hid hd
      clear hd hJ hI
      go_wp2_with (go_at_call 38; (with_reducible refine (HM.out _ _).mono ?_); rintro e w1 ⟨rfl, rfl⟩)
      simp only [Exit.jump]
      go_ret
      exact ⟨ret_int (by rw [HD.out]), (by repeat (first | (with_reducible assumption) | (with_reducible exact Below.refl _ _) | (with_reducible refine Below.alloc ?_ (by first | omega | (simp; omega) | (simp; done) | (dsimp only; omega)) _) | (with_reducible refine Below.setCell ?_ (by first | omega | (simp; omega) | (simp; done) | (dsimp only; omega)) _) | (with_reducible refine Below.drew ?_) | (with_reducible refine Below.trans ?_ (Below.mono (by assumption) (by first | omega | (simp; omega) | (simp; done) | (dsimp only; omega))))))⟩
    · have hs0 : 0 < s := by have := hJ.2.1; omega
      have hr0 := hJ.1
      obtain ⟨n0, n1, n2, n3, n4, n5, n6, n7, n8, n9⟩ := hJ.next hs0
      have hrm := hJ.2.2.1
      have ht : r.tdiv s = r / s := Int.tdiv_eq_ediv_of_nonneg hr0
      have r0 := n0.2.1
      have sb := n0.2.2.1
      clear hJ hI
      generalize hq : r / s = q at *
      generalize hqs : q * s = qs at *
      generalize hqy : q * y = qy at *
      have k0 : (s == 0) = false := by simpa using hs
      have w1 : IntKind.i64.wrap q = q := IntWalk.i64_in _ (by omega)
      have w2 : wrap64 q = q := by unfold wrap64; omega
      have HN := Lib.hid n0
      clear n0
      go_wp2
      try go_region
      try go_wp2
      try go_region
      try go_wp2
      go_step3
      exact ⟨rfl, ⟨(by repeat (first | (with_reducible assumption) | (with_reducible exact Below.refl _ _) | (with_reducible refine Below.alloc ?_ (by first | omega | (simp; omega) | (simp; done) | (dsimp only; omega)) _) | (with_reducible refine Below.setCell ?_ (by first | omega | (simp; omega) | (simp; done) | (dsimp only; omega)) _) | (with_reducible refine Below.drew ?_) | (with_reducible refine Below.trans ?_ (Below.mono (by assumption) (by first | omega | (simp; omega) | (simp; done) | (dsimp only; omega)))))), s, r - qs, y, x - qy, _, _, _, _, _, _, _, _, _, _, _, _, _, _, _, _, _, _, _, _, _, _, _, _, _, rfl, HN.out⟩, by simp [intOf]; omega⟩
end Go.Proofs.Ytbjdiaakhlgcgaa
