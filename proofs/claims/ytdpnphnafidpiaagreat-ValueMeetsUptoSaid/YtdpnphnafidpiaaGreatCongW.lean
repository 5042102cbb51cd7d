/- Texts CongN, CongO, CongP, CongQ. -/
import Derived.Test.YtdpnphnafidpiaaGreatCongM
import Derived.Test.YtdpnphnafidpiaaGreatCongY
import Derived.Test.YtdpnphnafidpiaaGreatDivZ
import Derived.Test.YtdpnphnafidpiaaGreatCongX
/- What cong.product, cong.inverse, cong.steps return. Layer 5. -/
namespace Go.Proofs.YtdpnphnafidpiaaGreat
open Go.RowKit

set_option maxRecDepth 100000 in
set_option maxHeartbeats 1000000 in
theorem cong_product (a b m : Int) (ha : 0 ≤ a) (ha' : a < m) (hb : 0 ≤ b) (hb' : b < m) (hm : I64 m) (w : World) :
    Calls Tryz.prog 105 #[.int .i64 a, .int .i64 b, .int .i64 m] w fun e w' => e = .returned (.int .i64 (a * b % m)) ∧ Below w.heap.size w w' := by
  unfold I64 at hm
  have p0 : 0 ≤ a * b := Int.mul_nonneg ha hb
  have p1 : a * b ≤ 9223372036854775807 * 9223372036854775807 := Int.mul_le_mul (by omega) (by omega) hb (by omega)
  have HM := Lib.hid (bits_mul64 a b (by unfold U64 M64; omega) (by unfold U64 M64; omega))
  have e1 : a * b / 18446744073709551616 * 18446744073709551616 + a * b % 18446744073709551616 = a * b := by omega
  have hr := bits_rem64 (a * b / 18446744073709551616) (a * b % 18446744073709551616) m (by unfold U64 M64; omega) (by unfold U64 M64; omega) (by unfold U64 M64; omega) (by omega)
  rw [e1] at hr
  have HR := Lib.hid hr
  clear hr e1
  have r0 := Int.emod_nonneg (a * b) (show m ≠ 0 by omega)
  have r1 := Int.emod_lt_of_pos (a * b) (show 0 < m by omega)
  generalize a * b % m = r at *
  generalize a * b / 18446744073709551616 = h at *
  generalize a * b % 18446744073709551616 = l at *
  have w1 : IntKind.u64.wrap a = a := by rw [wrapu]; omega
  have w2 : IntKind.u64.wrap b = b := by rw [wrapu]; omega
  have w3 : IntKind.u64.wrap m = m := by rw [wrapu]; omega
  have w4 : wrap64 r = r := by unfold wrap64; omega
  go_enter Tryz.func105, Tryz.ntmps105
  go_wp2_with (first | (go_at_call 103; (with_reducible refine (HM.out _).mono ?_); rintro e w1 ⟨rfl, rfl⟩) | (go_at_call 111; (with_reducible refine (HR.out _).mono ?_); rintro e w1 ⟨rfl, hb1⟩; obtain ⟨hc1, hf1⟩ := bcell hb1; have hz1 := hb1.size; (try simp at hz1); (try have hy1 := Nat.lt_of_succ_le hz1); (try have hv1 := Nat.lt_of_succ_lt hy1); (try have hw10 : w.heap.size < w1.heap.size := by omega); (try have hw11 : w.heap.size + 1 < w1.heap.size := by omega); (try have hw12 : w.heap.size + 1 + 1 < w1.heap.size := by omega); (try have hw13 : w.heap.size + 1 + 1 + 1 < w1.heap.size := by omega)))
  go_ret
  exact ⟨rfl, (by repeat (first | (with_reducible assumption) | (with_reducible exact Below.refl _ _) | (with_reducible refine Below.alloc ?_ (by first | omega | (simp; omega) | (simp; done) | (dsimp only; omega)) _) | (with_reducible refine Below.setCell ?_ (by first | omega | (simp; omega) | (simp; done) | (dsimp only; omega)) _) | (with_reducible refine Below.drew ?_) | (with_reducible refine Below.trans ?_ (Below.mono (by assumption) (by first | omega | (simp; omega) | (simp; done) | (dsimp only; omega))))))⟩

set_option maxRecDepth 100000 in
set_option maxHeartbeats 4000000 in
theorem cong_inverse (a m : Int) (h0 : 0 ≤ a) (h1 : a < m) (hm : I64 m) (hg : Int.gcd a m = 1) (w : World) :
    Calls Tryz.prog 106 #[.int .i64 a, .int .i64 m] w fun e w' => e = .returned (.int .i64 (invI a m)) ∧ Below w.heap.size w w' := by
  unfold I64 at hm
  have hI := InvI.start h0 h1 hg
  clear hg
  have HM : Hid (∀ x w, Calls Tryz.prog 96 #[.int .i64 x, .int .i64 m] w fun e w' => e = .returned (.int .i64 (x % m)) ∧ w = w') := Lib.hid (fun x w => by
    have := cong_mod x m (by unfold I64; omega) w
    rw [modI_pos (by omega)] at this; exact this)
  go_enter Tryz.func106, Tryz.ntmps106
  go_wp2
  try go_region
  try go_wp2
  refine wp_scope_jumps 0 (fun a' w' => Below w.heap.size w w' ∧ ∃ (r s x y : Int) (u2 u3 u9 u10 u11 u12 u13 u14 u15 u16 u17 u18 u19 u20 u21 u22 u23 u24 u25 u26 u27 u28 u29 u30 u31 : Value), a' = { tmps := #[.int .i64 a, .int .i64 m, u2, u3, .int .i64 0, .int .i64 r, .int .i64 s, .int .i64 x, .int .i64 y, u9, u10, u11, u12, u13, u14, u15, u16, u17, u18, u19, u20, u21, u22, u23, u24, u25, u26, u27, u28, u29, u30, u31], defers := [] } ∧ InvI a m r s x y)
    (fun a' _ => (intOf (a'.tmps.getD 6 undef)).toNat) rfl ?_ ?_
  · have hn := hI.next (show 0 < m by omega)
    rw [Int.ediv_eq_zero_of_lt h0 h1, Int.zero_mul, Int.zero_mul, Int.sub_zero, Int.sub_zero] at hn
    have HN := Lib.hid hn.1
    have qz : a.tdiv m = 0 := by rw [Int.tdiv_eq_ediv_of_nonneg h0]; exact Int.ediv_eq_zero_of_lt h0 h1
    have qz' : a / m = 0 := Int.ediv_eq_zero_of_lt h0 h1
    have m0 : (m == 0) = false := by simp; omega
    have m1 : ¬ m = 0 := by omega
    have wz : IntKind.i64.wrap 0 = 0 := IntWalk.i64_in _ (by omega)
    clear hn hI
    go_wp2
    go_step3
    go_wp2
    try go_region
    try go_wp2
    try go_region
    try go_wp2
    go_step3
    exact ⟨rfl, (by repeat (first | (with_reducible assumption) | (with_reducible exact Below.refl _ _) | (with_reducible refine Below.alloc ?_ (by first | omega | (simp; omega) | (simp; done) | (dsimp only; omega)) _) | (with_reducible refine Below.setCell ?_ (by first | omega | (simp; omega) | (simp; done) | (dsimp only; omega)) _) | (with_reducible refine Below.drew ?_) | (with_reducible refine Below.trans ?_ (Below.mono (by assumption) (by first | omega | (simp; omega) | (simp; done) | (dsimp only; omega)))))), m, a, 0, 1, _, _, _, _, _, _, _, _, _, _, _, _, _, _, _, _, _, _, _, _, _, _, _, _, _, rfl, HN.out⟩
  · rintro a' w' ⟨hB, r, s, x, y, u2, u3, u9, u10, u11, u12, u13, u14, u15, u16, u17, u18, u19, u20, u21, u22, u23, u24, u25, u26, u27, u28, u29, u30, u31, rfl, hJ⟩
    by_cases hs : s = 0
    · subst hs
      have hd := hJ.done (show 0 < m by omega)
      have HD := Lib.hid hd
      clear hd hJ hI
      go_wp2_with (go_at_call 96; (with_reducible refine (HM.out _ _).mono ?_); rintro e w1 ⟨rfl, rfl⟩)
      simp only [Exit.jump]
      go_ret
      exact ⟨ret_int (by rw [HD.out]), (by repeat (first | (with_reducible assumption) | (with_reducible exact Below.refl _ _) | (with_reducible refine Below.alloc ?_ (by first | omega | (simp; omega) | (simp; done) | (dsimp only; omega)) _) | (with_reducible refine Below.setCell ?_ (by first | omega | (simp; omega) | (simp; done) | (dsimp only; omega)) _) | (with_reducible refine Below.drew ?_) | (with_reducible refine Below.trans ?_ (Below.mono (by assumption) (by first | omega | (simp; omega) | (simp; done) | (dsimp only; omega))))))⟩
    · have hs0 : 0 < s := by have := hJ.2.1; omega
      have hr0 := hJ.1
      obtain ⟨n0, n1, n2, n3, n4, n5, n6, n7, n8, n9⟩ := hJ.next hs0
      have hrm := hJ.2.2.1
      have ht : r.tdiv s = r / s := Int.tdiv_eq_ediv_of_nonneg hr0
      have r0 := n0.2.1
      have sb := n0.2.2.1
      clear hJ hI
      generalize hq : r / s = q at *
      generalize hqs : q * s = qs at *
      generalize hqy : q * y = qy at *
      have k0 : (s == 0) = false := by simpa using hs
      have w1 : IntKind.i64.wrap q = q := IntWalk.i64_in _ (by omega)
      have w2 : wrap64 q = q := by unfold wrap64; omega
      have HN := Lib.hid n0
      clear n0
      go_wp2
      try go_region
      try go_wp2
      try go_region
      try go_wp2
      go_step3
      exact ⟨rfl, ⟨(by repeat (first | (with_reducible assumption) | (with_reducible exact Below.refl _ _) | (with_reducible refine Below.alloc ?_ (by first | omega | (simp; omega) | (simp; done) | (dsimp only; omega)) _) | (with_reducible refine Below.setCell ?_ (by first | omega | (simp; omega) | (simp; done) | (dsimp only; omega)) _) | (with_reducible refine Below.drew ?_) | (with_reducible refine Below.trans ?_ (Below.mono (by assumption) (by first | omega | (simp; omega) | (simp; done) | (dsimp only; omega)))))), s, r - qs, y, x - qy, _, _, _, _, _, _, _, _, _, _, _, _, _, _, _, _, _, _, _, _, _, _, _, _, _, rfl, HN.out⟩, by simp [intOf]; omega⟩
end Go.Proofs.YtdpnphnafidpiaaGreat

/- What cong.steps and cong.Meet return. Layer 5. -/
namespace Go.Proofs.YtdpnphnafidpiaaGreat
open Go.RowKit

set_option maxRecDepth 100000 in
set_option maxHeartbeats 4000000 in
theorem cong_steps (x y : Cg) (hx : x.std) (hy : y.std) (h1 : 0 < x.m) (h2 : 0 < y.m) (ha : x.agrees y = true) (w : World) :
    Calls Tryz.prog 88 #[.agg #[.bool x.s, .int .i64 x.m, .int .i64 x.r], .agg #[.bool y.s, .int .i64 y.m, .int .i64 y.r]] w fun e w' => e = .returned (.int .i64 (x.stepsI y)) ∧ Below w.heap.size w w' := by
  have HC := Lib.hid (cong_common x y hx.1.1 (by omega) hy.1.1 (by omega))
  obtain ⟨g, a, b, i, e1, hg, e2, e3, e4, e5, pa, pb, hco, e6, i0, i1, i2, e7⟩ := gcd_parts h1 h2
  have hxr := hx.2.2.2 h1
  have hyr := hy.2.2.2 h2
  have hxm := hx.1.1
  have hym := hy.1.1
  have hxr2 := hx.1.2
  have hyr2 := hy.1.2
  unfold I64 at hxm hym hxr2 hyr2
  unfold Cg.agrees at ha
  rw [e1, modI_pos hg, modI_pos hg, beq_iff_eq] at ha
  have hd : g ∣ y.r - x.r := Int.dvd_of_emod_eq_zero (Int.emod_eq_emod_iff_emod_sub_eq_zero.1 ha.symm)
  have hq : (y.r - x.r).tdiv g = (y.r - x.r) / g := Int.tdiv_eq_ediv_of_dvd hd
  have hs : x.stepsI y = (y.r - x.r) / g % b * i % b := by
    unfold Cg.stepsI
    rw [e1, e5, e4, modI_pos pb, modI_pos pb, e6]
  rw [hs]
  rw [e1] at HC
  have t1 : x.m.tdiv g = a := by rw [Int.tdiv_eq_ediv_of_nonneg (by omega)]; exact e4
  have t2 : y.m.tdiv g = b := by rw [Int.tdiv_eq_ediv_of_nonneg (by omega)]; exact e5
  have a1 : a ≤ x.m := by rw [← e4]; exact Int.ediv_le_self _ (by omega)
  have b1 : b ≤ y.m := by rw [← e5]; exact Int.ediv_le_self _ (by omega)
  obtain ⟨δ, hδ⟩ := hd
  have hδ2 : (y.r - x.r) / g = δ := by rw [hδ]; exact Int.mul_ediv_cancel_left δ (by omega)
  rw [hδ2] at hq ⊢
  have dB : -9223372036854775808 < δ ∧ δ < 9223372036854775808 := by
    constructor
    · apply Classical.byContradiction; intro h
      have : (g - 1) * δ ≤ 0 := Int.mul_nonpos_of_nonneg_of_nonpos (by omega) (by omega)
      rw [Int.sub_mul, Int.one_mul] at this
      omega
    · apply Classical.byContradiction; intro h
      have : 1 * δ ≤ g * δ := Int.mul_le_mul_of_nonneg_right (by omega) (by omega)
      omega
  have HD := Lib.hid hδ
  have d0 := Int.emod_nonneg δ (show b ≠ 0 by omega)
  have d1 := Int.emod_lt_of_pos δ pb
  have c0 := Int.emod_nonneg a (show b ≠ 0 by omega)
  have c1 := Int.emod_lt_of_pos a pb
  have M1 : Hid (∀ w, Calls Tryz.prog 96 #[.int .i64 δ, .int .i64 b] w fun e w' => e = .returned (.int .i64 (δ % b)) ∧ w = w') := Lib.hid (fun w => by
    have := cong_mod δ b (by unfold I64; omega) w
    rw [modI_pos pb] at this; exact this)
  have M2 : Hid (∀ w, Calls Tryz.prog 96 #[.int .i64 a, .int .i64 b] w fun e w' => e = .returned (.int .i64 (a % b)) ∧ w = w') := Lib.hid (fun w => by
    have := cong_mod a b (by unfold I64; omega) w
    rw [modI_pos pb] at this; exact this)
  have hI := cong_inverse (a % b) b c0 c1 (by unfold I64; omega) hco
  rw [e6] at hI
  have HI := Lib.hid hI
  have HP := Lib.hid (cong_product (δ % b) i b d0 d1 i0 i1 (by unfold I64; omega))
  clear hI hs hδ e1 e2 e3 e6 e7 hco i2 ha
  generalize δ % b * i % b = k at *
  generalize δ % b = t at *
  generalize a % b = c at *
  have g0 : (g == 0) = false := by simp; omega
  have g1 : ¬ g = 0 := by omega
  have wd : IntKind.i64.wrap (y.r - x.r) = y.r - x.r := IntWalk.i64_in _ (by omega)
  have w1 : IntKind.i64.wrap a = a := IntWalk.i64_in _ (by omega)
  have w2 : IntKind.i64.wrap b = b := IntWalk.i64_in _ (by omega)
  have w3 : IntKind.i64.wrap δ = δ := IntWalk.i64_in _ (by omega)
  go_enter Tryz.func88, Tryz.ntmps88
  go_upto_region 1 with fail
  generalize hW : ((w.alloc (.cells #[.bool x.s, .int .i64 x.m, .int .i64 x.r] 25)).alloc (.cells #[.bool y.s, .int .i64 y.m, .int .i64 y.r] 25)) = W
  have q0_0 : W.cell? ⟨w.heap.size, 0, none⟩ = some (.bool x.s) := by rw [← hW]; simp [go_sem]
  have q0_1 : W.cell? ⟨w.heap.size, 1, none⟩ = some (.int .i64 x.m) := by rw [← hW]; simp [go_sem]
  have q0_2 : W.cell? ⟨w.heap.size, 2, none⟩ = some (.int .i64 x.r) := by rw [← hW]; simp [go_sem]
  have q1_0 : W.cell? ⟨w.heap.size + 1, 0, none⟩ = some (.bool y.s) := by rw [← hW]; simp [go_sem]
  have q1_1 : W.cell? ⟨w.heap.size + 1, 1, none⟩ = some (.int .i64 y.m) := by rw [← hW]; simp [go_sem]
  have q1_2 : W.cell? ⟨w.heap.size + 1, 2, none⟩ = some (.int .i64 y.r) := by rw [← hW]; simp [go_sem]
  have z0 : w.heap.size < W.heap.size := by rw [← hW]; first | (simp; done) | (simp; omega)
  have z1 : w.heap.size + 1 < W.heap.size := by rw [← hW]; first | (simp; done) | (simp; omega)
  have HW : Below w.heap.size w W := by rw [← hW]; exact (by repeat (first | (with_reducible assumption) | (with_reducible exact Below.refl _ _) | (with_reducible refine Below.alloc ?_ (by first | omega | (simp; omega) | (simp; done) | (dsimp only; omega)) _) | (with_reducible refine Below.setCell ?_ (by first | omega | (simp; omega) | (simp; done) | (dsimp only; omega)) _) | (with_reducible refine Below.drew ?_) | (with_reducible refine Below.trans ?_ (Below.mono (by assumption) (by first | omega | (simp; omega) | (simp; done) | (dsimp only; omega))))))
  clear hW
  go_wp2_with (go_at_call 86; (with_reducible refine (HC.out _).mono ?_); rintro e w1 ⟨rfl, hb1⟩; obtain ⟨hc1, hf1⟩ := bcell hb1; have hz1 := hb1.size; (try simp at hz1); (try have hy1 := Nat.lt_of_succ_le hz1); (try have hv1 := Nat.lt_of_succ_lt hy1); (try have hw10 : w.heap.size < w1.heap.size := by omega); (try have hw11 : w.heap.size + 1 < w1.heap.size := by omega); (try have hw12 : w.heap.size + 1 + 1 < w1.heap.size := by omega); (try have hw13 : w.heap.size + 1 + 1 + 1 < w1.heap.size := by omega))
  refine region_seq (S := fun w' => Below w1.heap.size w1 w') rfl (by kernel_rfl) (by kernel_rfl) (by repeat (first | (with_reducible assumption) | (with_reducible exact Below.refl _ _) | (with_reducible refine Below.alloc ?_ (by first | omega | (simp; omega) | (simp; done) | (dsimp only; omega)) _) | (with_reducible refine Below.setCell ?_ (by first | omega | (simp; omega) | (simp; done) | (dsimp only; omega)) _) | (with_reducible refine Below.drew ?_) | (with_reducible refine Below.trans ?_ (Below.mono (by assumption) (by first | omega | (simp; omega) | (simp; done) | (dsimp only; omega)))))) (fun fin hfin => ?_)
  iterate 20
    first
      | (refine SeqL.yes (v := ?_) (A' := ?_) rfl (by rfl) ?_ ?_ ?_
         rotate_left 2
         · intro w' K hS hK
           obtain ⟨hc, hf⟩ := bcell hS
           have hz := hS.size
           go_simp
           first
             | exact hK.out _ hS
             | (go_at_call 96; (with_reducible refine (M1.out _).mono ?_); rintro e w1 ⟨rfl, rfl⟩; exact hK.out _ hS)
             | (go_at_call 96; (with_reducible refine (M2.out _).mono ?_); rintro e w1 ⟨rfl, rfl⟩; exact hK.out _ hS)
             | (go_at_call 106; (with_reducible refine (HI.out _).mono ?_); rintro e w1 ⟨rfl, hb1⟩; exact hK.out _ (hS.trans (hb1.mono hz)))
             | (go_at_call 105; (with_reducible refine (HP.out _).mono ?_); rintro e w1 ⟨rfl, hb1⟩; exact hK.out _ (hS.trans (hb1.mono hz)))
             | trace_state
         · simp only [Act.put, List.setIfInBounds_toArray, List.set_cons_zero, List.set_cons_succ]; exact rfl)
      | (refine SeqL.no (A' := ?_) rfl (by rfl) ?_ ?_
         rotate_left
         · simp only [Act.put, List.setIfInBounds_toArray, List.set_cons_zero, List.set_cons_succ]; exact rfl)
  refine SeqL.nil (hfin.out _ ?_)
  clear hfin fin
  intro w1 hS1
  go_wp2
  go_ret
  exact ⟨rfl, (by repeat (first | (with_reducible assumption) | (with_reducible exact Below.refl _ _) | (with_reducible refine Below.alloc ?_ (by first | omega | (simp; omega) | (simp; done) | (dsimp only; omega)) _) | (with_reducible refine Below.setCell ?_ (by first | omega | (simp; omega) | (simp; done) | (dsimp only; omega)) _) | (with_reducible refine Below.drew ?_) | (with_reducible refine Below.trans ?_ (Below.mono (by assumption) (by first | omega | (simp; omega) | (simp; done) | (dsimp only; omega))))))⟩
end Go.Proofs.YtdpnphnafidpiaaGreat

/- What cong.Meet returns. Layer 5. -/
namespace Go.Proofs.YtdpnphnafidpiaaGreat
open Go.RowKit

def Cg.meetC (x y : Cg) : Cg :=
  if x.s = false then Cg.zero else if y.s = false then Cg.zero else if x.agrees y = false then Cg.zero else
    if x.m = 0 then x else if y.m = 0 then y else
      if lcmI x.m y.m ≤ 9223372036854775807 then Cg.of (lcmI x.m y.m) (x.r + x.m * x.stepsI y) else if x.m < y.m then y else x
def Cg.meet (a b : Cg) : Cg := Cg.meetC a.clean b.clean

set_option maxRecDepth 100000 in
set_option maxHeartbeats 4000000 in
theorem cong_meet (a b : Cg) (ha : a.ok) (hb : b.ok) (w : World) :
    Calls Tryz.prog 43 #[.agg #[.bool a.s, .int .i64 a.m, .int .i64 a.r], .agg #[.bool b.s, .int .i64 b.m, .int .i64 b.r]] w fun e w' => e = .returned (.agg #[.bool (a.meet b).s, .int .i64 (a.meet b).m, .int .i64 (a.meet b).r]) ∧ Below w.heap.size w w' := by
  have HA := Lib.hid (cong_clean a ha.1)
  have HB := Lib.hid (cong_clean b hb.1)
  have ox := Cg.clean_std ha
  have oy := Cg.clean_std hb
  have e : a.meet b = Cg.meetC a.clean b.clean := rfl
  rw [e]; clear e
  generalize a.clean = x at *
  generalize b.clean = y at *
  have HE : Hid (Cg.meetC x y = if x.s = false then Cg.zero else if y.s = false then Cg.zero else if x.agrees y = false then Cg.zero else
    if x.m = 0 then x else if y.m = 0 then y else
      if lcmI x.m y.m ≤ 9223372036854775807 then Cg.of (lcmI x.m y.m) (x.r + x.m * x.stepsI y) else if x.m < y.m then y else x) := Lib.hid rfl
  have HG : Hid (∀ w, Calls Tryz.prog 84 #[.agg #[.bool x.s, .int .i64 x.m, .int .i64 x.r], .agg #[.bool y.s, .int .i64 y.m, .int .i64 y.r]] w fun e w' => e = .returned (.bool (x.agrees y)) ∧ Below w.heap.size w w') := Lib.hid (cong_agree x y ox.1.1 ox.2.1 oy.1.1 oy.2.1)
  have hdr : ∀ w : World, w.drew.heap.size = w.heap.size := fun _ => rfl
  go_enter Tryz.func43, Tryz.ntmps43
  go_upto_region 1 with fail
  have hh0 := al3_0 w (.cells #[.bool a.s, .int .i64 a.m, .int .i64 a.r] 25) (.cells #[.bool b.s, .int .i64 b.m, .int .i64 b.r] 25) (.cells #[.bool false, .int .i64 0, .int .i64 0] 25)
  have hh1 := al3_1 w (.cells #[.bool a.s, .int .i64 a.m, .int .i64 a.r] 25) (.cells #[.bool b.s, .int .i64 b.m, .int .i64 b.r] 25) (.cells #[.bool false, .int .i64 0, .int .i64 0] 25)
  have hh2 := al3_2 w (.cells #[.bool a.s, .int .i64 a.m, .int .i64 a.r] 25) (.cells #[.bool b.s, .int .i64 b.m, .int .i64 b.r] 25) (.cells #[.bool false, .int .i64 0, .int .i64 0] 25)
  generalize hW : ((w.alloc (.cells #[.bool a.s, .int .i64 a.m, .int .i64 a.r] 25)).alloc (.cells #[.bool b.s, .int .i64 b.m, .int .i64 b.r] 25)).alloc (.cells #[.bool false, .int .i64 0, .int .i64 0] 25) = W at *
  have HW : Below w.heap.size w W := by rw [← hW]; exact (by repeat (first | (with_reducible assumption) | (with_reducible exact Below.refl _ _) | (with_reducible refine Below.alloc ?_ (by first | omega | (simp; omega) | (simp; done) | (dsimp only; omega)) _) | (with_reducible refine Below.setCell ?_ (by first | omega | (simp; omega) | (simp; done) | (dsimp only; omega)) _) | (with_reducible refine Below.drew ?_) | (with_reducible refine Below.trans ?_ (Below.mono (by assumption) (by first | omega | (simp; omega) | (simp; done) | (dsimp only; omega))))))
  clear hW
  have q0_0 := blk_cell hh0 0
  have q0_1 := blk_cell hh0 1
  have q0_2 := blk_cell hh0 2
  have q1_0 := blk_cell hh1 0
  have q1_1 := blk_cell hh1 1
  have q1_2 := blk_cell hh1 2
  simp only [List.getElem?_toArray, List.getElem?_cons_zero, List.getElem?_cons_succ] at q0_0 q0_1 q0_2 q1_0 q1_1 q1_2
  have z0 := blk_lt hh0
  have z1 := blk_lt hh1
  have z2 := blk_lt hh2
  have f0 := blk_free hh0
  have f1 := blk_free hh1
  have K0 := Lib.hid hh0; have K1 := Lib.hid hh1; have K2 := Lib.hid hh2; clear hh0 hh1 hh2
  refine region_seqg (W := W) [_, _, _, _] [_, _] rfl (by kernel_rfl) (by kernel_rfl) (by repeat (first | (with_reducible assumption) | (with_reducible exact Below.refl _ _) | (with_reducible refine Below.alloc ?_ (by first | omega | (simp; omega) | (simp; done) | (dsimp only; omega)) _) | (with_reducible refine Below.setCell ?_ (by first | omega | (simp; omega) | (simp; done) | (dsimp only; omega)) _) | (with_reducible refine Below.drew ?_) | (with_reducible refine Below.trans ?_ (Below.mono (by assumption) (by first | omega | (simp; omega) | (simp; done) | (dsimp only; omega)))))) (fun fin hfin => ?_)
  iterate 4
    first
      | (refine SeqG.yes (v := ?_) (A' := ?_) rfl (fun γ => by rfl) ?_ ?_ ?_
         rotate_left 2
         · intro γ w' K hS hK
           obtain ⟨hc, hf⟩ := bcell hS
           have hz := hS.size
           go_simp
           first
             | exact hK.out _ (Below.refl _ _)
             | (go_at_call 61; (with_reducible refine (HA.out _).mono ?_); rintro e w1 ⟨rfl, hb1⟩; exact hK.out _ hb1)
             | (go_at_call 61; (with_reducible refine (HB.out _).mono ?_); rintro e w1 ⟨rfl, hb1⟩; exact hK.out _ hb1)
             | trace_state
         · intro γ; simp only [Act.put, List.setIfInBounds_toArray, List.set_cons_zero, List.set_cons_succ]; exact rfl)
      | (refine SeqG.no (A' := ?_) rfl (fun γ => by rfl) ?_ ?_
         rotate_left
         · intro γ; simp only [Act.put, List.setIfInBounds_toArray, List.set_cons_zero, List.set_cons_succ]; exact rfl)
  refine SeqG.nil (hfin.out _ _ ?_)
  clear hfin fin
  intro γ lo hi w1 hB1 hF hD
  clear hD
  obtain ⟨hc, hf⟩ := bcell hB1
  have hz := hB1.size
  refine TailL.cons (fun K hK => ?_)
  go_simp
  refine hK.out _ _ ?_
  clear hK K
  refine TailL.cons (fun K hK => ?_)
  go_simp
  refine hK.out _ _ ?_
  clear hK K
  refine TailL.nil ?_
  generalize hX : (((((w1.setCell ⟨w.heap.size, 0, none⟩ (.bool x.s)).setCell ⟨w.heap.size, 1, none⟩ (.int .i64 x.m)).setCell ⟨w.heap.size, 2, none⟩ (.int .i64 x.r)).setCell ⟨w.heap.size + 1, 0, none⟩ (.bool y.s)).setCell ⟨w.heap.size + 1, 1, none⟩ (.int .i64 y.m)).setCell ⟨w.heap.size + 1, 2, none⟩ (.int .i64 y.r) = X
  have HX : Below w.heap.size w X := by rw [← hX]; exact (by repeat (first | (with_reducible assumption) | (with_reducible exact Below.refl _ _) | (with_reducible refine Below.alloc ?_ (by first | omega | (simp; omega) | (simp; done) | (dsimp only; omega)) _) | (with_reducible refine Below.setCell ?_ (by first | omega | (simp; omega) | (simp; done) | (dsimp only; omega)) _) | (with_reducible refine Below.drew ?_) | (with_reducible refine Below.trans ?_ (Below.mono (by assumption) (by first | omega | (simp; omega) | (simp; done) | (dsimp only; omega))))))
  have p0 : X.heap[w.heap.size]? = some (.cells #[.bool x.s, .int .i64 x.m, .int .i64 x.r] 25) := by
    rw [← hX]
    iterate 3 (refine (Below.heap_setCell _ _ _ _ (by dsimp only; omega)).trans ?_)
    refine blk_set3 (c0 := .bool a.s) (c1 := .int .i64 a.m) (c2 := .int .i64 a.r) ?_
    rw [hB1.block _ z0]; exact K0.out
  have p1 : X.heap[w.heap.size + 1]? = some (.cells #[.bool y.s, .int .i64 y.m, .int .i64 y.r] 25) := by
    rw [← hX]
    refine blk_set3 (c0 := .bool b.s) (c1 := .int .i64 b.m) (c2 := .int .i64 b.r) ?_
    iterate 3 (refine (Below.heap_setCell _ _ _ _ (by dsimp only; omega)).trans ?_)
    rw [hB1.block _ z1]; exact K1.out
  have p2 : X.heap[w.heap.size + 1 + 1]? = some (.cells #[.bool false, .int .i64 0, .int .i64 0] 25) := by
    rw [← hX]
    iterate 6 (refine (Below.heap_setCell _ _ _ _ (by dsimp only; omega)).trans ?_)
    rw [hB1.block _ z2]; exact K2.out
  clear hX hc hf hz K0 K1 K2 q0_0 q0_1 q0_2 q1_0 q1_1 q1_2 z0 z1 z2 f0 f1 hB1 HW HA HB
  have q0_0 := blk_cell p0 0
  have q0_1 := blk_cell p0 1
  have q0_2 := blk_cell p0 2
  have q1_0 := blk_cell p1 0
  have q1_1 := blk_cell p1 1
  have q1_2 := blk_cell p1 2
  have q2_0 := blk_cell p2 0
  have q2_1 := blk_cell p2 1
  have q2_2 := blk_cell p2 2
  simp only [List.getElem?_toArray, List.getElem?_cons_zero, List.getElem?_cons_succ] at q0_0 q0_1 q0_2 q1_0 q1_1 q1_2 q2_0 q2_1 q2_2
  have z0 := blk_lt p0
  have z1 := blk_lt p1
  have z2 := blk_lt p2
  have f2 := blk_free p2
  clear p0 p1 p2
  cases hs : x.s
  · have E' := HE.out
    rw [if_pos hs] at E'
    have E := Lib.hid E'; clear E' HE HG
    rw [hs] at q0_0
    go_wp2
    refine bodyPost_ret (by simp [results, Tryz.results43, go_sem, *] <;> rfl) rfl ⟨by rw [E.out]; rfl, (by repeat (first | (with_reducible assumption) | (with_reducible exact Below.refl _ _) | (with_reducible refine Below.alloc ?_ (by first | omega | (simp; omega) | (simp; done) | (dsimp only; omega)) _) | (with_reducible refine Below.setCell ?_ (by first | omega | (simp; omega) | (simp; done) | (dsimp only; omega)) _) | (with_reducible refine Below.drew ?_) | (with_reducible refine Below.trans ?_ (Below.mono (by assumption) (by first | omega | (simp; omega) | (simp; done) | (dsimp only; omega))))))⟩
  · cases hs' : y.s
    · have E' := HE.out
      rw [if_neg (by rw [hs]; decide), if_pos hs'] at E'
      have E := Lib.hid E'; clear E' HE HG
      rw [hs] at q0_0
      rw [hs'] at q1_0
      go_wp2
      refine bodyPost_ret (by simp [results, Tryz.results43, go_sem, *] <;> rfl) rfl ⟨by rw [E.out]; rfl, (by repeat (first | (with_reducible assumption) | (with_reducible exact Below.refl _ _) | (with_reducible refine Below.alloc ?_ (by first | omega | (simp; omega) | (simp; done) | (dsimp only; omega)) _) | (with_reducible refine Below.setCell ?_ (by first | omega | (simp; omega) | (simp; done) | (dsimp only; omega)) _) | (with_reducible refine Below.drew ?_) | (with_reducible refine Below.trans ?_ (Below.mono (by assumption) (by first | omega | (simp; omega) | (simp; done) | (dsimp only; omega))))))⟩
    · have HE2 : Hid _ := Lib.hid (HE.out.trans ((if_neg (by rw [hs]; decide)).trans (if_neg (by rw [hs']; decide))))
      have HG2 := HG.out
      rw [hs, hs'] at HG2
      have HGG := Lib.hid HG2
      rw [hs] at q0_0
      rw [hs'] at q1_0
      clear HG HG2 HE
      cases hag : x.agrees y
      · have E := Lib.hid (HE2.out.trans (if_pos hag))
        rw [hag] at HGG
        clear HE2
        go_wp2_with (go_at_call 84; (with_reducible refine (HGG.out _).mono ?_); rintro e w1 ⟨rfl, hb1⟩; obtain ⟨hc1, hf1⟩ := bcell hb1; have hz1 := hb1.size; (try simp at hz1); (try have hy1 := Nat.lt_of_succ_le hz1); (try have hv1 := Nat.lt_of_succ_lt hy1); (try have hw10 : w.heap.size < w1.heap.size := by omega); (try have hw11 : w.heap.size + 1 < w1.heap.size := by omega); (try have hw12 : w.heap.size + 1 + 1 < w1.heap.size := by omega); (try have hw13 : w.heap.size + 1 + 1 + 1 < w1.heap.size := by omega))
        refine bodyPost_ret (by simp [results, Tryz.results43, go_sem, *] <;> rfl) rfl ⟨by rw [E.out]; rfl, (by repeat (first | (with_reducible assumption) | (with_reducible exact Below.refl _ _) | (with_reducible refine Below.alloc ?_ (by first | omega | (simp; omega) | (simp; done) | (dsimp only; omega)) _) | (with_reducible refine Below.setCell ?_ (by first | omega | (simp; omega) | (simp; done) | (dsimp only; omega)) _) | (with_reducible refine Below.drew ?_) | (with_reducible refine Below.trans ?_ (Below.mono (by assumption) (by first | omega | (simp; omega) | (simp; done) | (dsimp only; omega))))))⟩
      · have HE3 := Lib.hid (HE2.out.trans (if_neg (by rw [hag]; decide)))
        rw [hag] at HGG
        clear HE2
        by_cases hx0 : x.m = 0
        · have E := Lib.hid (HE3.out.trans (if_pos hx0))
          have k0 : (x.m == 0) = true := by simpa using hx0
          clear HE3 hx0
          go_wp2_with (go_at_call 84; (with_reducible refine (HGG.out _).mono ?_); rintro e w1 ⟨rfl, hb1⟩; obtain ⟨hc1, hf1⟩ := bcell hb1; have hz1 := hb1.size; (try simp at hz1); (try have hy1 := Nat.lt_of_succ_le hz1); (try have hv1 := Nat.lt_of_succ_lt hy1); (try have hw10 : w.heap.size < w1.heap.size := by omega); (try have hw11 : w.heap.size + 1 < w1.heap.size := by omega); (try have hw12 : w.heap.size + 1 + 1 < w1.heap.size := by omega); (try have hw13 : w.heap.size + 1 + 1 + 1 < w1.heap.size := by omega))
          refine bodyPost_ret (by simp [results, Tryz.results43, go_sem, *] <;> rfl) rfl ⟨by rw [E.out, hs], (by repeat (first | (with_reducible assumption) | (with_reducible exact Below.refl _ _) | (with_reducible refine Below.alloc ?_ (by first | omega | (simp; omega) | (simp; done) | (dsimp only; omega)) _) | (with_reducible refine Below.setCell ?_ (by first | omega | (simp; omega) | (simp; done) | (dsimp only; omega)) _) | (with_reducible refine Below.drew ?_) | (with_reducible refine Below.trans ?_ (Below.mono (by assumption) (by first | omega | (simp; omega) | (simp; done) | (dsimp only; omega))))))⟩
        · have HE4 := Lib.hid (HE3.out.trans (if_neg hx0))
          have k0 : (x.m == 0) = false := by simpa using hx0
          clear HE3
          by_cases hy0 : y.m = 0
          · have E := Lib.hid (HE4.out.trans (if_pos hy0))
            have k1 : (y.m == 0) = true := by simpa using hy0
            clear HE4 hy0
            go_wp2_with (go_at_call 84; (with_reducible refine (HGG.out _).mono ?_); rintro e w1 ⟨rfl, hb1⟩; obtain ⟨hc1, hf1⟩ := bcell hb1; have hz1 := hb1.size; (try simp at hz1); (try have hy1 := Nat.lt_of_succ_le hz1); (try have hv1 := Nat.lt_of_succ_lt hy1); (try have hw10 : w.heap.size < w1.heap.size := by omega); (try have hw11 : w.heap.size + 1 < w1.heap.size := by omega); (try have hw12 : w.heap.size + 1 + 1 < w1.heap.size := by omega); (try have hw13 : w.heap.size + 1 + 1 + 1 < w1.heap.size := by omega))
            refine bodyPost_ret (by simp [results, Tryz.results43, go_sem, *] <;> rfl) rfl ⟨by rw [E.out, hs'], (by repeat (first | (with_reducible assumption) | (with_reducible exact Below.refl _ _) | (with_reducible refine Below.alloc ?_ (by first | omega | (simp; omega) | (simp; done) | (dsimp only; omega)) _) | (with_reducible refine Below.setCell ?_ (by first | omega | (simp; omega) | (simp; done) | (dsimp only; omega)) _) | (with_reducible refine Below.drew ?_) | (with_reducible refine Below.trans ?_ (Below.mono (by assumption) (by first | omega | (simp; omega) | (simp; done) | (dsimp only; omega))))))⟩
          · have HE5 := Lib.hid (HE4.out.trans (if_neg hy0))
            have k1 : (y.m == 0) = false := by simpa using hy0
            clear HE4
            have h1 : 0 < x.m := by have := ox.2.1; omega
            have h2 : 0 < y.m := by have := oy.2.1; omega
            obtain ⟨c, ec, k0', k1', c0, c1, l0, -, -, -, -, -⟩ := crt ox oy h1 h2 hag
            have HS := cong_steps x y ox oy h1 h2 hag
            rw [hs, hs'] at HS
            have HST := Lib.hid HS
            clear HS
            have HC0 := cong_common x y ox.1.1 (by omega) oy.1.1 (by omega)
            rw [hs, hs'] at HC0
            have HCC := Lib.hid HC0
            clear HC0
            obtain ⟨g, a', b', i, e1, hg, e2, e3, e4, e5, pa, pb, -, -, -, -, -, e7⟩ := gcd_parts h1 h2
            rw [e1] at HCC
            have hxm := ox.1.1
            have hym := oy.1.1
            have hxr := ox.2.2.2 h1
            unfold I64 at hxm hym
            have t1 : x.m.tdiv g = a' := by rw [Int.tdiv_eq_ediv_of_nonneg (by omega)]; exact e4
            have a1 : a' ≤ x.m := by rw [← e4]; exact Int.ediv_le_self _ (by omega)
            have b1 : b' ≤ y.m := by rw [← e5]; exact Int.ediv_le_self _ (by omega)
            have el : a' * y.m = lcmI x.m y.m := by unfold lcmI; rw [e1, e4]
            have lB : lcmI x.m y.m ≤ 9223372036854775807 * 9223372036854775807 := by rw [e7]; exact Int.mul_le_mul (by omega) (by omega) (by omega) (by omega)
            have hm := wide_mul a' y.m (by unfold I64; omega) (by unfold I64; omega)
            rw [el] at hm
            have HM := Lib.hid hm
            clear hm
            have hi := wide_int (hiW (lcmI x.m y.m)) (loW (lcmI x.m y.m)) (I64_hi (by unfold I128; omega)) (U64.lo _)
            rw [wv_hilo] at hi
            have HI := Lib.hid hi
            clear hi e7 el e5 e3 e2 e1 i pb
            have g0 : (g == 0) = false := by simp; omega
            have g1 : ¬ g = 0 := by omega
            have w1 : IntKind.i64.wrap a' = a' := IntWalk.i64_in _ (by omega)
            have HEC := Lib.hid ec
            have HO : Hid (lcmI x.m y.m ≤ 9223372036854775807 → ∀ w, Calls Tryz.prog 69 #[.int .i64 (lcmI x.m y.m), .int .i64 c] w fun e w' => e = .returned (.agg #[.bool (Cg.of (lcmI x.m y.m) c).s, .int .i64 (Cg.of (lcmI x.m y.m) c).m, .int .i64 (Cg.of (lcmI x.m y.m) c).r]) ∧ Below w.heap.size w w') := Lib.hid (fun h w => cong_of _ _ (by unfold I64; omega) w)
            rw [← ec] at HE5
            have HKB := Lib.hid (show x.r + x.m * x.stepsI y = c from ec.symm)
            clear ec
            generalize hk : x.m * x.stepsI y = xk at *
            generalize x.stepsI y = k at *
            generalize lcmI x.m y.m = l at *
            generalize hiW l = lh at *
            generalize loW l = ll at *
            have ec := HKB.out
            go_wp2_with (go_at_call 84; (with_reducible refine (HGG.out _).mono ?_); rintro e w1 ⟨rfl, hb1⟩; obtain ⟨hc1, hf1⟩ := bcell hb1; have hz1 := hb1.size; (try simp at hz1); (try have hy1 := Nat.lt_of_succ_le hz1); (try have hv1 := Nat.lt_of_succ_lt hy1); (try have hw10 : w.heap.size < w1.heap.size := by omega); (try have hw11 : w.heap.size + 1 < w1.heap.size := by omega); (try have hw12 : w.heap.size + 1 + 1 < w1.heap.size := by omega); (try have hw13 : w.heap.size + 1 + 1 + 1 < w1.heap.size := by omega))
            obtain ⟨Y, rfl⟩ : ∃ Y : World, Y = w1 := ⟨_, rfl⟩
            have HY : Below w.heap.size w Y := (by repeat (first | (with_reducible assumption) | (with_reducible exact Below.refl _ _) | (with_reducible refine Below.alloc ?_ (by first | omega | (simp; omega) | (simp; done) | (dsimp only; omega)) _) | (with_reducible refine Below.setCell ?_ (by first | omega | (simp; omega) | (simp; done) | (dsimp only; omega)) _) | (with_reducible refine Below.drew ?_) | (with_reducible refine Below.trans ?_ (Below.mono (by assumption) (by first | omega | (simp; omega) | (simp; done) | (dsimp only; omega))))))
            replace q0_0 := (hb1.cell (p := ⟨w.heap.size, 0, none⟩) z0).trans q0_0
            replace q0_1 := (hb1.cell (p := ⟨w.heap.size, 1, none⟩) z0).trans q0_1
            replace q0_2 := (hb1.cell (p := ⟨w.heap.size, 2, none⟩) z0).trans q0_2
            replace q1_0 := (hb1.cell (p := ⟨w.heap.size + 1, 0, none⟩) z1).trans q1_0
            replace q1_1 := (hb1.cell (p := ⟨w.heap.size + 1, 1, none⟩) z1).trans q1_1
            replace q1_2 := (hb1.cell (p := ⟨w.heap.size + 1, 2, none⟩) z1).trans q1_2
            replace q2_0 := (hb1.cell (p := ⟨w.heap.size + 1 + 1, 0, none⟩) z2).trans q2_0
            replace q2_1 := (hb1.cell (p := ⟨w.heap.size + 1 + 1, 1, none⟩) z2).trans q2_1
            replace q2_2 := (hb1.cell (p := ⟨w.heap.size + 1 + 1, 2, none⟩) z2).trans q2_2
            have f2' : ∀ o, Y.frozen? ⟨w.heap.size + 1 + 1, o, none⟩ = false := fun o => (hb1.frozen (p := ⟨w.heap.size + 1 + 1, o, none⟩) z2).trans (f2 o)
            replace z0 := Nat.lt_of_lt_of_le z0 hb1.size
            replace z1 := Nat.lt_of_lt_of_le z1 hb1.size
            replace z2 := Nat.lt_of_lt_of_le z2 hb1.size
            have HSX := Lib.hid hs
            have HSY := Lib.hid hs'
            clear hb1 hc1 hf1 f2 HX hF lo hi γ hs hs' hag ox oy ha hb
            refine region_seqg (W := Y) [_, _, _, _, _, _, _, _, _, _] [_] rfl (by kernel_rfl) (by kernel_rfl) (by repeat (first | (with_reducible assumption) | (with_reducible exact Below.refl _ _) | (with_reducible refine Below.alloc ?_ (by first | omega | (simp; omega) | (simp; done) | (dsimp only; omega)) _) | (with_reducible refine Below.setCell ?_ (by first | omega | (simp; omega) | (simp; done) | (dsimp only; omega)) _) | (with_reducible refine Below.drew ?_) | (with_reducible refine Below.trans ?_ (Below.mono (by assumption) (by first | omega | (simp; omega) | (simp; done) | (dsimp only; omega)))))) (fun fin hfin => ?_)
            iterate 9
              first
                | (refine SeqG.yes (v := ?_) (A' := ?_) rfl (fun γ => by rfl) ?_ ?_ ?_
                   rotate_left 2
                   · intro γ w' K hS hK
                     obtain ⟨hc, hf⟩ := bcell hS
                     have hz := hS.size
                     go_simp
                     first
                       | exact hK.out _ (Below.refl _ _)
                       | (go_at_call 86; (with_reducible refine (HCC.out _).mono ?_); rintro e w1 ⟨rfl, hb1⟩; exact hK.out _ hb1)
                       | (go_at_call 85; (with_reducible refine (HM.out _).mono ?_); rintro e w1 ⟨rfl, hb1⟩; exact hK.out _ hb1)
                       | trace_state
                   · intro γ; simp only [Act.put, List.setIfInBounds_toArray, List.set_cons_zero, List.set_cons_succ]; exact rfl)
                | (refine SeqG.no (A' := ?_) rfl (fun γ => by rfl) ?_ ?_
                   rotate_left
                   · intro γ; simp only [Act.put, List.setIfInBounds_toArray, List.set_cons_zero, List.set_cons_succ]; exact rfl)
            refine SeqG.make (k := 9) (A' := ?_) (fun g => .pointer (some ⟨g 0, 0, none⟩)) (RCell #[.int .i64 0, .int .u64 0] 47) rfl (fun γ => by rfl) (RCell.stable _ _) ?_ ?_ ?_
            rotate_left
            · intro γ w' K hS _ hK
              have hm := RCell.made (#[.int .i64 0, .int .u64 0]) (47) w'
              have HK := Lib.hid (hK.out (fun _ => w'.heap.size) (w'.alloc (.cells #[.int .i64 0, .int .u64 0] 47)) ((Below.refl _ _).alloc (Nat.le_refl _) _) hm); clear hK hm
              go_simp
              exact HK.out
            · intro γ; simp only [Act.put, List.setIfInBounds_toArray, List.set_cons_zero, List.set_cons_succ]; exact rfl
            refine SeqG.nil (hfin.out _ _ ?_)
            clear hfin fin
            intro γ lo hi w1 hB1 hF hD
            replace hF := listF1 hF
            dsimp only at hF
            clear hD
            obtain ⟨y6, _, y7, o7, p7, h7⟩ := hF
            have hzy := hB1.size
            generalize γ 9 0 = b5 at *
            have g7 := blk_cell h7
            have f7 := blk_free h7
            have x7 := blk_lt h7
            have K7 := Lib.hid h7; clear h7
            refine TailL.cons (fun K hK => ?_)
            go_simp
            refine hK.out _ _ ?_
            clear hK K
            refine TailL.nil ?_
            generalize hX : (w1.setCell ⟨b5, 0, none⟩ (.int .i64 lh)).setCell ⟨b5, 1, none⟩ (.int .u64 ll) = X2
            have HX2 : Below Y.heap.size Y X2 := by rw [← hX]; exact (by repeat (first | (with_reducible assumption) | (with_reducible exact Below.refl _ _) | (with_reducible refine Below.alloc ?_ (by first | omega | (simp; omega) | (simp; done) | (dsimp only; omega)) _) | (with_reducible refine Below.setCell ?_ (by first | omega | (simp; omega) | (simp; done) | (dsimp only; omega)) _) | (with_reducible refine Below.drew ?_) | (with_reducible refine Below.trans ?_ (Below.mono (by assumption) (by first | omega | (simp; omega) | (simp; done) | (dsimp only; omega))))))
            have p7' : X2.heap[b5]? = some (.cells #[.int .i64 lh, .int .u64 ll] 47) := by rw [← hX]; exact blk_set2 K7.out
            clear hX
            have q7_0 := blk_cell p7' 0
            have q7_1 := blk_cell p7' 1
            simp only [List.getElem?_toArray, List.getElem?_cons_zero, List.getElem?_cons_succ] at q7_0 q7_1
            have z7 := blk_lt p7'
            obtain ⟨hcx, hfx⟩ := bcell HX2
            have hzx := HX2.size
            have v0 : w.heap.size < X2.heap.size := by omega
            have v1 : w.heap.size + 1 < X2.heap.size := by omega
            have v2 : w.heap.size + 1 + 1 < X2.heap.size := by omega
            clear hB1 K7 g7 f7 x7 o7 p7 y7 y6
            by_cases hl : l ≤ 9223372036854775807
            · have hi1 : isI l = true := (isI_iff l).2 (by unfold I64; omega)
              have hi2 : intI l = l := by unfold intI; rw [if_pos hi1]
              have HII := HI.out
              rw [hi1, hi2] at HII
              have HI2 := Lib.hid HII
              have HO2 := Lib.hid (HO.out hl)
              have E := Lib.hid (HE5.out.trans (if_pos hl))
              clear HII hi1 hi2 HI HE5 HO HKB
              have wk : IntKind.i64.wrap xk = xk := IntWalk.i64_in _ (by omega)
              have wc : IntKind.i64.wrap c = c := IntWalk.i64_in _ (by omega)
              go_wp2_with (go_at_call 87; (with_reducible refine (HI2.out _).mono ?_); rintro e w1 ⟨rfl, hb1⟩; obtain ⟨hc1, hf1⟩ := bcell hb1; have hz1 := hb1.size; (try simp at hz1); (try have hy1 := Nat.lt_of_succ_le hz1); (try have hv1 := Nat.lt_of_succ_lt hy1); (try have hw10 : w.heap.size < w1.heap.size := by omega); (try have hw11 : w.heap.size + 1 < w1.heap.size := by omega); (try have hw12 : w.heap.size + 1 + 1 < w1.heap.size := by omega); (try have hw13 : w.heap.size + 1 + 1 + 1 < w1.heap.size := by omega))
              obtain ⟨Z, rfl⟩ : ∃ Z : World, Z = w1 := ⟨_, rfl⟩
              have t0 : w.heap.size < Z.heap.size := by omega
              have t1' : w.heap.size + 1 < Z.heap.size := by omega
              have t2 : w.heap.size + 1 + 1 < Z.heap.size := by omega
              refine region_seqg (W := Z) [_, _, _, _, _, _, _, _, _, _, _] [_] rfl (by kernel_rfl) (by kernel_rfl) (by repeat (first | (with_reducible assumption) | (with_reducible exact Below.refl _ _) | (with_reducible refine Below.alloc ?_ (by first | omega | (simp; omega) | (simp; done) | (dsimp only; omega)) _) | (with_reducible refine Below.setCell ?_ (by first | omega | (simp; omega) | (simp; done) | (dsimp only; omega)) _) | (with_reducible refine Below.drew ?_) | (with_reducible refine Below.trans ?_ (Below.mono (by assumption) (by first | omega | (simp; omega) | (simp; done) | (dsimp only; omega)))))) (fun fin hfin => ?_)
              iterate 11
                first
                  | (refine SeqG.yes (v := ?_) (A' := ?_) rfl (fun γ => by rfl) ?_ ?_ ?_
                     rotate_left 2
                     · intro γ w' K hS hK
                       obtain ⟨hc, hf⟩ := bcell hS
                       have hz := hS.size
                       go_simp
                       first
                         | exact hK.out _ (Below.refl _ _)
                         | (go_at_call 88; (with_reducible refine (HST.out _).mono ?_); rintro e w1 ⟨rfl, hb1⟩; exact hK.out _ hb1)
                         | (go_at_call 69; (with_reducible refine (HO2.out _).mono ?_); rintro e w1 ⟨rfl, hb1⟩; exact hK.out _ hb1)
                         | trace_state
                     · intro γ; simp only [Act.put, List.setIfInBounds_toArray, List.set_cons_zero, List.set_cons_succ]; exact rfl)
                  | (refine SeqG.no (A' := ?_) rfl (fun γ => by rfl) ?_ ?_
                     rotate_left
                     · intro γ; simp only [Act.put, List.setIfInBounds_toArray, List.set_cons_zero, List.set_cons_succ]; exact rfl)
              refine SeqG.nil (hfin.out _ _ ?_)
              clear hfin fin
              intro γ lo hi w1 hB1 hF hD
              clear hD
              obtain ⟨hcz, hfz⟩ := bcell hB1
              have hzz := hB1.size
              have s2 : w.heap.size + 1 + 1 < w1.heap.size := by omega
              refine TailL.cons (fun K hK => ?_)
              go_simp
              refine hK.out _ _ ?_
              clear hK K
              refine TailL.nil ?_
              go_wp2
              refine bodyPost_ret (by simp [results, Tryz.results43, go_sem, *] <;> rfl) rfl ⟨by rw [E.out], (by repeat (first | (with_reducible assumption) | (with_reducible exact Below.refl _ _) | (with_reducible refine Below.alloc ?_ (by first | omega | (simp; omega) | (simp; done) | (dsimp only; omega)) _) | (with_reducible refine Below.setCell ?_ (by first | omega | (simp; omega) | (simp; done) | (dsimp only; omega)) _) | (with_reducible refine Below.drew ?_) | (with_reducible refine Below.trans ?_ (Below.mono (by assumption) (by first | omega | (simp; omega) | (simp; done) | (dsimp only; omega))))))⟩
            · have hi1 : isI l = false := by
                cases h : isI l
                · rfl
                · have := (isI_iff l).1 h; unfold I64 at this; omega
              have HII := HI.out
              rw [hi1] at HII
              have HI2 := Lib.hid HII
              have HE6 := Lib.hid (HE5.out.trans (if_neg hl))
              clear HII hi1 HI HE5 HO HKB ec hk
              by_cases hlt : x.m < y.m
              · have E := Lib.hid (HE6.out.trans (if_pos hlt))
                clear HE6
                go_wp2_with (go_at_call 87; (with_reducible refine (HI2.out _).mono ?_); rintro e w1 ⟨rfl, hb1⟩; obtain ⟨hc1, hf1⟩ := bcell hb1; have hz1 := hb1.size; (try simp at hz1); (try have hy1 := Nat.lt_of_succ_le hz1); (try have hv1 := Nat.lt_of_succ_lt hy1); (try have hw10 : w.heap.size < w1.heap.size := by omega); (try have hw11 : w.heap.size + 1 < w1.heap.size := by omega); (try have hw12 : w.heap.size + 1 + 1 < w1.heap.size := by omega); (try have hw13 : w.heap.size + 1 + 1 + 1 < w1.heap.size := by omega))
                refine bodyPost_ret (by simp [results, Tryz.results43, go_sem, *] <;> rfl) rfl ⟨by rw [E.out, HSY.out], (by repeat (first | (with_reducible assumption) | (with_reducible exact Below.refl _ _) | (with_reducible refine Below.alloc ?_ (by first | omega | (simp; omega) | (simp; done) | (dsimp only; omega)) _) | (with_reducible refine Below.setCell ?_ (by first | omega | (simp; omega) | (simp; done) | (dsimp only; omega)) _) | (with_reducible refine Below.drew ?_) | (with_reducible refine Below.trans ?_ (Below.mono (by assumption) (by first | omega | (simp; omega) | (simp; done) | (dsimp only; omega))))))⟩
              · have E := Lib.hid (HE6.out.trans (if_neg hlt))
                clear HE6
                go_wp2_with (go_at_call 87; (with_reducible refine (HI2.out _).mono ?_); rintro e w1 ⟨rfl, hb1⟩; obtain ⟨hc1, hf1⟩ := bcell hb1; have hz1 := hb1.size; (try simp at hz1); (try have hy1 := Nat.lt_of_succ_le hz1); (try have hv1 := Nat.lt_of_succ_lt hy1); (try have hw10 : w.heap.size < w1.heap.size := by omega); (try have hw11 : w.heap.size + 1 < w1.heap.size := by omega); (try have hw12 : w.heap.size + 1 + 1 < w1.heap.size := by omega); (try have hw13 : w.heap.size + 1 + 1 + 1 < w1.heap.size := by omega))
                refine bodyPost_ret (by simp [results, Tryz.results43, go_sem, *] <;> rfl) rfl ⟨by rw [E.out, HSX.out], (by repeat (first | (with_reducible assumption) | (with_reducible exact Below.refl _ _) | (with_reducible refine Below.alloc ?_ (by first | omega | (simp; omega) | (simp; done) | (dsimp only; omega)) _) | (with_reducible refine Below.setCell ?_ (by first | omega | (simp; omega) | (simp; done) | (dsimp only; omega)) _) | (with_reducible refine Below.drew ?_) | (with_reducible refine Below.trans ?_ (Below.mono (by assumption) (by first | omega | (simp; omega) | (simp; done) | (dsimp only; omega))))))⟩
end Go.Proofs.YtdpnphnafidpiaaGreat

/- What is in both congruences. Layer 5. -/
namespace Go.Proofs.YtdpnphnafidpiaaGreat
open Go.RowKit

theorem Cg.has_agrees {x y : Cg} (hx : x.std) (hy : y.std) {n : Int} (h1 : x.has n = true) (h2 : y.has n = true) : x.agrees y = true := by
  unfold Cg.agrees
  rw [beq_iff_eq]
  have g0 := gcdI_nonneg x.m y.m
  have d1 := gcdI_dvd_l y.m hx.2.1
  have d2 := gcdI_dvd_r x.m hy.2.1
  by_cases hg : gcdI x.m y.m = 0
  · obtain ⟨z1, z2⟩ := gcdI_zero hx.2.1 hy.2.1 hg
    rw [hg, modI_zero, modI_zero]
    obtain ⟨_, e1⟩ := (Cg.has_iff hx n).1 h1
    obtain ⟨_, e2⟩ := (Cg.has_iff hy n).1 h2
    omega
  · rw [modI_pos (by omega), modI_pos (by omega), ← Cg.has_mod_dvd hx h1 d1, ← Cg.has_mod_dvd hy h2 d2]
/-- One that is a single int, and agrees. -/
theorem Cg.one_leq {x y : Cg} (hx : x.std) (hy : y.std) (hxs : x.s = true) (hys : y.s = true) (h0 : x.m = 0) (ha : x.agrees y = true) : x.leq y = true := by
  unfold Cg.agrees at ha
  rw [beq_iff_eq, h0] at ha
  have e : gcdI 0 y.m = y.m := by unfold gcdI; rw [show (0 : Int).toNat = 0 from rfl, Nat.gcd_zero_left]; have := hy.2.1; omega
  rw [e] at ha
  by_cases h1 : y.m = 0
  · rw [h1, modI_zero, modI_zero] at ha
    rw [Cg.ext' (hxs.trans hys.symm) (h0.trans h1.symm) ha]
    exact Cg.leq_self hy
  · have hp : 0 < y.m := by have := hy.2.1; omega
    rw [modI_pos hp, modI_pos hp] at ha
    have h3 := hy.2.2.2 hp
    exact Cg.leq_std hy hp hys hx (by rw [h0]; exact Int.dvd_zero _) (ha.trans (Int.emod_eq_of_lt h3.1 h3.2))
theorem Cg.agrees_comm (x y : Cg) : x.agrees y = y.agrees x := by
  unfold Cg.agrees
  rw [gcdI_comm x.m y.m, Bool.eq_iff_iff, beq_iff_eq, beq_iff_eq]
  exact ⟨Eq.symm, Eq.symm⟩

theorem meetC_spec {x y : Cg} (hx : x.std) (hy : y.std) :
    (x.meetC y).std ∧ (∀ n, x.has n = true → y.has n = true → (x.meetC y).has n = true) ∧ ((x.meetC y).leq x = true ∨ (x.meetC y).leq y = true) ∧
    ((0 < x.m ∧ 0 < y.m ∧ 9223372036854775807 < lcmI x.m y.m) → (x.meetC y = x ∨ x.meetC y = y ∨ (x.meetC y).s = false)) ∧
    (¬ (0 < x.m ∧ 0 < y.m ∧ 9223372036854775807 < lcmI x.m y.m) → (x.meetC y).leq x = true ∧ (x.meetC y).leq y = true ∧ ∀ n, (x.meetC y).has n = (x.has n && y.has n)) := by
  have nil : x.meetC y = Cg.zero → (∀ n, ¬ (x.has n = true ∧ y.has n = true)) →
      (x.meetC y).std ∧ (∀ n, x.has n = true → y.has n = true → (x.meetC y).has n = true) ∧ ((x.meetC y).leq x = true ∨ (x.meetC y).leq y = true) ∧
      ((0 < x.m ∧ 0 < y.m ∧ 9223372036854775807 < lcmI x.m y.m) → (x.meetC y = x ∨ x.meetC y = y ∨ (x.meetC y).s = false)) ∧
      (¬ (0 < x.m ∧ 0 < y.m ∧ 9223372036854775807 < lcmI x.m y.m) → (x.meetC y).leq x = true ∧ (x.meetC y).leq y = true ∧ ∀ n, (x.meetC y).has n = (x.has n && y.has n)) := by
    intro e hn
    rw [e]
    refine ⟨Cg.zero_std, fun n h1 h2 => absurd ⟨h1, h2⟩ (hn n), Or.inl (Cg.leq_zero x), fun _ => Or.inr (Or.inr rfl), fun _ => ⟨Cg.leq_zero x, Cg.leq_zero y, fun n => ?_⟩⟩
    rw [Cg.zero_has]
    cases h1 : x.has n
    · rfl
    · cases h2 : y.has n
      · rfl
      · exact absurd ⟨h1, h2⟩ (hn n)
  cases hxs : x.s
  · exact nil (if_pos hxs) (fun n h => by rw [Cg.has_none hx hxs] at h; exact absurd h.1 (by decide))
  cases hys : y.s
  · exact nil ((if_neg (by rw [hxs]; decide)).trans (if_pos hys)) (fun n h => by rw [Cg.has_none hy hys] at h; exact absurd h.2 (by decide))
  have e0 : x.meetC y = _ := (if_neg (by rw [hxs]; decide)).trans (if_neg (by rw [hys]; decide))
  cases hag : x.agrees y
  · exact nil (e0.trans (if_pos hag)) (fun n h => by rw [Cg.has_agrees hx hy h.1 h.2] at hag; exact absurd hag (by decide))
  have e1 := e0.trans (if_neg (by rw [hag]; decide))
  by_cases hx0 : x.m = 0
  · have e2 := e1.trans (if_pos hx0)
    have hl := Cg.one_leq hx hy hxs hys hx0 hag
    rw [e2]
    refine ⟨hx, fun n h1 _ => h1, Or.inl (Cg.leq_self hx), fun h => by omega, fun _ => ⟨Cg.leq_self hx, hl, fun n => ?_⟩⟩
    cases h1 : x.has n
    · rfl
    · rw [Cg.has_mono hx hy hl h1]; rfl
  have e2 := e1.trans (if_neg hx0)
  by_cases hy0 : y.m = 0
  · have e3 := e2.trans (if_pos hy0)
    have hl := Cg.one_leq hy hx hys hxs hy0 (by rw [← Cg.agrees_comm]; exact hag)
    rw [e3]
    refine ⟨hy, fun n _ h2 => h2, Or.inr (Cg.leq_self hy), fun h => by omega, fun _ => ⟨hl, Cg.leq_self hy, fun n => ?_⟩⟩
    cases h1 : y.has n
    · rw [Bool.and_false]
    · rw [Cg.has_mono hy hx hl h1]; rfl
  have e3 := e2.trans (if_neg hy0)
  have h1 : 0 < x.m := by have := hx.2.1; omega
  have h2 : 0 < y.m := by have := hy.2.1; omega
  by_cases hl : lcmI x.m y.m ≤ 9223372036854775807
  · have e4 := e3.trans (if_pos hl)
    obtain ⟨c, ec, _, _, c0, c1, l0, dx, dy, mx, my, mn⟩ := crt hx hy h1 h2 hag
    rw [← ec, Cg.of_pos c l0, Int.emod_eq_of_lt c0 c1] at e4
    rw [e4]
    have st : (Cg.mk true (lcmI x.m y.m) c).std := ⟨⟨by unfold I64; dsimp only; omega, by unfold I64; dsimp only; omega⟩, by dsimp only; omega, fun h => (by cases h), fun _ => ⟨c0, c1⟩⟩
    have lx := Cg.leq_std hx h1 hxs st dx mx
    have ly := Cg.leq_std hy h2 hys st dy my
    have hn : ∀ n, (Cg.mk true (lcmI x.m y.m) c).has n = (x.has n && y.has n) := fun n => by
      rw [Bool.eq_iff_iff, Bool.and_eq_true, Cg.has_iff st, Cg.has_iff hx, Cg.has_iff hy]
      have h3 := mn n
      dsimp only
      constructor
      · rintro ⟨_, h | ⟨_, h⟩⟩
        · omega
        · obtain ⟨g1, g2⟩ := h3.1 h
          exact ⟨⟨hxs, Or.inr ⟨h1, g1⟩⟩, ⟨hys, Or.inr ⟨h2, g2⟩⟩⟩
      · rintro ⟨⟨_, g1⟩, ⟨_, g2⟩⟩
        exact ⟨rfl, Or.inr ⟨l0, h3.2 ⟨by omega, by omega⟩⟩⟩
    exact ⟨st, fun n a b => by rw [hn, a, b]; rfl, Or.inl lx, fun h => by omega, fun _ => ⟨lx, ly, hn⟩⟩
  · have e4 := e3.trans (if_neg hl)
    by_cases hlt : x.m < y.m
    · rw [e4.trans (if_pos hlt)]
      exact ⟨hy, fun n _ b => b, Or.inr (Cg.leq_self hy), fun _ => Or.inr (Or.inl rfl), fun h => absurd ⟨h1, h2, by omega⟩ h⟩
    · rw [e4.trans (if_neg hlt)]
      exact ⟨hx, fun n a _ => a, Or.inl (Cg.leq_self hx), fun _ => Or.inl rfl, fun h => absurd ⟨h1, h2, by omega⟩ h⟩
end Go.Proofs.YtdpnphnafidpiaaGreat
