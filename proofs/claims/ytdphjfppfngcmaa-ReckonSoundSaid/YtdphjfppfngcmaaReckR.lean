/- What the document's own rest of layer 4 returns. -/
import Derived.Test.YtdphjfppfngcmaaReckY
import Derived.Test.YtdphjfppfngcmaaRefH
namespace Go.Proofs.Ytdphjfppfngcmaa
open Go.RowKit

def bigA (b : Sp) : Int := max (absI b.lo) (absI b.hi)
def restS (a b : Sp) : Sp := if (b.lo == 0 && b.hi == 0) = true then ⟨false, 0, 0⟩ else if (a.lo == a.hi && b.lo == b.hi) = true then Sp.of (a.lo.tmod b.lo) (a.lo.tmod b.lo) else Sp.of (max (min a.lo 0) (-(bigA b - 1))) (min (max a.hi 0) (bigA b - 1))
theorem of_congr {p q p' q' : Int} (h1 : p' = p) (h2 : q' = q) : Ending.returned (.agg #[.bool (Sp.of p q).s, .int .i64 (Sp.of p q).lo, .int .i64 (Sp.of p q).hi]) = Ending.returned (.agg #[.bool (Sp.of p' q').s, .int .i64 (Sp.of p' q').lo, .int .i64 (Sp.of p' q').hi]) := by subst h1 h2; rfl

set_option maxRecDepth 100000 in
set_option maxHeartbeats 4000000 in
theorem r4_rest (a b : Sp) (ha : I64 a.lo ∧ I64 a.hi) (hb : I64 b.lo ∧ I64 b.hi) (w : World) :
    Calls Try.prog 33 #[.agg #[.bool a.s, .int .i64 a.lo, .int .i64 a.hi], .agg #[.bool b.s, .int .i64 b.lo, .int .i64 b.hi]] w fun e w' => e = .returned (.agg #[.bool (restS a b).s, .int .i64 (restS a b).lo, .int .i64 (restS a b).hi]) ∧ Below w.heap.size w w' := by
  have E1 : (b.lo == 0 && b.hi == 0) = true → restS a b = ⟨false, 0, 0⟩ := fun h => if_pos h
  have E2 : (b.lo == 0 && b.hi == 0) = false → (a.lo == a.hi && b.lo == b.hi) = true → restS a b = Sp.of (a.lo.tmod b.lo) (a.lo.tmod b.lo) := fun h h' => by unfold restS; rw [if_neg (by rw [h]; decide), if_pos h']
  have E3 : (b.lo == 0 && b.hi == 0) = false → (a.lo == a.hi && b.lo == b.hi) = false → restS a b = Sp.of (max (min a.lo 0) (-(bigA b - 1))) (min (max a.hi 0) (bigA b - 1)) := fun h h' => by unfold restS; rw [if_neg (by rw [h]; decide), if_neg (by rw [h']; decide)]
  have HX := Lib.hid (r4_abs b.lo hb.1)
  have HY := Lib.hid (r4_abs b.hi hb.2)
  obtain ⟨x0, x1⟩ := absI_bd hb.1
  obtain ⟨y0, y1⟩ := absI_bd hb.2
  have hnz : (b.lo == 0 && b.hi == 0) = false → 1 ≤ bigA b := by
    intro h
    have : b.lo ≠ 0 ∨ b.hi ≠ 0 := by
      rw [Bool.and_eq_false_iff] at h
      rcases h with h | h
      · exact Or.inl (by simpa using h)
      · exact Or.inr (by simpa using h)
    unfold bigA absI
    split <;> split <;> omega
  have hmx : bigA b = max (absI b.lo) (absI b.hi) := rfl
  have hbl : (b.lo == 0 && b.hi == 0) = false → (b.lo == b.hi) = true → b.lo ≠ 0 := by
    intro h h' h0
    rw [beq_iff_eq] at h'
    rw [← h', h0] at h
    exact absurd h (by decide)
  generalize restS a b = R at *
  generalize bigA b = M at *
  have HC : Hid (∀ w, Calls Try.prog 42 #[.agg #[.int .i64 0, .int .u64 (absI b.hi)], .agg #[.int .i64 0, .int .u64 (absI b.lo)]] w fun e w' => e = .returned (.int .i64 (cmpI (absI b.hi) (absI b.lo))) ∧ Below w.heap.size w w') := Lib.hid (fun w => by
    have h := r_cmp 0 (absI b.hi) 0 (absI b.lo) (by unfold I64; omega) (by unfold U64 M64; omega) (by unfold I64; omega) (by unfold U64 M64; omega) w
    rw [show wv 0 (absI b.hi) = absI b.hi by unfold wv; omega, show wv 0 (absI b.lo) = absI b.lo by unfold wv; omega] at h
    exact h)
  have hcm : (0 < cmpI (absI b.hi) (absI b.lo)) ↔ absI b.lo < absI b.hi := by unfold cmpI; split <;> (try split) <;> omega
  generalize cmpI (absI b.hi) (absI b.lo) = c at *
  generalize absI b.lo = X at *
  generalize absI b.hi = Y at *
  have HM : Hid (∀ lo hi w, Calls Try.prog 24 #[.int .i64 lo, .int .i64 hi] w fun e w' => e = .returned (.agg #[.bool (Sp.of lo hi).s, .int .i64 (Sp.of lo hi).lo, .int .i64 (Sp.of lo hi).hi]) ∧ Below w.heap.size w w') := Lib.hid r3_make
  go_enter Try.func33, Try.ntmps33
  go_upto_region 1 with fail
  generalize hW : (((w.alloc (.cells #[.bool a.s, .int .i64 a.lo, .int .i64 a.hi] 23)).alloc (.cells #[.bool b.s, .int .i64 b.lo, .int .i64 b.hi] 23)).alloc (.cells #[.bool false, .int .i64 0, .int .i64 0] 23)) = W
  have q0_0 : W.cell? ⟨w.heap.size, 0, none⟩ = some (.bool a.s) := by rw [← hW]; simp [go_sem]
  have q0_1 : W.cell? ⟨w.heap.size, 1, none⟩ = some (.int .i64 a.lo) := by rw [← hW]; simp [go_sem]
  have q0_2 : W.cell? ⟨w.heap.size, 2, none⟩ = some (.int .i64 a.hi) := by rw [← hW]; simp [go_sem]
  have q1_0 : W.cell? ⟨w.heap.size + 1, 0, none⟩ = some (.bool b.s) := by rw [← hW]; simp [go_sem]
  have q1_1 : W.cell? ⟨w.heap.size + 1, 1, none⟩ = some (.int .i64 b.lo) := by rw [← hW]; simp [go_sem]
  have q1_2 : W.cell? ⟨w.heap.size + 1, 2, none⟩ = some (.int .i64 b.hi) := by rw [← hW]; simp [go_sem]
  have q2_0 : W.cell? ⟨w.heap.size + 1 + 1, 0, none⟩ = some (.bool false) := by rw [← hW]; simp [go_sem]
  have q2_1 : W.cell? ⟨w.heap.size + 1 + 1, 1, none⟩ = some (.int .i64 0) := by rw [← hW]; simp [go_sem]
  have q2_2 : W.cell? ⟨w.heap.size + 1 + 1, 2, none⟩ = some (.int .i64 0) := by rw [← hW]; simp [go_sem]
  have f0 : ∀ o, W.frozen? ⟨w.heap.size, o, none⟩ = false := by intro o; rw [← hW]; simp [go_sem]
  have f1 : ∀ o, W.frozen? ⟨w.heap.size + 1, o, none⟩ = false := by intro o; rw [← hW]; simp [go_sem]
  have f2 : ∀ o, W.frozen? ⟨w.heap.size + 1 + 1, o, none⟩ = false := by intro o; rw [← hW]; simp [go_sem]
  have z0 : w.heap.size < W.heap.size := by rw [← hW]; first | (simp; done) | (simp; omega)
  have z1 : w.heap.size + 1 < W.heap.size := by rw [← hW]; first | (simp; done) | (simp; omega)
  have z2 : w.heap.size + 1 + 1 < W.heap.size := by rw [← hW]; first | (simp; done) | (simp; omega)
  have HW : Below w.heap.size w W := by rw [← hW]; exact (by repeat (first | (with_reducible assumption) | (with_reducible exact Below.refl _ _) | (with_reducible refine Below.alloc ?_ (by first | omega | (simp; omega) | (simp; done) | (dsimp only; omega)) _) | (with_reducible refine Below.setCell ?_ (by first | omega | (simp; omega) | (simp; done) | (dsimp only; omega)) _) | (with_reducible refine Below.drew ?_) | (with_reducible refine Below.trans ?_ (Below.mono (by assumption) (by first | omega | (simp; omega) | (simp; done) | (dsimp only; omega))))))
  clear hW
  clear f0 f1
  go_cut [18] (fun s18 wx => s18 = .bool (b.lo == 0 && b.hi == 0) ∧ wx = W)
  case first =>
    cases h1 : b.lo == 0 <;> cases h2 : b.hi == 0
    all_goals
      go_wp2
      go_meet
      exact ⟨by rw [h1, h2]; rfl, rfl⟩
  case rest =>
    obtain ⟨rfl, rfl⟩ := hcut
    cases hz : (b.lo == 0 && b.hi == 0)
    · replace E2 := E2 hz
      replace E3 := E3 hz
      replace hnz := hnz hz
      replace hbl := hbl hz
      clear E1
      go_upto_region 3 with fail
      go_cut [31] (fun s31 wx => s31 = .bool (a.lo == a.hi && b.lo == b.hi) ∧ wx = wc)
      case first =>
        cases h1 : a.lo == a.hi <;> cases h2 : b.lo == b.hi
        all_goals
          go_wp2
          go_meet
          exact ⟨by rw [h1, h2]; rfl, rfl⟩
      case rest =>
        obtain ⟨rfl, rfl⟩ := hcut
        cases h3 : (a.lo == a.hi && b.lo == b.hi)
        · replace E3 := E3 h3
          clear E2
          go_upto_region 7 with (go_at_call 62; (with_reducible refine (HX.out _).mono ?_); rintro e w1 ⟨rfl, hb1⟩; obtain ⟨hc1, hf1⟩ := bcell hb1; have hz1 := hb1.size; (try simp at hz1); (try have hy1 := Nat.lt_of_succ_le hz1); (try have hv1 := Nat.lt_of_succ_lt hy1); (try have hw10 : w.heap.size < w1.heap.size := by omega); (try have hw11 : w.heap.size + 1 < w1.heap.size := by omega); (try have hw12 : w.heap.size + 1 + 1 < w1.heap.size := by omega); (try have hw13 : w.heap.size + 1 + 1 + 1 < w1.heap.size := by omega))
          generalize hV : (w1.alloc (.cells #[.int .i64 0, .int .u64 X] 31)) = V
          have p0_0 : V.cell? ⟨w1.heap.size, 0, none⟩ = some (.int .i64 0) := by rw [← hV]; simp [go_sem]
          have p0_1 : V.cell? ⟨w1.heap.size, 1, none⟩ = some (.int .u64 X) := by rw [← hV]; simp [go_sem]
          have fp0 : ∀ o, V.frozen? ⟨w1.heap.size, o, none⟩ = false := by intro o; rw [← hV]; simp [go_sem]
          have zp0 : w1.heap.size < V.heap.size := by rw [← hV]; first | (simp; done) | (simp; omega)
          have HV : Below w1.heap.size w1 V := by rw [← hV]; exact (by repeat (first | (with_reducible assumption) | (with_reducible exact Below.refl _ _) | (with_reducible refine Below.alloc ?_ (by first | omega | (simp; omega) | (simp; done) | (dsimp only; omega)) _) | (with_reducible refine Below.setCell ?_ (by first | omega | (simp; omega) | (simp; done) | (dsimp only; omega)) _) | (with_reducible refine Below.drew ?_) | (with_reducible refine Below.trans ?_ (Below.mono (by assumption) (by first | omega | (simp; omega) | (simp; done) | (dsimp only; omega))))))
          clear hV
          have hWV := hb1.trans (HV.mono hb1.size)
          have HWV := HW.trans (hWV.mono HW.size)
          replace f2 := fun o => (hWV.frozen (p := ⟨w.heap.size + 1 + 1, o, none⟩) z2).trans (f2 o)
          replace q0_0 := (hWV.cell (p := ⟨w.heap.size, 0, none⟩) z0).trans q0_0
          replace q0_1 := (hWV.cell (p := ⟨w.heap.size, 1, none⟩) z0).trans q0_1
          replace q0_2 := (hWV.cell (p := ⟨w.heap.size, 2, none⟩) z0).trans q0_2
          replace q1_0 := (hWV.cell (p := ⟨w.heap.size + 1, 0, none⟩) z1).trans q1_0
          replace q1_1 := (hWV.cell (p := ⟨w.heap.size + 1, 1, none⟩) z1).trans q1_1
          replace q1_2 := (hWV.cell (p := ⟨w.heap.size + 1, 2, none⟩) z1).trans q1_2
          replace q2_0 := (hWV.cell (p := ⟨w.heap.size + 1 + 1, 0, none⟩) z2).trans q2_0
          replace q2_1 := (hWV.cell (p := ⟨w.heap.size + 1 + 1, 1, none⟩) z2).trans q2_1
          replace q2_2 := (hWV.cell (p := ⟨w.heap.size + 1 + 1, 2, none⟩) z2).trans q2_2
          replace z0 := Nat.lt_of_lt_of_le z0 hWV.size
          replace z1 := Nat.lt_of_lt_of_le z1 hWV.size
          replace z2 := Nat.lt_of_lt_of_le z2 hWV.size
          have hlt : w.heap.size + 1 + 1 < w1.heap.size := hw12
          clear hc1 hf1 hb1 hz1 hw10 hw11 hw12 HW HV hWV
          generalize w1.heap.size = B at *
          refine region_seq (S := fun w' => Below V.heap.size V w') rfl (by kernel_rfl) (by kernel_rfl) (by repeat (first | (with_reducible assumption) | (with_reducible exact Below.refl _ _) | (with_reducible refine Below.alloc ?_ (by first | omega | (simp; omega) | (simp; done) | (dsimp only; omega)) _) | (with_reducible refine Below.setCell ?_ (by first | omega | (simp; omega) | (simp; done) | (dsimp only; omega)) _) | (with_reducible refine Below.drew ?_) | (with_reducible refine Below.trans ?_ (Below.mono (by assumption) (by first | omega | (simp; omega) | (simp; done) | (dsimp only; omega)))))) (fun fin hfin => ?_)
          iterate 6
            first
              | (refine SeqL.yes (v := ?_) (A' := ?_) rfl (by rfl) ?_ ?_ ?_
                 rotate_left 2
                 · intro w' K hS hK
                   obtain ⟨hc, hf⟩ := bcell hS
                   have hz := hS.size
                   go_simp
                   first
                     | exact hK.out _ hS
                     | (go_at_call 62; (with_reducible refine (HY.out _).mono ?_); rintro e w1 ⟨rfl, hb1⟩; exact hK.out _ (hS.trans (hb1.mono hz)))
                     | (go_at_call 42; (with_reducible refine (HC.out _).mono ?_); rintro e w1 ⟨rfl, hb1⟩; exact hK.out _ (hS.trans (hb1.mono hz)))
                     | trace_state
                 · simp only [Act.put, List.setIfInBounds_toArray, List.set_cons_zero, List.set_cons_succ]; exact rfl)
              | (refine SeqL.no (A' := ?_) rfl (by rfl) ?_ ?_
                 rotate_left
                 · simp only [Act.put, List.setIfInBounds_toArray, List.set_cons_zero, List.set_cons_succ]; exact rfl)
          refine SeqL.nil (hfin.out _ ?_)
          clear hfin fin
          intro w1 hS1
          have HWS := HWV.trans (hS1.mono HWV.size)
          replace f2 := fun o => (hS1.frozen (p := ⟨w.heap.size + 1 + 1, o, none⟩) z2).trans (f2 o)
          replace q0_0 := (hS1.cell (p := ⟨w.heap.size, 0, none⟩) z0).trans q0_0
          replace q0_1 := (hS1.cell (p := ⟨w.heap.size, 1, none⟩) z0).trans q0_1
          replace q0_2 := (hS1.cell (p := ⟨w.heap.size, 2, none⟩) z0).trans q0_2
          replace q1_0 := (hS1.cell (p := ⟨w.heap.size + 1, 0, none⟩) z1).trans q1_0
          replace q1_1 := (hS1.cell (p := ⟨w.heap.size + 1, 1, none⟩) z1).trans q1_1
          replace q1_2 := (hS1.cell (p := ⟨w.heap.size + 1, 2, none⟩) z1).trans q1_2
          replace q2_0 := (hS1.cell (p := ⟨w.heap.size + 1 + 1, 0, none⟩) z2).trans q2_0
          replace q2_1 := (hS1.cell (p := ⟨w.heap.size + 1 + 1, 1, none⟩) z2).trans q2_1
          replace q2_2 := (hS1.cell (p := ⟨w.heap.size + 1 + 1, 2, none⟩) z2).trans q2_2
          replace z0 := Nat.lt_of_lt_of_le z0 hS1.size
          replace z1 := Nat.lt_of_lt_of_le z1 hS1.size
          replace z2 := Nat.lt_of_lt_of_le z2 hS1.size
          replace p0_0 := (hS1.cell (p := ⟨B, 0, none⟩) zp0).trans p0_0
          replace p0_1 := (hS1.cell (p := ⟨B, 1, none⟩) zp0).trans p0_1
          replace fp0 := fun o => (hS1.frozen (p := ⟨B, o, none⟩) zp0).trans (fp0 o)
          replace zp0 := Nat.lt_of_lt_of_le zp0 hS1.size
          clear hS1 HWV HX HC
          generalize w1 = X1 at *
          have hsub : ∀ Z : Int, 1 ≤ Z → Z ≤ 9223372036854775808 → ∀ w, Calls Try.prog 43 #[.agg #[.int .i64 0, .int .u64 Z], .agg #[.int .i64 0, .int .u64 1]] w fun e w' => e = .returned (.agg #[.int .i64 0, .int .u64 (Z - 1)]) ∧ Below w.heap.size w w' := by
            intro Z h1 h2 w
            have h := r_sub 0 Z 0 1 (by unfold U64 M64; omega) (by unfold U64 M64; omega) w
            obtain ⟨l0, l1⟩ := lo_small (x := Z - 1) (by omega) (by omega)
            rw [show wv 0 Z - wv 0 1 = Z - 1 by unfold wv; omega, wrap128_id (by unfold I128; omega), l0, l1] at h
            exact h
          have hclm : ∀ Z : Int, 0 ≤ Z → Z ≤ 9223372036854775807 → ∀ w, Calls Try.prog 63 #[.agg #[.int .i64 0, .int .u64 Z]] w fun e w' => e = .returned (.int .i64 Z) ∧ Below w.heap.size w w' := by
            intro Z h1 h2 w
            have h := r_clamp 0 Z (by unfold I64; omega) (by unfold U64 M64; omega) w
            rw [show wv 0 Z = Z by unfold wv; omega, show clampI Z = Z by unfold clampI; rw [if_pos]; unfold isI; simp; omega] at h
            exact h
          have hM : 1 ≤ M ∧ M ≤ 9223372036854775808 := ⟨hnz, by omega⟩
          have HS := Lib.hid (hsub M hnz (by omega))
          have HK := Lib.hid (hclm (M - 1) (by omega) (by omega))
          clear hsub hclm
          go_upto_if 51 with fail
          go_cut [7] (fun s7 wx => s7 = .pointer (some ⟨B, 0, none⟩) ∧ wx.cell? ⟨B, 0, none⟩ = some (.int .i64 0) ∧ wx.cell? ⟨B, 1, none⟩ = some (.int .u64 M) ∧ wx.cell? ⟨w.heap.size, 1, none⟩ = some (.int .i64 a.lo) ∧ wx.cell? ⟨w.heap.size, 2, none⟩ = some (.int .i64 a.hi)
            ∧ wx.cell? ⟨w.heap.size + 1 + 1, 0, none⟩ = some (.bool false) ∧ wx.cell? ⟨w.heap.size + 1 + 1, 1, none⟩ = some (.int .i64 0) ∧ wx.cell? ⟨w.heap.size + 1 + 1, 2, none⟩ = some (.int .i64 0) ∧ (∀ o, wx.frozen? ⟨w.heap.size + 1 + 1, o, none⟩ = false) ∧ B < wx.heap.size ∧ Below w.heap.size w wx)
          case first =>
            by_cases hXY : X < Y
            · have kc : decide (0 < c) = true := by rw [decide_eq_true_eq]; exact hcm.2 hXY
              have eM : M = Y := by omega
              clear hmx hcm
              subst eM
              clear HS HK E3
              go_wp2_with (go_at_call 62; (with_reducible refine (HY.out _).mono ?_); rintro e w2 ⟨rfl, hb2⟩; obtain ⟨hc2, hf2⟩ := bcell hb2; have hz2 := hb2.size; (try simp at hz2); (try have hy2 := Nat.lt_of_succ_le hz2); (try have hv2 := Nat.lt_of_succ_lt hy2); (try have hw20 : w.heap.size < w2.heap.size := by omega); (try have hw21 : w.heap.size + 1 < w2.heap.size := by omega); (try have hw22 : w.heap.size + 1 + 1 < w2.heap.size := by omega); (try have hw23 : w.heap.size + 1 + 1 + 1 < w2.heap.size := by omega); (try have hx2_0 : w.heap.size < w2.heap.size := by omega); (try have hx2_1 : w.heap.size + 1 < w2.heap.size := by omega); (try have hx2_2 : w.heap.size + 1 + 1 < w2.heap.size := by omega); (try have hx2_3 : B < w2.heap.size := by omega))
              go_meet
              have HB2 := HWS.trans (hb2.mono HWS.size)
              have B0 := (hc2 B 0 zp0).trans p0_0
              have B1 := (hc2 B 1 zp0).trans p0_1
              replace q0_1 := (hc2 _ 1 z0).trans q0_1
              replace q0_2 := (hc2 _ 2 z0).trans q0_2
              replace q2_0 := (hc2 _ 0 z2).trans q2_0
              replace q2_1 := (hc2 _ 1 z2).trans q2_1
              replace q2_2 := (hc2 _ 2 z2).trans q2_2
              have n0 : ¬ w.heap.size = B := by omega
              have n2 : ¬ w.heap.size + 1 + 1 = B := by omega
              have F2 : ∀ o, w2.frozen? ⟨w.heap.size + 1 + 1, o, none⟩ = false := fun o => (hf2 _ _ z2).trans (f2 o)
              have Z2 : B < w2.heap.size := hx2_3
              refine ⟨rfl, ?_, ?_, ?_, ?_, ?_, ?_, ?_, ?_, ?_, ?_⟩
              · simp [go_sem, B0]
              · simp [go_sem, B1]
              · simp [go_sem, q0_1]
              · simp [go_sem, q0_2]
              · simp [go_sem, q2_0]
              · simp [go_sem, q2_1]
              · simp [go_sem, q2_2]
              · intro o; simp [go_sem, F2]
              · simpa using Z2
              · exact (by repeat (first | (with_reducible assumption) | (with_reducible exact Below.refl _ _) | (with_reducible refine Below.alloc ?_ (by first | omega | (simp; omega) | (simp; done) | (dsimp only; omega)) _) | (with_reducible refine Below.setCell ?_ (by first | omega | (simp; omega) | (simp; done) | (dsimp only; omega)) _) | (with_reducible refine Below.drew ?_) | (with_reducible refine Below.trans ?_ (Below.mono (by assumption) (by first | omega | (simp; omega) | (simp; done) | (dsimp only; omega))))))
            · have kc : decide (0 < c) = false := by rw [decide_eq_false_iff_not]; exact fun h => hXY (hcm.1 h)
              have eM : M = X := by omega
              clear hmx hcm HS HK E3
              subst eM
              go_wp2
              go_meet
              exact ⟨rfl, p0_0, p0_1, q0_1, q0_2, q2_0, q2_1, q2_2, f2, zp0, HWS⟩
          case rest =>
            obtain ⟨rfl, b0, b1, q01, q02, q20, q21, q22, fr, zB, HWT⟩ := hcut
            clear z0 z1 z2
            have z0 : w.heap.size < wc.heap.size := by omega
            have z2 : w.heap.size + 1 + 1 < wc.heap.size := by omega
            clear hcm hmx p0_0 p0_1 zp0 HWS q0_0 q0_1 q0_2 q1_0 q1_1 q1_2 q2_0 q2_1 q2_2 f2
            generalize hq : M - 1 = q at *
            have q0 : 0 ≤ q := by omega
            have q1 : q ≤ 9223372036854775807 := by omega
            have HE := Lib.hid E3
            have HR := Lib.hid (HM.out (max (min a.lo 0) (-q)) (min (max a.hi 0) q))
            have hw : IntKind.i64.wrap (-q) = -q := IntWalk.i64_in _ (by omega)
            clear E3 hnz hq hM HM
            generalize hP : max (min a.lo 0) (-q) = P at *
            generalize hG : min (max a.hi 0) q = G at *
            have hP' := Lib.hid hP
            have hG' := Lib.hid hG
            clear hP hG
            go_upto_if 61 with (first | (go_at_call 43; (with_reducible refine (HS.out _).mono ?_); rintro e w2 ⟨rfl, hb2⟩; obtain ⟨hc2, hf2⟩ := bcell hb2; have hz2 := hb2.size; (try simp at hz2); (try have hy2 := Nat.lt_of_succ_le hz2); (try have hv2 := Nat.lt_of_succ_lt hy2); (try have hw20 : w.heap.size < w2.heap.size := by omega); (try have hw21 : w.heap.size + 1 < w2.heap.size := by omega); (try have hw22 : w.heap.size + 1 + 1 < w2.heap.size := by omega); (try have hw23 : w.heap.size + 1 + 1 + 1 < w2.heap.size := by omega); (try have hx2_0 : w.heap.size < w2.heap.size := by omega); (try have hx2_1 : w.heap.size + 1 < w2.heap.size := by omega); (try have hx2_2 : w.heap.size + 1 + 1 < w2.heap.size := by omega)) | (go_at_call 63; (with_reducible refine (HK.out _).mono ?_); rintro e w3 ⟨rfl, hb3⟩; obtain ⟨hc3, hf3⟩ := bcell hb3; have hz3 := hb3.size; (try simp at hz3); (try have hy3 := Nat.lt_of_succ_le hz3); (try have hv3 := Nat.lt_of_succ_lt hy3); (try have hw30 : w.heap.size < w3.heap.size := by omega); (try have hw31 : w.heap.size + 1 < w3.heap.size := by omega); (try have hw32 : w.heap.size + 1 + 1 < w3.heap.size := by omega); (try have hw33 : w.heap.size + 1 + 1 + 1 < w3.heap.size := by omega); (try have hx3_0 : w.heap.size < w3.heap.size := by omega); (try have hx3_1 : w.heap.size + 1 < w3.heap.size := by omega); (try have hx3_2 : w.heap.size + 1 + 1 < w3.heap.size := by omega)))
            have HW3 := HWT.trans ((hb2.trans (hb3.mono hz2)).mono HWT.size)
            replace q01 := (hc3 _ 1 hw20).trans ((hc2 _ 1 z0).trans q01)
            replace q02 := (hc3 _ 2 hw20).trans ((hc2 _ 2 z0).trans q02)
            replace q20 := (hc3 _ 0 hw22).trans ((hc2 _ 0 z2).trans q20)
            replace q21 := (hc3 _ 1 hw22).trans ((hc2 _ 1 z2).trans q21)
            replace q22 := (hc3 _ 2 hw22).trans ((hc2 _ 2 z2).trans q22)
            replace fr := fun o => (hf3 _ o hw22).trans ((hf2 _ o z2).trans (fr o))
            replace z0 := hw30
            replace z2 := hw32
            clear hb2 hb3 hc2 hc3 hf2 hf3 HWT b0 b1 zB HS HK
            go_cut [9] (fun s9 wx => s9 = .int .i64 P ∧ wx = w3)
            case first =>
              go_wp2
              all_goals
                go_meet
                exact ⟨congrArg (Value.int .i64) (by have := hP'.out; omega), rfl⟩
            case rest =>
              obtain ⟨rfl, rfl⟩ := hcut
              go_upto_if 72 with fail
              go_cut [10] (fun s10 wx => s10 = .int .i64 G ∧ wx = wc)
              case first =>
                go_wp2
                all_goals
                  go_meet
                  exact ⟨congrArg (Value.int .i64) (by have := hG'.out; omega), rfl⟩
              case rest =>
                obtain ⟨rfl, rfl⟩ := hcut
                go_wp2_with (go_at_call 24; (with_reducible refine (HR.out _).mono ?_); rintro e w4 ⟨rfl, hb4⟩; obtain ⟨hc4, hf4⟩ := bcell hb4; have hz4 := hb4.size; (try simp at hz4); (try have hy4 := Nat.lt_of_succ_le hz4); (try have hv4 := Nat.lt_of_succ_lt hy4); (try have hw40 : w.heap.size < w4.heap.size := by omega); (try have hw41 : w.heap.size + 1 < w4.heap.size := by omega); (try have hw42 : w.heap.size + 1 + 1 < w4.heap.size := by omega); (try have hw43 : w.heap.size + 1 + 1 + 1 < w4.heap.size := by omega); (try have hx4_0 : w.heap.size < w4.heap.size := by omega); (try have hx4_1 : w.heap.size + 1 < w4.heap.size := by omega); (try have hx4_2 : w.heap.size + 1 + 1 < w4.heap.size := by omega))
                refine bodyPost_ret (by simp [results, Try.results33, go_sem, *] <;> rfl) rfl ⟨by rw [HE.out], (by repeat (first | (with_reducible assumption) | (with_reducible exact Below.refl _ _) | (with_reducible refine Below.alloc ?_ (by first | omega | (simp; omega) | (simp; done) | (dsimp only; omega)) _) | (with_reducible refine Below.setCell ?_ (by first | omega | (simp; omega) | (simp; done) | (dsimp only; omega)) _) | (with_reducible refine Below.drew ?_) | (with_reducible refine Below.trans ?_ (Below.mono (by assumption) (by first | omega | (simp; omega) | (simp; done) | (dsimp only; omega))))))⟩
        · replace E2 := E2 h3
          rw [Bool.and_eq_true] at h3
          have h0 := hbl h3.2
          have h0' : (b.lo == 0) = false := by simpa using h0
          have HD := Lib.hid (r2_do_9 a.lo b.lo ha.1 hb.1 h0' h0)
          have HR := Lib.hid (HM.out (a.lo.tmod b.lo) (a.lo.tmod b.lo))
          have HE := Lib.hid E2
          clear E2 E3
          generalize a.lo.tmod b.lo = r at *
          go_wp2_with (first | (go_at_call 18; (with_reducible refine (HD.out _).mono ?_); rintro e w4 ⟨rfl, hb4⟩; obtain ⟨hc4, hf4⟩ := bcell hb4; have hz4 := hb4.size; (try simp at hz4); (try have hy4 := Nat.lt_of_succ_le hz4); (try have hv4 := Nat.lt_of_succ_lt hy4); (try have hw40 : w.heap.size < w4.heap.size := by omega); (try have hw41 : w.heap.size + 1 < w4.heap.size := by omega); (try have hw42 : w.heap.size + 1 + 1 < w4.heap.size := by omega); (try have hw43 : w.heap.size + 1 + 1 + 1 < w4.heap.size := by omega); (try have hx4_0 : w.heap.size + 1 + 1 < w4.heap.size := by omega)) | (go_at_call 24; (with_reducible refine (HR.out _).mono ?_); rintro e w5 ⟨rfl, hb5⟩; obtain ⟨hc5, hf5⟩ := bcell hb5; have hz5 := hb5.size; (try simp at hz5); (try have hy5 := Nat.lt_of_succ_le hz5); (try have hv5 := Nat.lt_of_succ_lt hy5); (try have hw50 : w.heap.size < w5.heap.size := by omega); (try have hw51 : w.heap.size + 1 < w5.heap.size := by omega); (try have hw52 : w.heap.size + 1 + 1 < w5.heap.size := by omega); (try have hw53 : w.heap.size + 1 + 1 + 1 < w5.heap.size := by omega); (try have hx5_0 : w.heap.size + 1 + 1 < w5.heap.size := by omega)))
          refine bodyPost_ret (by simp [results, Try.results33, go_sem, *] <;> rfl) rfl ⟨by rw [HE.out], (by repeat (first | (with_reducible assumption) | (with_reducible exact Below.refl _ _) | (with_reducible refine Below.alloc ?_ (by first | omega | (simp; omega) | (simp; done) | (dsimp only; omega)) _) | (with_reducible refine Below.setCell ?_ (by first | omega | (simp; omega) | (simp; done) | (dsimp only; omega)) _) | (with_reducible refine Below.drew ?_) | (with_reducible refine Below.trans ?_ (Below.mono (by assumption) (by first | omega | (simp; omega) | (simp; done) | (dsimp only; omega))))))⟩
    · have HE := Lib.hid (E1 hz)
      clear E1 E2 E3
      go_wp2
      refine bodyPost_ret (by simp [results, Try.results33, go_sem, *] <;> rfl) rfl ⟨by rw [HE.out], (by repeat (first | (with_reducible assumption) | (with_reducible exact Below.refl _ _) | (with_reducible refine Below.alloc ?_ (by first | omega | (simp; omega) | (simp; done) | (dsimp only; omega)) _) | (with_reducible refine Below.setCell ?_ (by first | omega | (simp; omega) | (simp; done) | (dsimp only; omega)) _) | (with_reducible refine Below.drew ?_) | (with_reducible refine Below.trans ?_ (Below.mono (by assumption) (by first | omega | (simp; omega) | (simp; done) | (dsimp only; omega))))))⟩
end Go.Proofs.Ytdphjfppfngcmaa
