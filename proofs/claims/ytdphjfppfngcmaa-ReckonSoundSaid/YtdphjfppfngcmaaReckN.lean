/- What reckon.largest and reckon.remainder return: layer 4. -/
import Derived.Test.YtdphjfppfngcmaaReckM
import Derived.Test.YtdphjfppfngcmaaWrapC
namespace Go.Proofs.Ytdphjfppfngcmaa
open Go.RowKit

def negS (lo : Int) : Int := wrap64 (-(wrap64 (lo + 1)))
def largS (b : Sp) : Int := if 0 < b.hi then max (negS b.lo) (b.hi - 1) else negS b.lo

set_option maxHeartbeats 1000000 in
theorem reckon_largest (b : Sp) (hb : I64 b.lo ∧ I64 b.hi) (w : World) :
    Calls Try.prog 59 #[.agg #[.bool b.s, .int .i64 b.lo, .int .i64 b.hi]] w fun e w' => e = .returned (.int .i64 (largS b)) ∧ Below w.heap.size w w' := by
  unfold largS negS
  by_cases h : 0 < b.hi
  · rw [if_pos h]
    unfold I64 at hb
    go_enter Try.func59, Try.ntmps59
    go_wp2
    all_goals go_ret
    all_goals exact ⟨congrArg (fun x => Ending.returned (.int .i64 x)) (by omega), (by repeat (first | (with_reducible assumption) | (with_reducible exact Below.refl _ _) | (with_reducible refine Below.alloc ?_ (by first | omega | (simp; omega) | (simp; done) | (dsimp only; omega)) _) | (with_reducible refine Below.setCell ?_ (by first | omega | (simp; omega) | (simp; done) | (dsimp only; omega)) _) | (with_reducible refine Below.drew ?_) | (with_reducible refine Below.trans ?_ (Below.mono (by assumption) (by first | omega | (simp; omega) | (simp; done) | (dsimp only; omega))))))⟩
  · rw [if_neg h]
    go_enter Try.func59, Try.ntmps59
    go_wp2
    go_ret
    exact ⟨rfl, (by repeat (first | (with_reducible assumption) | (with_reducible exact Below.refl _ _) | (with_reducible refine Below.alloc ?_ (by first | omega | (simp; omega) | (simp; done) | (dsimp only; omega)) _) | (with_reducible refine Below.setCell ?_ (by first | omega | (simp; omega) | (simp; done) | (dsimp only; omega)) _) | (with_reducible refine Below.drew ?_) | (with_reducible refine Below.trans ?_ (Below.mono (by assumption) (by first | omega | (simp; omega) | (simp; done) | (dsimp only; omega))))))⟩

/-- The divisor holds another int than 0. -/
def partB (b : Sp) : Bool := !((lowP b).none && (highP b).none)
theorem partB_or {b : Sp} (h : partB b = true) : (b.none = false ∧ b.lo ≤ -1) ∨ (b.none = false ∧ 1 ≤ b.hi) := by
  unfold partB at h
  cases h1 : (lowP b).none
  · obtain ⟨h2, _, _, h3⟩ := meet_in h1
    have e1 : (Sp.of (-9223372036854775808) (-1)).hi = -1 := rfl
    rw [e1] at h3
    exact Or.inl ⟨h2, by omega⟩
  · cases h2 : (highP b).none
    · obtain ⟨h3, _, _, h4⟩ := meet_in h2
      have e1 : (Sp.of 1 9223372036854775807).lo = 1 := rfl
      rw [e1] at h4
      exact Or.inr ⟨h3, by omega⟩
    · rw [h1, h2] at h; exact absurd h (by decide)
theorem none_le {b : Sp} (h : b.none = false) : b.lo ≤ b.hi := by
  unfold Sp.none at h
  rw [Bool.or_eq_false_iff] at h
  have := of_decide_eq_false h.2
  omega
theorem largS_bd {b : Sp} (hb : I64 b.lo ∧ I64 b.hi) (h : partB b = true) : 0 ≤ largS b ∧ largS b ≤ 9223372036854775807 := by
  have h1 : b.lo ≤ b.hi ∧ (b.lo ≤ -1 ∨ 1 ≤ b.hi) := by rcases partB_or h with h | h <;> exact ⟨none_le h.1, by omega⟩
  unfold largS negS I64 wrap64 at *
  split <;> omega
theorem partB_nz {b : Sp} (h : partB b = true) (he : b.lo = b.hi) : b.lo ≠ 0 := by
  rcases partB_or h with h | h <;> omega
def remS (a b : Sp) : Sp := if partB b = false then ⟨false, 0, 0⟩ else if (a.lo == a.hi && b.lo == b.hi) = true then Sp.of (a.lo.tmod b.lo) (a.lo.tmod b.lo) else Sp.of (max (min a.lo 0) (-largS b)) (min (max a.hi 0) (largS b))
theorem of_congr {p q p' q' : Int} (h1 : p' = p) (h2 : q' = q) : Ending.returned (.agg #[.bool (Sp.of p q).s, .int .i64 (Sp.of p q).lo, .int .i64 (Sp.of p q).hi]) = Ending.returned (.agg #[.bool (Sp.of p' q').s, .int .i64 (Sp.of p' q').lo, .int .i64 (Sp.of p' q').hi]) := by subst h1 h2; rfl

set_option maxHeartbeats 2000000 in
theorem reckon_remainder (a b : Sp) (ha : I64 a.lo ∧ I64 a.hi) (hb : I64 b.lo ∧ I64 b.hi) (w : World) :
    Calls Try.prog 28 #[.agg #[.bool a.s, .int .i64 a.lo, .int .i64 a.hi], .agg #[.bool b.s, .int .i64 b.lo, .int .i64 b.hi]] w fun e w' => e = .returned (.agg #[.bool (remS a b).s, .int .i64 (remS a b).lo, .int .i64 (remS a b).hi]) ∧ Below w.heap.size w w' := by
  have HP := Lib.hid (reckon_parts b)
  have H1 := Lib.hid (span_none (lowP b))
  have H2 := Lib.hid (span_none (highP b))
  by_cases hp : partB b = true
  · have hbd := largS_bd hb hp
    have HL := Lib.hid (reckon_largest b hb)
    have hnz := partB_nz hp
    have e1 : remS a b = if (a.lo == a.hi && b.lo == b.hi) = true then Sp.of (a.lo.tmod b.lo) (a.lo.tmod b.lo) else Sp.of (max (min a.lo 0) (-largS b)) (min (max a.hi 0) (largS b)) := by unfold remS; rw [if_neg (by rw [hp]; decide)]
    have E0 : (a.lo == a.hi && b.lo == b.hi) = false → remS a b = Sp.of (max (min a.lo 0) (-largS b)) (min (max a.hi 0) (largS b)) := fun h => by rw [e1, if_neg (by rw [h]; decide)]
    have E1 : (a.lo == a.hi && b.lo == b.hi) = true → remS a b = Sp.of (a.lo.tmod b.lo) (a.lo.tmod b.lo) := fun h => by rw [e1, if_pos h]
    clear e1
    generalize remS a b = R at *
    have hq : ((lowP b).none && (highP b).none) = false := by unfold partB at hp; exact (Bool.not_eq_true' _).mp hp
    generalize largS b = m at *
    have HO : Hid (∀ lo hi w, Calls Try.prog 37 #[.int .i64 lo, .int .i64 hi] w fun e w' => e = .returned (.agg #[.bool (Sp.of lo hi).s, .int .i64 (Sp.of lo hi).lo, .int .i64 (Sp.of lo hi).hi]) ∧ Below w.heap.size w w') := Lib.hid span_of
    clear hp
    generalize lowP b = L at *
    generalize highP b = G at *
    have HN : Hid (∀ x : Sp, ∀ w, Calls Try.prog 25 #[.agg #[.bool x.s, .int .i64 x.lo, .int .i64 x.hi]] w fun e w' => e = .returned (.bool x.none) ∧ Below w.heap.size w w') := Lib.hid span_none
    clear H1 H2
    go_enter Try.func28, Try.ntmps28
    go_upto_region 1 with fail
    generalize hW : (((w.alloc (.cells #[.bool a.s, .int .i64 a.lo, .int .i64 a.hi] 23)).alloc (.cells #[.bool b.s, .int .i64 b.lo, .int .i64 b.hi] 23)).alloc (.cells #[.bool false, .int .i64 0, .int .i64 0] 23)) = W
    have q0_0 : W.cell? ⟨w.heap.size, 0, none⟩ = some (.bool a.s) := by rw [← hW]; simp [go_sem]
    have q0_1 : W.cell? ⟨w.heap.size, 1, none⟩ = some (.int .i64 a.lo) := by rw [← hW]; simp [go_sem]
    have q0_2 : W.cell? ⟨w.heap.size, 2, none⟩ = some (.int .i64 a.hi) := by rw [← hW]; simp [go_sem]
    have q1_0 : W.cell? ⟨w.heap.size + 1, 0, none⟩ = some (.bool b.s) := by rw [← hW]; simp [go_sem]
    have q1_1 : W.cell? ⟨w.heap.size + 1, 1, none⟩ = some (.int .i64 b.lo) := by rw [← hW]; simp [go_sem]
    have q1_2 : W.cell? ⟨w.heap.size + 1, 2, none⟩ = some (.int .i64 b.hi) := by rw [← hW]; simp [go_sem]
    have q2_0 : W.cell? ⟨w.heap.size + 1 + 1, 0, none⟩ = some (.bool false) := by rw [← hW]; simp [go_sem]
    have q2_1 : W.cell? ⟨w.heap.size + 1 + 1, 1, none⟩ = some (.int .i64 0) := by rw [← hW]; simp [go_sem]
    have q2_2 : W.cell? ⟨w.heap.size + 1 + 1, 2, none⟩ = some (.int .i64 0) := by rw [← hW]; simp [go_sem]
    have f0 : ∀ o, W.frozen? ⟨w.heap.size, o, none⟩ = false := by intro o; rw [← hW]; simp [go_sem]
    have f1 : ∀ o, W.frozen? ⟨w.heap.size + 1, o, none⟩ = false := by intro o; rw [← hW]; simp [go_sem]
    have f2 : ∀ o, W.frozen? ⟨w.heap.size + 1 + 1, o, none⟩ = false := by intro o; rw [← hW]; simp [go_sem]
    have z0 : w.heap.size < W.heap.size := by rw [← hW]; first | (simp; done) | (simp; omega)
    have z1 : w.heap.size + 1 < W.heap.size := by rw [← hW]; first | (simp; done) | (simp; omega)
    have z2 : w.heap.size + 1 + 1 < W.heap.size := by rw [← hW]; first | (simp; done) | (simp; omega)
    have HW : Below w.heap.size w W := by rw [← hW]; exact (by repeat (first | (with_reducible assumption) | (with_reducible exact Below.refl _ _) | (with_reducible refine Below.alloc ?_ (by first | omega | (simp; omega) | (simp; done) | (dsimp only; omega)) _) | (with_reducible refine Below.setCell ?_ (by first | omega | (simp; omega) | (simp; done) | (dsimp only; omega)) _) | (with_reducible refine Below.drew ?_) | (with_reducible refine Below.trans ?_ (Below.mono (by assumption) (by first | omega | (simp; omega) | (simp; done) | (dsimp only; omega))))))
    clear hW
    go_upto_region 2 with (go_at_call 57; (with_reducible refine (HP.out _).mono ?_); rintro e w1 ⟨rfl, hb1⟩; obtain ⟨hc1, hf1⟩ := bcell hb1; have hz1 := hb1.size; (try simp at hz1); (try have hy1 := Nat.lt_of_succ_le hz1); (try have hv1 := Nat.lt_of_succ_lt hy1); (try have hw10 : w.heap.size < w1.heap.size := by omega); (try have hw11 : w.heap.size + 1 < w1.heap.size := by omega); (try have hw12 : w.heap.size + 1 + 1 < w1.heap.size := by omega); (try have hw13 : w.heap.size + 1 + 1 + 1 < w1.heap.size := by omega))
    generalize hV : ((w1.alloc (.cells #[.bool L.s, .int .i64 L.lo, .int .i64 L.hi] 23)).alloc (.cells #[.bool G.s, .int .i64 G.lo, .int .i64 G.hi] 23)) = V
    have p0_0 : V.cell? ⟨w1.heap.size, 0, none⟩ = some (.bool L.s) := by rw [← hV]; simp [go_sem]
    have p0_1 : V.cell? ⟨w1.heap.size, 1, none⟩ = some (.int .i64 L.lo) := by rw [← hV]; simp [go_sem]
    have p0_2 : V.cell? ⟨w1.heap.size, 2, none⟩ = some (.int .i64 L.hi) := by rw [← hV]; simp [go_sem]
    have p1_0 : V.cell? ⟨w1.heap.size + 1, 0, none⟩ = some (.bool G.s) := by rw [← hV]; simp [go_sem]
    have p1_1 : V.cell? ⟨w1.heap.size + 1, 1, none⟩ = some (.int .i64 G.lo) := by rw [← hV]; simp [go_sem]
    have p1_2 : V.cell? ⟨w1.heap.size + 1, 2, none⟩ = some (.int .i64 G.hi) := by rw [← hV]; simp [go_sem]
    have fp0 : ∀ o, V.frozen? ⟨w1.heap.size, o, none⟩ = false := by intro o; rw [← hV]; simp [go_sem]
    have fp1 : ∀ o, V.frozen? ⟨w1.heap.size + 1, o, none⟩ = false := by intro o; rw [← hV]; simp [go_sem]
    have zp0 : w1.heap.size < V.heap.size := by rw [← hV]; first | (simp; done) | (simp; omega)
    have zp1 : w1.heap.size + 1 < V.heap.size := by rw [← hV]; first | (simp; done) | (simp; omega)
    have HV : Below w1.heap.size w1 V := by rw [← hV]; exact (by repeat (first | (with_reducible assumption) | (with_reducible exact Below.refl _ _) | (with_reducible refine Below.alloc ?_ (by first | omega | (simp; omega) | (simp; done) | (dsimp only; omega)) _) | (with_reducible refine Below.setCell ?_ (by first | omega | (simp; omega) | (simp; done) | (dsimp only; omega)) _) | (with_reducible refine Below.drew ?_) | (with_reducible refine Below.trans ?_ (Below.mono (by assumption) (by first | omega | (simp; omega) | (simp; done) | (dsimp only; omega))))))
    clear hV
    have hWV := hb1.trans (HV.mono hb1.size)
    have HWV := HW.trans (hWV.mono HW.size)
    replace f2 := fun o => (hWV.frozen (p := ⟨w.heap.size + 1 + 1, o, none⟩) z2).trans (f2 o)
    replace q0_0 := (hWV.cell (p := ⟨w.heap.size, 0, none⟩) z0).trans q0_0
    replace q0_1 := (hWV.cell (p := ⟨w.heap.size, 1, none⟩) z0).trans q0_1
    replace q0_2 := (hWV.cell (p := ⟨w.heap.size, 2, none⟩) z0).trans q0_2
    replace q1_0 := (hWV.cell (p := ⟨w.heap.size + 1, 0, none⟩) z1).trans q1_0
    replace q1_1 := (hWV.cell (p := ⟨w.heap.size + 1, 1, none⟩) z1).trans q1_1
    replace q1_2 := (hWV.cell (p := ⟨w.heap.size + 1, 2, none⟩) z1).trans q1_2
    replace q2_0 := (hWV.cell (p := ⟨w.heap.size + 1 + 1, 0, none⟩) z2).trans q2_0
    replace q2_1 := (hWV.cell (p := ⟨w.heap.size + 1 + 1, 1, none⟩) z2).trans q2_1
    replace q2_2 := (hWV.cell (p := ⟨w.heap.size + 1 + 1, 2, none⟩) z2).trans q2_2
    replace z0 := Nat.lt_of_lt_of_le z0 hWV.size
    replace z1 := Nat.lt_of_lt_of_le z1 hWV.size
    replace z2 := Nat.lt_of_lt_of_le z2 hWV.size
    clear hc1 hf1 hb1 hz1 hw10 hw11 hw12 HW HV hWV f0 f1
    go_cut [20] (fun s20 wx => s20 = .bool false ∧ Below V.heap.size V wx)
    case first =>
      have G1 := Lib.hid (HN.out L)
      have G2 := Lib.hid (HN.out G)
      generalize L.none = ln at *
      generalize G.none = gn at *
      cases ln <;> cases gn
      case true.true => exact absurd hq (by decide)
      all_goals
        go_wp2_with (first | (go_at_call 25; (with_reducible refine (G1.out _).mono ?_); rintro e w2 ⟨rfl, hb2⟩; obtain ⟨hc2, hf2⟩ := bcell hb2; have hz2 := hb2.size; (try simp at hz2); (try have hy2 := Nat.lt_of_succ_le hz2); (try have hv2 := Nat.lt_of_succ_lt hy2); (try have hw20 : w.heap.size < w2.heap.size := by omega); (try have hw21 : w.heap.size + 1 < w2.heap.size := by omega); (try have hw22 : w.heap.size + 1 + 1 < w2.heap.size := by omega); (try have hw23 : w.heap.size + 1 + 1 + 1 < w2.heap.size := by omega)) | (go_at_call 25; (with_reducible refine (G2.out _).mono ?_); rintro e w3 ⟨rfl, hb3⟩; obtain ⟨hc3, hf3⟩ := bcell hb3; have hz3 := hb3.size; (try simp at hz3); (try have hy3 := Nat.lt_of_succ_le hz3); (try have hv3 := Nat.lt_of_succ_lt hy3); (try have hw30 : w.heap.size < w3.heap.size := by omega); (try have hw31 : w.heap.size + 1 < w3.heap.size := by omega); (try have hw32 : w.heap.size + 1 + 1 < w3.heap.size := by omega); (try have hw33 : w.heap.size + 1 + 1 + 1 < w3.heap.size := by omega)))
        go_meet
        exact ⟨rfl, (by repeat (first | (with_reducible assumption) | (with_reducible exact Below.refl _ _) | (with_reducible refine Below.alloc ?_ (by first | omega | (simp; omega) | (simp; done) | (dsimp only; omega)) _) | (with_reducible refine Below.setCell ?_ (by first | omega | (simp; omega) | (simp; done) | (dsimp only; omega)) _) | (with_reducible refine Below.drew ?_) | (with_reducible refine Below.trans ?_ (Below.mono (by assumption) (by first | omega | (simp; omega) | (simp; done) | (dsimp only; omega))))))⟩
    case rest =>
      obtain ⟨rfl, hB⟩ := hcut
      have HWB := HWV.trans (hB.mono HWV.size)
      replace f2 := fun o => (hB.frozen (p := ⟨w.heap.size + 1 + 1, o, none⟩) z2).trans (f2 o)
      replace q0_0 := (hB.cell (p := ⟨w.heap.size, 0, none⟩) z0).trans q0_0
      replace q0_1 := (hB.cell (p := ⟨w.heap.size, 1, none⟩) z0).trans q0_1
      replace q0_2 := (hB.cell (p := ⟨w.heap.size, 2, none⟩) z0).trans q0_2
      replace q1_0 := (hB.cell (p := ⟨w.heap.size + 1, 0, none⟩) z1).trans q1_0
      replace q1_1 := (hB.cell (p := ⟨w.heap.size + 1, 1, none⟩) z1).trans q1_1
      replace q1_2 := (hB.cell (p := ⟨w.heap.size + 1, 2, none⟩) z1).trans q1_2
      replace q2_0 := (hB.cell (p := ⟨w.heap.size + 1 + 1, 0, none⟩) z2).trans q2_0
      replace q2_1 := (hB.cell (p := ⟨w.heap.size + 1 + 1, 1, none⟩) z2).trans q2_1
      replace q2_2 := (hB.cell (p := ⟨w.heap.size + 1 + 1, 2, none⟩) z2).trans q2_2
      replace z0 := Nat.lt_of_lt_of_le z0 hB.size
      replace z1 := Nat.lt_of_lt_of_le z1 hB.size
      replace z2 := Nat.lt_of_lt_of_le z2 hB.size
      clear p0_0 p0_1 p0_2 p1_0 p1_1 p1_2 fp0 fp1 zp0 zp1 HP HN hq HWV hB
      go_upto_region 4 with fail
      go_cut [33] (fun s33 wx => s33 = .bool (a.lo == a.hi && b.lo == b.hi) ∧ wx = wc)
      case first =>
        cases h1 : a.lo == a.hi <;> cases h2 : b.lo == b.hi
        all_goals
          go_wp2
          go_meet
          exact ⟨by rw [h1, h2]; rfl, rfl⟩
      case rest =>
        obtain ⟨rfl, rfl⟩ := hcut
        cases h3 : (a.lo == a.hi && b.lo == b.hi)
        · replace E0 := E0 h3
          clear E1
          unfold I64 at ha
          go_upto_region 8 with (go_at_call 59; (with_reducible refine (HL.out _).mono ?_); rintro e w4 ⟨rfl, hb4⟩; obtain ⟨hc4, hf4⟩ := bcell hb4; have hz4 := hb4.size; (try simp at hz4); (try have hy4 := Nat.lt_of_succ_le hz4); (try have hv4 := Nat.lt_of_succ_lt hy4); (try have hw40 : w.heap.size < w4.heap.size := by omega); (try have hw41 : w.heap.size + 1 < w4.heap.size := by omega); (try have hw42 : w.heap.size + 1 + 1 < w4.heap.size := by omega); (try have hw43 : w.heap.size + 1 + 1 + 1 < w4.heap.size := by omega))
          have E2 : ∀ p q, (p = max (min a.lo 0) (-m) ∧ q = min (max a.hi 0) m) → Ending.returned (.agg #[.bool (Sp.of p q).s, .int .i64 (Sp.of p q).lo, .int .i64 (Sp.of p q).hi]) = Ending.returned (.agg #[.bool R.s, .int .i64 R.lo, .int .i64 R.hi]) := fun p q h => by rw [E0, h.1, h.2]
          have HE2 := Lib.hid E2
          clear E0 E2
          go_wp2_with fail
          all_goals
            (go_at_call 37; (with_reducible refine (HO.out _ _ _).mono ?_); rintro e w5 ⟨rfl, hb5⟩; obtain ⟨hc5, hf5⟩ := bcell hb5; have hz5 := hb5.size; (try simp at hz5); (try have hy5 := Nat.lt_of_succ_le hz5); (try have hv5 := Nat.lt_of_succ_lt hy5); (try have hw50 : w.heap.size < w5.heap.size := by omega); (try have hw51 : w.heap.size + 1 < w5.heap.size := by omega); (try have hw52 : w.heap.size + 1 + 1 < w5.heap.size := by omega); (try have hw53 : w.heap.size + 1 + 1 + 1 < w5.heap.size := by omega))
            go_wp2
            refine bodyPost_ret (by simp [results, Try.results28, go_sem, *] <;> rfl) rfl ⟨?_, (by repeat (first | (with_reducible assumption) | (with_reducible exact Below.refl _ _) | (with_reducible refine Below.alloc ?_ (by first | omega | (simp; omega) | (simp; done) | (dsimp only; omega)) _) | (with_reducible refine Below.setCell ?_ (by first | omega | (simp; omega) | (simp; done) | (dsimp only; omega)) _) | (with_reducible refine Below.drew ?_) | (with_reducible refine Below.trans ?_ (Below.mono (by assumption) (by first | omega | (simp; omega) | (simp; done) | (dsimp only; omega))))))⟩
            exact HE2.out _ _ ⟨by omega, by omega⟩
        · replace E1 := E1 h3
          clear E0
          rw [Bool.and_eq_true] at h3
          have h0 : ¬ b.lo = 0 := hnz (by simpa using h3.2)
          have h0' : (b.lo == 0) = false := by simpa using h0
          have HD := Lib.hid (wrap_do_9 a.lo b.lo h0' h0)
          generalize a.lo.tmod b.lo = r at *
          have HR := Lib.hid (span_one r)
          go_wp2_with (first | (go_at_call 58; (with_reducible refine (HD.out _).mono ?_); rintro e w4 ⟨rfl, hb4⟩; obtain ⟨hc4, hf4⟩ := bcell hb4; have hz4 := hb4.size; (try simp at hz4); (try have hy4 := Nat.lt_of_succ_le hz4); (try have hv4 := Nat.lt_of_succ_lt hy4); (try have hw40 : w.heap.size < w4.heap.size := by omega); (try have hw41 : w.heap.size + 1 < w4.heap.size := by omega); (try have hw42 : w.heap.size + 1 + 1 < w4.heap.size := by omega); (try have hw43 : w.heap.size + 1 + 1 + 1 < w4.heap.size := by omega)) | (go_at_call 23; (with_reducible refine (HR.out _).mono ?_); rintro e w5 ⟨rfl, hb5⟩; obtain ⟨hc5, hf5⟩ := bcell hb5; have hz5 := hb5.size; (try simp at hz5); (try have hy5 := Nat.lt_of_succ_le hz5); (try have hv5 := Nat.lt_of_succ_lt hy5); (try have hw50 : w.heap.size < w5.heap.size := by omega); (try have hw51 : w.heap.size + 1 < w5.heap.size := by omega); (try have hw52 : w.heap.size + 1 + 1 < w5.heap.size := by omega); (try have hw53 : w.heap.size + 1 + 1 + 1 < w5.heap.size := by omega)))
          refine bodyPost_ret (by simp [results, Try.results28, go_sem, *] <;> rfl) rfl ⟨by rw [E1], (by repeat (first | (with_reducible assumption) | (with_reducible exact Below.refl _ _) | (with_reducible refine Below.alloc ?_ (by first | omega | (simp; omega) | (simp; done) | (dsimp only; omega)) _) | (with_reducible refine Below.setCell ?_ (by first | omega | (simp; omega) | (simp; done) | (dsimp only; omega)) _) | (with_reducible refine Below.drew ?_) | (with_reducible refine Below.trans ?_ (Below.mono (by assumption) (by first | omega | (simp; omega) | (simp; done) | (dsimp only; omega))))))⟩
  · have hp' : partB b = false := by simpa using hp
    have e1 : remS a b = ⟨false, 0, 0⟩ := if_pos hp'
    rw [e1]
    have hq : (lowP b).none = true ∧ (highP b).none = true := by
      unfold partB at hp
      cases g1 : (lowP b).none <;> cases g2 : (highP b).none
      case true.true => exact ⟨rfl, rfl⟩
      all_goals exact absurd (by rw [g1, g2]; rfl) hp
    rw [hq.1] at H1
    rw [hq.2] at H2
    clear hq
    generalize lowP b = L at *
    generalize highP b = G at *
    go_enter Try.func28, Try.ntmps28
    go_upto_region 1 with fail
    generalize hW : (((w.alloc (.cells #[.bool a.s, .int .i64 a.lo, .int .i64 a.hi] 23)).alloc (.cells #[.bool b.s, .int .i64 b.lo, .int .i64 b.hi] 23)).alloc (.cells #[.bool false, .int .i64 0, .int .i64 0] 23)) = W
    have q0_0 : W.cell? ⟨w.heap.size, 0, none⟩ = some (.bool a.s) := by rw [← hW]; simp [go_sem]
    have q0_1 : W.cell? ⟨w.heap.size, 1, none⟩ = some (.int .i64 a.lo) := by rw [← hW]; simp [go_sem]
    have q0_2 : W.cell? ⟨w.heap.size, 2, none⟩ = some (.int .i64 a.hi) := by rw [← hW]; simp [go_sem]
    have q1_0 : W.cell? ⟨w.heap.size + 1, 0, none⟩ = some (.bool b.s) := by rw [← hW]; simp [go_sem]
    have q1_1 : W.cell? ⟨w.heap.size + 1, 1, none⟩ = some (.int .i64 b.lo) := by rw [← hW]; simp [go_sem]
    have q1_2 : W.cell? ⟨w.heap.size + 1, 2, none⟩ = some (.int .i64 b.hi) := by rw [← hW]; simp [go_sem]
    have q2_0 : W.cell? ⟨w.heap.size + 1 + 1, 0, none⟩ = some (.bool false) := by rw [← hW]; simp [go_sem]
    have q2_1 : W.cell? ⟨w.heap.size + 1 + 1, 1, none⟩ = some (.int .i64 0) := by rw [← hW]; simp [go_sem]
    have q2_2 : W.cell? ⟨w.heap.size + 1 + 1, 2, none⟩ = some (.int .i64 0) := by rw [← hW]; simp [go_sem]
    have f0 : ∀ o, W.frozen? ⟨w.heap.size, o, none⟩ = false := by intro o; rw [← hW]; simp [go_sem]
    have f1 : ∀ o, W.frozen? ⟨w.heap.size + 1, o, none⟩ = false := by intro o; rw [← hW]; simp [go_sem]
    have f2 : ∀ o, W.frozen? ⟨w.heap.size + 1 + 1, o, none⟩ = false := by intro o; rw [← hW]; simp [go_sem]
    have z0 : w.heap.size < W.heap.size := by rw [← hW]; first | (simp; done) | (simp; omega)
    have z1 : w.heap.size + 1 < W.heap.size := by rw [← hW]; first | (simp; done) | (simp; omega)
    have z2 : w.heap.size + 1 + 1 < W.heap.size := by rw [← hW]; first | (simp; done) | (simp; omega)
    have HW : Below w.heap.size w W := by rw [← hW]; exact (by repeat (first | (with_reducible assumption) | (with_reducible exact Below.refl _ _) | (with_reducible refine Below.alloc ?_ (by first | omega | (simp; omega) | (simp; done) | (dsimp only; omega)) _) | (with_reducible refine Below.setCell ?_ (by first | omega | (simp; omega) | (simp; done) | (dsimp only; omega)) _) | (with_reducible refine Below.drew ?_) | (with_reducible refine Below.trans ?_ (Below.mono (by assumption) (by first | omega | (simp; omega) | (simp; done) | (dsimp only; omega))))))
    clear hW
    go_upto_region 2 with (go_at_call 57; (with_reducible refine (HP.out _).mono ?_); rintro e w1 ⟨rfl, hb1⟩; obtain ⟨hc1, hf1⟩ := bcell hb1; have hz1 := hb1.size; (try simp at hz1); (try have hy1 := Nat.lt_of_succ_le hz1); (try have hv1 := Nat.lt_of_succ_lt hy1); (try have hw10 : w.heap.size < w1.heap.size := by omega); (try have hw11 : w.heap.size + 1 < w1.heap.size := by omega); (try have hw12 : w.heap.size + 1 + 1 < w1.heap.size := by omega); (try have hw13 : w.heap.size + 1 + 1 + 1 < w1.heap.size := by omega))
    generalize hV : ((w1.alloc (.cells #[.bool L.s, .int .i64 L.lo, .int .i64 L.hi] 23)).alloc (.cells #[.bool G.s, .int .i64 G.lo, .int .i64 G.hi] 23)) = V
    have p0_0 : V.cell? ⟨w1.heap.size, 0, none⟩ = some (.bool L.s) := by rw [← hV]; simp [go_sem]
    have p0_1 : V.cell? ⟨w1.heap.size, 1, none⟩ = some (.int .i64 L.lo) := by rw [← hV]; simp [go_sem]
    have p0_2 : V.cell? ⟨w1.heap.size, 2, none⟩ = some (.int .i64 L.hi) := by rw [← hV]; simp [go_sem]
    have p1_0 : V.cell? ⟨w1.heap.size + 1, 0, none⟩ = some (.bool G.s) := by rw [← hV]; simp [go_sem]
    have p1_1 : V.cell? ⟨w1.heap.size + 1, 1, none⟩ = some (.int .i64 G.lo) := by rw [← hV]; simp [go_sem]
    have p1_2 : V.cell? ⟨w1.heap.size + 1, 2, none⟩ = some (.int .i64 G.hi) := by rw [← hV]; simp [go_sem]
    have fp0 : ∀ o, V.frozen? ⟨w1.heap.size, o, none⟩ = false := by intro o; rw [← hV]; simp [go_sem]
    have fp1 : ∀ o, V.frozen? ⟨w1.heap.size + 1, o, none⟩ = false := by intro o; rw [← hV]; simp [go_sem]
    have zp0 : w1.heap.size < V.heap.size := by rw [← hV]; first | (simp; done) | (simp; omega)
    have zp1 : w1.heap.size + 1 < V.heap.size := by rw [← hV]; first | (simp; done) | (simp; omega)
    have HV : Below w1.heap.size w1 V := by rw [← hV]; exact (by repeat (first | (with_reducible assumption) | (with_reducible exact Below.refl _ _) | (with_reducible refine Below.alloc ?_ (by first | omega | (simp; omega) | (simp; done) | (dsimp only; omega)) _) | (with_reducible refine Below.setCell ?_ (by first | omega | (simp; omega) | (simp; done) | (dsimp only; omega)) _) | (with_reducible refine Below.drew ?_) | (with_reducible refine Below.trans ?_ (Below.mono (by assumption) (by first | omega | (simp; omega) | (simp; done) | (dsimp only; omega))))))
    clear hV
    have hWV := hb1.trans (HV.mono hb1.size)
    have HWV := HW.trans (hWV.mono HW.size)
    replace f2 := fun o => (hWV.frozen (p := ⟨w.heap.size + 1 + 1, o, none⟩) z2).trans (f2 o)
    replace q0_0 := (hWV.cell (p := ⟨w.heap.size, 0, none⟩) z0).trans q0_0
    replace q0_1 := (hWV.cell (p := ⟨w.heap.size, 1, none⟩) z0).trans q0_1
    replace q0_2 := (hWV.cell (p := ⟨w.heap.size, 2, none⟩) z0).trans q0_2
    replace q1_0 := (hWV.cell (p := ⟨w.heap.size + 1, 0, none⟩) z1).trans q1_0
    replace q1_1 := (hWV.cell (p := ⟨w.heap.size + 1, 1, none⟩) z1).trans q1_1
    replace q1_2 := (hWV.cell (p := ⟨w.heap.size + 1, 2, none⟩) z1).trans q1_2
    replace q2_0 := (hWV.cell (p := ⟨w.heap.size + 1 + 1, 0, none⟩) z2).trans q2_0
    replace q2_1 := (hWV.cell (p := ⟨w.heap.size + 1 + 1, 1, none⟩) z2).trans q2_1
    replace q2_2 := (hWV.cell (p := ⟨w.heap.size + 1 + 1, 2, none⟩) z2).trans q2_2
    replace z0 := Nat.lt_of_lt_of_le z0 hWV.size
    replace z1 := Nat.lt_of_lt_of_le z1 hWV.size
    replace z2 := Nat.lt_of_lt_of_le z2 hWV.size
    clear hc1 hf1 hb1 hz1 hw10 hw11 hw12 HW HV hWV f0 f1
    go_wp2_with (first | (go_at_call 25; (with_reducible refine (H1.out _).mono ?_); rintro e w2 ⟨rfl, hb2⟩; obtain ⟨hc2, hf2⟩ := bcell hb2; have hz2 := hb2.size; (try simp at hz2); (try have hy2 := Nat.lt_of_succ_le hz2); (try have hv2 := Nat.lt_of_succ_lt hy2); (try have hw20 : w.heap.size < w2.heap.size := by omega); (try have hw21 : w.heap.size + 1 < w2.heap.size := by omega); (try have hw22 : w.heap.size + 1 + 1 < w2.heap.size := by omega); (try have hw23 : w.heap.size + 1 + 1 + 1 < w2.heap.size := by omega)) | (go_at_call 25; (with_reducible refine (H2.out _).mono ?_); rintro e w3 ⟨rfl, hb3⟩; obtain ⟨hc3, hf3⟩ := bcell hb3; have hz3 := hb3.size; (try simp at hz3); (try have hy3 := Nat.lt_of_succ_le hz3); (try have hv3 := Nat.lt_of_succ_lt hy3); (try have hw30 : w.heap.size < w3.heap.size := by omega); (try have hw31 : w.heap.size + 1 < w3.heap.size := by omega); (try have hw32 : w.heap.size + 1 + 1 < w3.heap.size := by omega); (try have hw33 : w.heap.size + 1 + 1 + 1 < w3.heap.size := by omega)))
    refine bodyPost_ret (by simp [results, Try.results28, go_sem, *] <;> rfl) rfl ⟨rfl, (by repeat (first | (with_reducible assumption) | (with_reducible exact Below.refl _ _) | (with_reducible refine Below.alloc ?_ (by first | omega | (simp; omega) | (simp; done) | (dsimp only; omega)) _) | (with_reducible refine Below.setCell ?_ (by first | omega | (simp; omega) | (simp; done) | (dsimp only; omega)) _) | (with_reducible refine Below.drew ?_) | (with_reducible refine Below.trans ?_ (Below.mono (by assumption) (by first | omega | (simp; omega) | (simp; done) | (dsimp only; omega))))))⟩
end Go.Proofs.Ytdphjfppfngcmaa
