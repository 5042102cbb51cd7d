/- What reckon.quotient returns: layer 4. -/
import Derived.Test.YtdphjfppfngcmaaReckL
import Derived.Test.YtdphjfppfngcmaaAlloc
namespace Go.Proofs.Ytdphjfppfngcmaa
open Go.RowKit

/-- What the quotients of a part of the divisor are. -/
def quoP (a s : Sp) : List Int := if s.none then [] else [a.lo.tdiv s.lo, a.lo.tdiv s.hi, a.hi.tdiv s.lo, a.hi.tdiv s.hi]
def quoL (a b : Sp) (j : Nat) : List Int := (if 1 ≤ j then quoP a (lowP b) else []) ++ (if 2 ≤ j then quoP a (highP b) else [])

theorem meet_in {a b : Sp} (h : (a.meet b).none = false) : a.none = false ∧ b.none = false ∧ a.meet b = ⟨true, max a.lo b.lo, min a.hi b.hi⟩ ∧ max a.lo b.lo ≤ min a.hi b.hi := by
  unfold Sp.meet at h ⊢
  by_cases h1 : (a.none || b.none) = true
  · rw [if_pos h1] at h
    exact absurd h (by decide)
  · rw [if_neg h1] at h ⊢
    unfold Sp.of Sp.clean at h ⊢
    by_cases h2 : (⟨true, max a.lo b.lo, min a.hi b.hi⟩ : Sp).none = true
    · rw [if_pos h2] at h
      exact absurd h (by decide)
    · rw [if_neg h2]
      have h3 : ¬ (min a.hi b.hi < max a.lo b.lo) := fun hc => h2 (by unfold Sp.none; simp only [hc, decide_true, Bool.or_true])
      refine ⟨?_, ?_, rfl, by omega⟩
      · cases h4 : a.none
        · rfl
        · exact absurd (by rw [h4]; rfl) h1
      · cases h4 : b.none
        · rfl
        · exact absurd (by rw [h4, Bool.or_true]) h1
theorem lowP_in {b : Sp} (hb : I64 b.lo ∧ I64 b.hi) (h : (lowP b).none = false) : I64 (lowP b).lo ∧ I64 (lowP b).hi ∧ (lowP b).lo ≠ 0 ∧ (lowP b).hi ≠ 0 := by
  have eo : Sp.of (-9223372036854775808) (-1) = ⟨true, -9223372036854775808, -1⟩ := rfl
  unfold lowP at *
  obtain ⟨_, _, e, hle⟩ := meet_in h
  rw [e]
  rw [eo] at hle ⊢
  unfold I64 at *
  dsimp only at hle ⊢
  omega
theorem highP_in {b : Sp} (hb : I64 b.lo ∧ I64 b.hi) (h : (highP b).none = false) : I64 (highP b).lo ∧ I64 (highP b).hi ∧ (highP b).lo ≠ 0 ∧ (highP b).hi ≠ 0 := by
  have eo : Sp.of 1 9223372036854775807 = ⟨true, 1, 9223372036854775807⟩ := rfl
  unfold highP at *
  obtain ⟨_, _, e, hle⟩ := meet_in h
  rw [e]
  rw [eo] at hle ⊢
  unfold I64 at *
  dsimp only at hle ⊢
  omega
theorem quoL_len (a b : Sp) (j : Nat) : (quoL a b j).length ≤ 8 := by
  unfold quoL quoP
  split <;> split <;> (try split) <;> (try split) <;> simp

structure QFacts (w X : World) (n S : Nat) (a m1 m2 : Sp) : Prop where
  a1 : X.cell? ⟨n, 1, none⟩ = some (.int .i64 a.lo)
  a2 : X.cell? ⟨n, 2, none⟩ = some (.int .i64 a.hi)
  s0 : X.cell? ⟨S, 0, none⟩ = some (.bool m1.s)
  s1 : X.cell? ⟨S, 1, none⟩ = some (.int .i64 m1.lo)
  s2 : X.cell? ⟨S, 2, none⟩ = some (.int .i64 m1.hi)
  s3 : X.cell? ⟨S, 3, none⟩ = some (.bool m2.s)
  s4 : X.cell? ⟨S, 4, none⟩ = some (.int .i64 m2.lo)
  s5 : X.cell? ⟨S, 5, none⟩ = some (.int .i64 m2.hi)
  z1 : n + 3 < S
  z2 : S < X.heap.size
  r0 : X.cell? ⟨n + 1 + 1, 0, none⟩ = some (.bool false)
  r1 : X.cell? ⟨n + 1 + 1, 1, none⟩ = some (.int .i64 0)
  r2 : X.cell? ⟨n + 1 + 1, 2, none⟩ = some (.int .i64 0)
  fr : ∀ o, X.frozen? ⟨n + 1 + 1, o, none⟩ = false
  below : Below n w X

def QRel (w : World) (n S : Nat) (a b : Sp) (v21 : Value) (wx : World) : Prop :=
  ∃ j : Nat, j ≤ 2 ∧ v21 = .int .i64 j ∧ ∃ X v, QI X (n + 1 + 1 + 1) v (quoL a b j) wx ∧ QFacts w X n S a (lowP b) (highP b)

set_option maxRecDepth 100000 in
set_option maxHeartbeats 4000000 in
theorem reckon_quotient (a b : Sp) (ha : I64 a.lo ∧ I64 a.hi) (hb : I64 b.lo ∧ I64 b.hi) (w : World) :
    Calls Try.prog 27 #[.agg #[.bool a.s, .int .i64 a.lo, .int .i64 a.hi], .agg #[.bool b.s, .int .i64 b.lo, .int .i64 b.hi]] w fun e w' => e = .returned (.agg #[.bool (betS (quoL a b 2)).s, .int .i64 (betS (quoL a b 2)).lo, .int .i64 (betS (quoL a b 2)).hi]) ∧ Below w.heap.size w w' := by
  have HP := Lib.hid (reckon_parts b)
  have hmf : ∀ (fn : Fn) (first cap : Array Value) (w : World), (Instr.makeFunc fn first cap).run Try.prog w = .ok (.func fn first cap) w := fun _ _ _ _ => rfl
  go_enter Try.func27, Try.ntmps27
  go_upto_region 2 with fail
  generalize hW : ((((w.alloc (.cells #[.bool a.s, .int .i64 a.lo, .int .i64 a.hi] 23)).alloc (.cells #[.bool b.s, .int .i64 b.lo, .int .i64 b.hi] 23)).alloc (.cells #[.bool false, .int .i64 0, .int .i64 0] 23)).alloc (.cells #[.slice none 0 0] 50)) = W
  have q0_0 : W.cell? ⟨w.heap.size, 0, none⟩ = some (.bool a.s) := by rw [← hW]; simp [go_sem]
  have q0_1 : W.cell? ⟨w.heap.size, 1, none⟩ = some (.int .i64 a.lo) := by rw [← hW]; simp [go_sem]
  have q0_2 : W.cell? ⟨w.heap.size, 2, none⟩ = some (.int .i64 a.hi) := by rw [← hW]; simp [go_sem]
  have q1_0 : W.cell? ⟨w.heap.size + 1, 0, none⟩ = some (.bool b.s) := by rw [← hW]; simp [go_sem]
  have q1_1 : W.cell? ⟨w.heap.size + 1, 1, none⟩ = some (.int .i64 b.lo) := by rw [← hW]; simp [go_sem]
  have q1_2 : W.cell? ⟨w.heap.size + 1, 2, none⟩ = some (.int .i64 b.hi) := by rw [← hW]; simp [go_sem]
  have q2_0 : W.cell? ⟨w.heap.size + 1 + 1, 0, none⟩ = some (.bool false) := by rw [← hW]; simp [go_sem]
  have q2_1 : W.cell? ⟨w.heap.size + 1 + 1, 1, none⟩ = some (.int .i64 0) := by rw [← hW]; simp [go_sem]
  have q2_2 : W.cell? ⟨w.heap.size + 1 + 1, 2, none⟩ = some (.int .i64 0) := by rw [← hW]; simp [go_sem]
  have q3_0 : W.cell? ⟨w.heap.size + 1 + 1 + 1, 0, none⟩ = some (.slice none 0 0) := by rw [← hW]; simp [go_sem]
  have f0 : ∀ o, W.frozen? ⟨w.heap.size, o, none⟩ = false := by intro o; rw [← hW]; simp [go_sem]
  have f1 : ∀ o, W.frozen? ⟨w.heap.size + 1, o, none⟩ = false := by intro o; rw [← hW]; simp [go_sem]
  have f2 : ∀ o, W.frozen? ⟨w.heap.size + 1 + 1, o, none⟩ = false := by intro o; rw [← hW]; simp [go_sem]
  have f3 : ∀ o, W.frozen? ⟨w.heap.size + 1 + 1 + 1, o, none⟩ = false := by intro o; rw [← hW]; simp [go_sem]
  have k0 : W.heap[w.heap.size]? = some (.cells #[.bool a.s, .int .i64 a.lo, .int .i64 a.hi] 23 (0, 0)) := by rw [← hW]; rw [al_old _ _ (by (repeat rw [al_size]); omega)]; rw [al_old _ _ (by (repeat rw [al_size]); omega)]; rw [al_old _ _ (by (repeat rw [al_size]); omega)]; exact al_new _ _ (by (repeat rw [al_size]) <;> rfl)
  have k1 : W.heap[w.heap.size + 1]? = some (.cells #[.bool b.s, .int .i64 b.lo, .int .i64 b.hi] 23 (0, 0)) := by rw [← hW]; rw [al_old _ _ (by (repeat rw [al_size]); omega)]; rw [al_old _ _ (by (repeat rw [al_size]); omega)]; exact al_new _ _ (by (repeat rw [al_size]) <;> rfl)
  have k2 : W.heap[w.heap.size + 1 + 1]? = some (.cells #[.bool false, .int .i64 0, .int .i64 0] 23 (0, 0)) := by rw [← hW]; rw [al_old _ _ (by (repeat rw [al_size]); omega)]; exact al_new _ _ (by (repeat rw [al_size]) <;> rfl)
  have k3 : W.heap[w.heap.size + 1 + 1 + 1]? = some (.cells #[.slice none 0 0] 50 (0, 0)) := by rw [← hW]; exact al_new _ _ (by (repeat rw [al_size]) <;> rfl)
  have z0 : w.heap.size < W.heap.size := by rw [← hW]; first | (simp; done) | (simp; omega)
  have z1 : w.heap.size + 1 < W.heap.size := by rw [← hW]; first | (simp; done) | (simp; omega)
  have z2 : w.heap.size + 1 + 1 < W.heap.size := by rw [← hW]; first | (simp; done) | (simp; omega)
  have z3 : w.heap.size + 1 + 1 + 1 < W.heap.size := by rw [← hW]; first | (simp; done) | (simp; omega)
  have HW : Below w.heap.size w W := by rw [← hW]; exact (by repeat (first | (with_reducible assumption) | (with_reducible exact Below.refl _ _) | (with_reducible refine Below.alloc ?_ (by first | omega | (simp; omega) | (simp; done) | (dsimp only; omega)) _) | (with_reducible refine Below.setCell ?_ (by first | omega | (simp; omega) | (simp; done) | (dsimp only; omega)) _) | (with_reducible refine Below.drew ?_) | (with_reducible refine Below.trans ?_ (Below.mono (by assumption) (by first | omega | (simp; omega) | (simp; done) | (dsimp only; omega))))))
  clear hW
  go_wp2_with (go_at_call 57; (with_reducible refine (HP.out _).mono ?_); rintro e w1 ⟨rfl, hb1⟩; obtain ⟨hc1, hf1⟩ := bcell hb1; have hz1 := hb1.size; (try simp at hz1); (try have hy1 := Nat.lt_of_succ_le hz1); (try have hv1 := Nat.lt_of_succ_lt hy1); (try have hw10 : w.heap.size < w1.heap.size := by omega); (try have hw11 : w.heap.size + 1 < w1.heap.size := by omega); (try have hw12 : w.heap.size + 1 + 1 < w1.heap.size := by omega); (try have hw13 : w.heap.size + 1 + 1 + 1 < w1.heap.size := by omega))
  have hQ0 : QI W (w.heap.size + 1 + 1 + 1) (.slice none 0 0) [] W := QI.start k3
  have hBX : Below W.heap.size W (((w1.alloc (.cells #[.bool ((lowP b)).s, .int .i64 ((lowP b)).lo, .int .i64 ((lowP b)).hi] 23)).alloc (.cells #[.bool ((highP b)).s, .int .i64 ((highP b)).lo, .int .i64 ((highP b)).hi] 23)).alloc (.cells #[.bool ((lowP b)).s, .int .i64 ((lowP b)).lo, .int .i64 ((lowP b)).hi, .bool ((highP b)).s, .int .i64 ((highP b)).lo, .int .i64 ((highP b)).hi] 23)) := (by repeat (first | (with_reducible assumption) | (with_reducible exact Below.refl _ _) | (with_reducible refine Below.alloc ?_ (by first | omega | (simp; omega) | (simp; done) | (dsimp only; omega)) _) | (with_reducible refine Below.setCell ?_ (by first | omega | (simp; omega) | (simp; done) | (dsimp only; omega)) _) | (with_reducible refine Below.drew ?_) | (with_reducible refine Below.trans ?_ (Below.mono (by assumption) (by first | omega | (simp; omega) | (simp; done) | (dsimp only; omega))))))
  have hF : QFacts w (((w1.alloc (.cells #[.bool ((lowP b)).s, .int .i64 ((lowP b)).lo, .int .i64 ((lowP b)).hi] 23)).alloc (.cells #[.bool ((highP b)).s, .int .i64 ((highP b)).lo, .int .i64 ((highP b)).hi] 23)).alloc (.cells #[.bool ((lowP b)).s, .int .i64 ((lowP b)).lo, .int .i64 ((lowP b)).hi, .bool ((highP b)).s, .int .i64 ((highP b)).lo, .int .i64 ((highP b)).hi] 23)) w.heap.size (w1.heap.size + 1 + 1) a (lowP b) (highP b) := by
    obtain ⟨hc, hf⟩ := bcell hBX
    refine ⟨(hc _ _ z0).trans q0_1, (hc _ _ z0).trans q0_2, by simp [go_sem], by simp [go_sem], by simp [go_sem], by simp [go_sem], by simp [go_sem], by simp [go_sem], by omega, by simp, (hc _ _ z2).trans q2_0, (hc _ _ z2).trans q2_1, (hc _ _ z2).trans q2_2, fun o => (hf _ _ z2).trans (f2 o), HW.trans (hBX.mono HW.size)⟩
  have hv : (((w1.alloc (.cells #[.bool ((lowP b)).s, .int .i64 ((lowP b)).lo, .int .i64 ((lowP b)).hi] 23)).alloc (.cells #[.bool ((highP b)).s, .int .i64 ((highP b)).lo, .int .i64 ((highP b)).hi] 23)).alloc (.cells #[.bool ((lowP b)).s, .int .i64 ((lowP b)).lo, .int .i64 ((lowP b)).hi, .bool ((highP b)).s, .int .i64 ((highP b)).lo, .int .i64 ((highP b)).hi] 23)).heap[w.heap.size + 1 + 1 + 1]? = some (.cells #[.slice none 0 0] 50 (0, 0)) := (hBX.block _ z3).trans k3
  generalize (((w1.alloc (.cells #[.bool ((lowP b)).s, .int .i64 ((lowP b)).lo, .int .i64 ((lowP b)).hi] 23)).alloc (.cells #[.bool ((highP b)).s, .int .i64 ((highP b)).lo, .int .i64 ((highP b)).hi] 23)).alloc (.cells #[.bool ((lowP b)).s, .int .i64 ((lowP b)).lo, .int .i64 ((lowP b)).hi, .bool ((highP b)).s, .int .i64 ((highP b)).lo, .int .i64 ((highP b)).hi] 23)) = X at *
  generalize w1.heap.size + 1 + 1 = S at *
  have hQ := Lib.hid (QI.start hv)
  clear hv hBX hQ0 hb1 hc1 hf1 hz1 hw10 hw11 hw12 hw13 q0_0 q0_1 q0_2 q1_0 q1_1 q1_2 q2_0 q2_1 q2_2 q3_0 f0 f1 f2 f3 k0 k1 k2 k3 z0 z1 z2 z3 HW
  clear W
  go_loopw [21] (fun v21 wx => QRel w w.heap.size S a b v21 wx) (fun vi _ => 2 - (intOf vi).toNat)
  case atStart => exact ⟨0, by omega, rfl, X, _, hQ.out, hF⟩
  case round =>
    clear hQ hF
    obtain ⟨j, hj, rfl, X, v, hQ, hF⟩ := hrel
    have hF' := hF
    obtain ⟨a1, a2, s0, s1, s2, s3, s4, s5, z1, z2, r0, r1, r2, fr, hB0⟩ := hF'
    have kc : ∀ bl o u, X.cell? ⟨bl, o, none⟩ = some u → bl ≠ w.heap.size + 1 + 1 + 1 → bl < X.heap.size → wr.cell? ⟨bl, o, none⟩ = some u := fun bl o u h hne hlt => (World.cell?_of_block (w := X) (hQ.rest bl hlt hne)).trans h
    have A1 := kc _ _ _ a1 (by omega) (by omega)
    have A2 := kc _ _ _ a2 (by omega) (by omega)
    have S0 := kc _ _ _ s0 (by omega) (by omega)
    have S1 := kc _ _ _ s1 (by omega) (by omega)
    have S2 := kc _ _ _ s2 (by omega) (by omega)
    have S3 := kc _ _ _ s3 (by omega) (by omega)
    have S4 := kc _ _ _ s4 (by omega) (by omega)
    have S5 := kc _ _ _ s5 (by omega) (by omega)
    have hXs := hQ.size
    have y1 : w.heap.size < wr.heap.size := by omega
    have y2 : S < wr.heap.size := by omega
    clear s0 s1 s2 s3 s4 s5
    have hlen := quoL_len a b j
    by_cases hj2 : j < 2
    · rcases (show j = 0 ∨ j = 1 by omega) with rfl | rfl
      · go_upto_region 7 with fail
        have pB : (wr.alloc (.cells #[.bool ((lowP b)).s, .int .i64 ((lowP b)).lo, .int .i64 ((lowP b)).hi] 23)).heap[wr.heap.size]? = some (.cells #[.bool ((lowP b)).s, .int .i64 ((lowP b)).lo, .int .i64 ((lowP b)).hi] 23 (0, 0)) := al_new _ _ rfl
        have hBY : Below wr.heap.size wr (wr.alloc (.cells #[.bool ((lowP b)).s, .int .i64 ((lowP b)).lo, .int .i64 ((lowP b)).hi] 23)) := (by repeat (first | (with_reducible assumption) | (with_reducible exact Below.refl _ _) | (with_reducible refine Below.alloc ?_ (by first | omega | (simp; omega) | (simp; done) | (dsimp only; omega)) _) | (with_reducible refine Below.setCell ?_ (by first | omega | (simp; omega) | (simp; done) | (dsimp only; omega)) _) | (with_reducible refine Below.drew ?_) | (with_reducible refine Below.trans ?_ (Below.mono (by assumption) (by first | omega | (simp; omega) | (simp; done) | (dsimp only; omega))))))
        generalize (wr.alloc (.cells #[.bool ((lowP b)).s, .int .i64 ((lowP b)).lo, .int .i64 ((lowP b)).hi] 23)) = Y at *
        have g0 := blk_cell pB 0
        have g1 := blk_cell pB 1
        have g2 := blk_cell pB 2
        simp only [List.getElem?_toArray, List.getElem?_cons_zero, List.getElem?_cons_succ] at g0 g1 g2
        have zP := blk_lt pB
        cases hn : (lowP b).none
        · have HN := Lib.hid (span_none (lowP b))
          rw [hn] at HN
          obtain ⟨k1, k2, k3, k4⟩ := lowP_in hb hn
          have hP0 : v.ownBlock ≠ some wr.heap.size := fun e => by have := (hQ.own.lt _ e).2; omega
          have eL : quoL a b 0 ++ [a.lo.tdiv (lowP b).lo] ++ [a.lo.tdiv (lowP b).hi] ++ [a.hi.tdiv (lowP b).lo] ++ [a.hi.tdiv (lowP b).hi] = quoL a b 1 := by simp [quoL, quoP, hn]
          have hy : Below wr.heap.size wr Y := hBY
          have y3 : w.heap.size < Y.heap.size := by omega
          go_upto_region 8 with (go_at_call 25; (with_reducible refine (HN.out _).mono ?_); rintro e w2 ⟨rfl, hb2⟩; obtain ⟨hc2, hf2⟩ := bcell hb2; have hz2 := hb2.size; (try simp at hz2); (try have hy2 := Nat.lt_of_succ_le hz2); (try have hv2 := Nat.lt_of_succ_lt hy2); (try have hw20 : w.heap.size < w2.heap.size := by omega); (try have hw21 : w.heap.size + 1 < w2.heap.size := by omega); (try have hw22 : w.heap.size + 1 + 1 < w2.heap.size := by omega); (try have hw23 : w.heap.size + 1 + 1 + 1 < w2.heap.size := by omega))
          have hq0 := hQ.mono (hBY.trans (hb2.mono hBY.size))
          have hp0 := (hb2.block _ zP).trans pB
          clear hb2 hc2 hf2 hz2
          have hC0 := Lib.hid (quotient_lit a.lo (lowP b).lo ha.1 k1 k3 (by omega) (by omega) (by (try simp); omega) w2 hq0 hP0 hp0)
          have cA1 := (World.cell?_of_block (w := X) (a := ⟨w.heap.size, 1, none⟩) (hq0.rest w.heap.size (by omega) (by omega))).trans a1
          have cA2 := (World.cell?_of_block (w := X) (a := ⟨w.heap.size, 2, none⟩) (hq0.rest w.heap.size (by omega) (by omega))).trans a2
          have g1 := blk_cell hp0 1
          have g2 := blk_cell hp0 2
          simp only [List.getElem?_toArray, List.getElem?_cons_zero, List.getElem?_cons_succ] at g1 g2
          go_wp2_with fail
          go_at_call 55
          refine hC0.out.mono ?_
          rintro e w3 ⟨rfl, v1, hq1, hP1, hp1⟩
          clear hC0 cA1 cA2 g1 g2
          have hC1 := Lib.hid (quotient_lit a.lo (lowP b).hi ha.1 k2 k4 (by omega) (by omega) (by (try simp); omega) w3 hq1 hP1 hp1)
          have cA1 := (World.cell?_of_block (w := X) (a := ⟨w.heap.size, 1, none⟩) (hq1.rest w.heap.size (by omega) (by omega))).trans a1
          have cA2 := (World.cell?_of_block (w := X) (a := ⟨w.heap.size, 2, none⟩) (hq1.rest w.heap.size (by omega) (by omega))).trans a2
          have g1 := blk_cell hp1 1
          have g2 := blk_cell hp1 2
          simp only [List.getElem?_toArray, List.getElem?_cons_zero, List.getElem?_cons_succ] at g1 g2
          go_wp2_with fail
          go_at_call 55
          refine hC1.out.mono ?_
          rintro e w4 ⟨rfl, v2, hq2, hP2, hp2⟩
          clear hC1 cA1 cA2 g1 g2
          have hC2 := Lib.hid (quotient_lit a.hi (lowP b).lo ha.2 k1 k3 (by omega) (by omega) (by (try simp); omega) w4 hq2 hP2 hp2)
          have cA1 := (World.cell?_of_block (w := X) (a := ⟨w.heap.size, 1, none⟩) (hq2.rest w.heap.size (by omega) (by omega))).trans a1
          have cA2 := (World.cell?_of_block (w := X) (a := ⟨w.heap.size, 2, none⟩) (hq2.rest w.heap.size (by omega) (by omega))).trans a2
          have g1 := blk_cell hp2 1
          have g2 := blk_cell hp2 2
          simp only [List.getElem?_toArray, List.getElem?_cons_zero, List.getElem?_cons_succ] at g1 g2
          go_wp2_with fail
          go_at_call 55
          refine hC2.out.mono ?_
          rintro e w5 ⟨rfl, v3, hq3, hP3, hp3⟩
          clear hC2 cA1 cA2 g1 g2
          have hC3 := Lib.hid (quotient_lit a.hi (lowP b).hi ha.2 k2 k4 (by omega) (by omega) (by (try simp); omega) w5 hq3 hP3 hp3)
          have cA1 := (World.cell?_of_block (w := X) (a := ⟨w.heap.size, 1, none⟩) (hq3.rest w.heap.size (by omega) (by omega))).trans a1
          have cA2 := (World.cell?_of_block (w := X) (a := ⟨w.heap.size, 2, none⟩) (hq3.rest w.heap.size (by omega) (by omega))).trans a2
          have g1 := blk_cell hp3 1
          have g2 := blk_cell hp3 2
          simp only [List.getElem?_toArray, List.getElem?_cons_zero, List.getElem?_cons_succ] at g1 g2
          go_wp2_with fail
          go_at_call 55
          refine hC3.out.mono ?_
          rintro e w6 ⟨rfl, v4, hq4, hP4, hp4⟩
          clear hC3 cA1 cA2 g1 g2
          rw [eL] at hq4
          go_wp2
          go_roundw
          case rel => exact ⟨0 + 1, by omega, by go_num, X, v4, hq4, hF⟩
          case measure => simp [intOf]
        · have HN := Lib.hid (span_none (lowP b))
          rw [hn] at HN
          have eL : quoL a b 0 = quoL a b 1 := by simp [quoL, quoP, hn]
          go_wp2_with (go_at_call 25; (with_reducible refine (HN.out _).mono ?_); rintro e w2 ⟨rfl, hb2⟩; obtain ⟨hc2, hf2⟩ := bcell hb2; have hz2 := hb2.size; (try simp at hz2); (try have hy2 := Nat.lt_of_succ_le hz2); (try have hv2 := Nat.lt_of_succ_lt hy2); (try have hw20 : w.heap.size < w2.heap.size := by omega); (try have hw21 : w.heap.size + 1 < w2.heap.size := by omega); (try have hw22 : w.heap.size + 1 + 1 < w2.heap.size := by omega); (try have hw23 : w.heap.size + 1 + 1 + 1 < w2.heap.size := by omega))
          go_roundw
          case rel => exact ⟨0 + 1, by omega, by go_num, X, v, by rw [← eL]; exact hQ.mono (hBY.trans (hb2.mono hBY.size)), hF⟩
          case measure => simp [intOf]
      · go_upto_region 7 with fail
        have pB : (wr.alloc (.cells #[.bool ((highP b)).s, .int .i64 ((highP b)).lo, .int .i64 ((highP b)).hi] 23)).heap[wr.heap.size]? = some (.cells #[.bool ((highP b)).s, .int .i64 ((highP b)).lo, .int .i64 ((highP b)).hi] 23 (0, 0)) := al_new _ _ rfl
        have hBY : Below wr.heap.size wr (wr.alloc (.cells #[.bool ((highP b)).s, .int .i64 ((highP b)).lo, .int .i64 ((highP b)).hi] 23)) := (by repeat (first | (with_reducible assumption) | (with_reducible exact Below.refl _ _) | (with_reducible refine Below.alloc ?_ (by first | omega | (simp; omega) | (simp; done) | (dsimp only; omega)) _) | (with_reducible refine Below.setCell ?_ (by first | omega | (simp; omega) | (simp; done) | (dsimp only; omega)) _) | (with_reducible refine Below.drew ?_) | (with_reducible refine Below.trans ?_ (Below.mono (by assumption) (by first | omega | (simp; omega) | (simp; done) | (dsimp only; omega))))))
        generalize (wr.alloc (.cells #[.bool ((highP b)).s, .int .i64 ((highP b)).lo, .int .i64 ((highP b)).hi] 23)) = Y at *
        have g0 := blk_cell pB 0
        have g1 := blk_cell pB 1
        have g2 := blk_cell pB 2
        simp only [List.getElem?_toArray, List.getElem?_cons_zero, List.getElem?_cons_succ] at g0 g1 g2
        have zP := blk_lt pB
        cases hn : (highP b).none
        · have HN := Lib.hid (span_none (highP b))
          rw [hn] at HN
          obtain ⟨k1, k2, k3, k4⟩ := highP_in hb hn
          have hP0 : v.ownBlock ≠ some wr.heap.size := fun e => by have := (hQ.own.lt _ e).2; omega
          have eL : quoL a b 1 ++ [a.lo.tdiv (highP b).lo] ++ [a.lo.tdiv (highP b).hi] ++ [a.hi.tdiv (highP b).lo] ++ [a.hi.tdiv (highP b).hi] = quoL a b 2 := by simp [quoL, quoP, hn]
          have hy : Below wr.heap.size wr Y := hBY
          have y3 : w.heap.size < Y.heap.size := by omega
          go_upto_region 8 with (go_at_call 25; (with_reducible refine (HN.out _).mono ?_); rintro e w2 ⟨rfl, hb2⟩; obtain ⟨hc2, hf2⟩ := bcell hb2; have hz2 := hb2.size; (try simp at hz2); (try have hy2 := Nat.lt_of_succ_le hz2); (try have hv2 := Nat.lt_of_succ_lt hy2); (try have hw20 : w.heap.size < w2.heap.size := by omega); (try have hw21 : w.heap.size + 1 < w2.heap.size := by omega); (try have hw22 : w.heap.size + 1 + 1 < w2.heap.size := by omega); (try have hw23 : w.heap.size + 1 + 1 + 1 < w2.heap.size := by omega))
          have hq0 := hQ.mono (hBY.trans (hb2.mono hBY.size))
          have hp0 := (hb2.block _ zP).trans pB
          clear hb2 hc2 hf2 hz2
          have hC0 := Lib.hid (quotient_lit a.lo (highP b).lo ha.1 k1 k3 (by omega) (by omega) (by (try simp); omega) w2 hq0 hP0 hp0)
          have cA1 := (World.cell?_of_block (w := X) (a := ⟨w.heap.size, 1, none⟩) (hq0.rest w.heap.size (by omega) (by omega))).trans a1
          have cA2 := (World.cell?_of_block (w := X) (a := ⟨w.heap.size, 2, none⟩) (hq0.rest w.heap.size (by omega) (by omega))).trans a2
          have g1 := blk_cell hp0 1
          have g2 := blk_cell hp0 2
          simp only [List.getElem?_toArray, List.getElem?_cons_zero, List.getElem?_cons_succ] at g1 g2
          go_wp2_with fail
          go_at_call 55
          refine hC0.out.mono ?_
          rintro e w3 ⟨rfl, v1, hq1, hP1, hp1⟩
          clear hC0 cA1 cA2 g1 g2
          have hC1 := Lib.hid (quotient_lit a.lo (highP b).hi ha.1 k2 k4 (by omega) (by omega) (by (try simp); omega) w3 hq1 hP1 hp1)
          have cA1 := (World.cell?_of_block (w := X) (a := ⟨w.heap.size, 1, none⟩) (hq1.rest w.heap.size (by omega) (by omega))).trans a1
          have cA2 := (World.cell?_of_block (w := X) (a := ⟨w.heap.size, 2, none⟩) (hq1.rest w.heap.size (by omega) (by omega))).trans a2
          have g1 := blk_cell hp1 1
          have g2 := blk_cell hp1 2
          simp only [List.getElem?_toArray, List.getElem?_cons_zero, List.getElem?_cons_succ] at g1 g2
          go_wp2_with fail
          go_at_call 55
          refine hC1.out.mono ?_
          rintro e w4 ⟨rfl, v2, hq2, hP2, hp2⟩
          clear hC1 cA1 cA2 g1 g2
          have hC2 := Lib.hid (quotient_lit a.hi (highP b).lo ha.2 k1 k3 (by omega) (by omega) (by (try simp); omega) w4 hq2 hP2 hp2)
          have cA1 := (World.cell?_of_block (w := X) (a := ⟨w.heap.size, 1, none⟩) (hq2.rest w.heap.size (by omega) (by omega))).trans a1
          have cA2 := (World.cell?_of_block (w := X) (a := ⟨w.heap.size, 2, none⟩) (hq2.rest w.heap.size (by omega) (by omega))).trans a2
          have g1 := blk_cell hp2 1
          have g2 := blk_cell hp2 2
          simp only [List.getElem?_toArray, List.getElem?_cons_zero, List.getElem?_cons_succ] at g1 g2
          go_wp2_with fail
          go_at_call 55
          refine hC2.out.mono ?_
          rintro e w5 ⟨rfl, v3, hq3, hP3, hp3⟩
          clear hC2 cA1 cA2 g1 g2
          have hC3 := Lib.hid (quotient_lit a.hi (highP b).hi ha.2 k2 k4 (by omega) (by omega) (by (try simp); omega) w5 hq3 hP3 hp3)
          have cA1 := (World.cell?_of_block (w := X) (a := ⟨w.heap.size, 1, none⟩) (hq3.rest w.heap.size (by omega) (by omega))).trans a1
          have cA2 := (World.cell?_of_block (w := X) (a := ⟨w.heap.size, 2, none⟩) (hq3.rest w.heap.size (by omega) (by omega))).trans a2
          have g1 := blk_cell hp3 1
          have g2 := blk_cell hp3 2
          simp only [List.getElem?_toArray, List.getElem?_cons_zero, List.getElem?_cons_succ] at g1 g2
          go_wp2_with fail
          go_at_call 55
          refine hC3.out.mono ?_
          rintro e w6 ⟨rfl, v4, hq4, hP4, hp4⟩
          clear hC3 cA1 cA2 g1 g2
          rw [eL] at hq4
          go_wp2
          go_roundw
          case rel => exact ⟨1 + 1, by omega, by go_num, X, v4, hq4, hF⟩
          case measure => simp [intOf]
        · have HN := Lib.hid (span_none (highP b))
          rw [hn] at HN
          have eL : quoL a b 1 = quoL a b 2 := by simp [quoL, quoP, hn]
          go_wp2_with (go_at_call 25; (with_reducible refine (HN.out _).mono ?_); rintro e w2 ⟨rfl, hb2⟩; obtain ⟨hc2, hf2⟩ := bcell hb2; have hz2 := hb2.size; (try simp at hz2); (try have hy2 := Nat.lt_of_succ_le hz2); (try have hv2 := Nat.lt_of_succ_lt hy2); (try have hw20 : w.heap.size < w2.heap.size := by omega); (try have hw21 : w.heap.size + 1 < w2.heap.size := by omega); (try have hw22 : w.heap.size + 1 + 1 < w2.heap.size := by omega); (try have hw23 : w.heap.size + 1 + 1 + 1 < w2.heap.size := by omega))
          go_roundw
          case rel => exact ⟨1 + 1, by omega, by go_num, X, v, by rw [← eL]; exact hQ.mono (hBY.trans (hb2.mono hBY.size)), hF⟩
          case measure => simp [intOf]
    · obtain rfl : j = 2 := by omega
      obtain ⟨A, cp, e7, hl1, hl2, hrow⟩ := hQ.own.row
      subst e7
      have hbt := reckon_between _ A cp wr hl1 hl2 hrow
      have cV := cell_of_one hQ.var
      have HBT := Lib.hid hbt
      have R0 := kc _ _ _ r0 (by omega) (by omega)
      have R1 := kc _ _ _ r1 (by omega) (by omega)
      have R2 := kc _ _ _ r2 (by omega) (by omega)
      have F2 : ∀ o, wr.frozen? ⟨w.heap.size + 1 + 1, o, none⟩ = false := fun o => (World.frozen?_of_block (w := X) (hQ.rest (w.heap.size + 1 + 1) (by omega) (by omega))).trans (fr o)
      have HW2 := hB0.trans (hQ.below.mono (show w.heap.size ≤ w.heap.size + 1 + 1 + 1 by omega))
      have y5 : w.heap.size + 1 + 1 < wr.heap.size := by omega
      generalize (quoL a b 2).length = ln at *
      clear hbt hrow hl1 hl2 kc r0 r1 r2 fr hB0 hF hQ
      go_wp2_with (go_at_call 54; (with_reducible refine (HBT.out).mono ?_); rintro e w1 ⟨rfl, hb1⟩; obtain ⟨hc1, hf1⟩ := bcell hb1; have hz1 := hb1.size; (try simp at hz1); (try have hy1 := Nat.lt_of_succ_le hz1); (try have hv1 := Nat.lt_of_succ_lt hy1); (try have hw10 : w.heap.size < w1.heap.size := by omega); (try have hw11 : w.heap.size + 1 < w1.heap.size := by omega); (try have hw12 : w.heap.size + 1 + 1 < w1.heap.size := by omega); (try have hw13 : w.heap.size + 1 + 1 + 1 < w1.heap.size := by omega))
      refine bodyPost_ret (by simp [results, Try.results27, go_sem, *] <;> rfl) rfl ⟨rfl, (by repeat (first | (with_reducible assumption) | (with_reducible exact Below.refl _ _) | (with_reducible refine Below.alloc ?_ (by first | omega | (simp; omega) | (simp; done) | (dsimp only; omega)) _) | (with_reducible refine Below.setCell ?_ (by first | omega | (simp; omega) | (simp; done) | (dsimp only; omega)) _) | (with_reducible refine Below.drew ?_) | (with_reducible refine Below.trans ?_ (Below.mono (by assumption) (by first | omega | (simp; omega) | (simp; done) | (dsimp only; omega))))))⟩
end Go.Proofs.Ytdphjfppfngcmaa
