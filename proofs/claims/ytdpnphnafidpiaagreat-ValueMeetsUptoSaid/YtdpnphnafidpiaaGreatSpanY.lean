/- Texts SpanF, SpanG, SpanH, SpanP. -/
import Derived.Test.YtdpnphnafidpiaaGreatSpanE
import Derived.Test.YtdpnphnafidpiaaGreatSeq
import Derived.Deep.DeepCutAuto
import Derived.Test.YtdpnphnafidpiaaGreatMathZ
/- X-PARTIAL The laws of layer 3 that speak of which ints spans have, walked. -/
namespace Go.Proofs.YtdpnphnafidpiaaGreat
open Go.RowKit

theorem Sp.same_leq (a b : Sp) : a.same b = (a.leq b && b.leq a) := by
  cases h : a.none <;> cases h' : b.none
  · rw [Sp.leq_some h h', Sp.leq_some h' h]
    have ea : a.clean = a := if_neg (by rw [h]; decide)
    have eb : b.clean = b := if_neg (by rw [h']; decide)
    unfold Sp.same; rw [ea, eb]
    unfold Sp.none at h h'; simp at h h'
    rw [h.1, h'.1, Bool.eq_iff_iff]; simp; omega
  · rw [Sp.leq_none2 h h', Sp.leq_none a h']
    have ea : a.clean = a := if_neg (by rw [h]; decide)
    have eb : b.clean = Sp.zero := if_pos h'
    unfold Sp.same; rw [ea, eb]
    unfold Sp.none at h; simp at h
    rw [h.1]; rfl
  · rw [Sp.leq_none2 h' h, Sp.leq_none b h]
    have ea : a.clean = Sp.zero := if_pos h
    have eb : b.clean = b := if_neg (by rw [h']; decide)
    unfold Sp.same; rw [ea, eb]
    unfold Sp.none at h'; simp at h'
    rw [h'.1]; rfl
  · rw [Sp.leq_none b h, Sp.leq_none a h']
    have ea : a.clean = Sp.zero := if_pos h
    have eb : b.clean = Sp.zero := if_pos h'
    unfold Sp.same; rw [ea, eb]; rfl

end Go.Proofs.YtdpnphnafidpiaaGreat

/- X-PARTIAL The law of layer 3 that speaks of which spans ints make, walked. -/
namespace Go.Proofs.YtdpnphnafidpiaaGreat
open Go.RowKit

theorem Sp.join_zero (a : Sp) : a.join ⟨false, 0, 0⟩ = a.clean := by
  have h0 : (Sp.mk false 0 0).none = true := rfl
  cases h : a.none
  · rw [Sp.join_01 h h0]; exact (if_neg (by rw [h]; decide)).symm
  · rw [Sp.join_11 h h0]; exact (if_pos h).symm

end Go.Proofs.YtdpnphnafidpiaaGreat

/- X-PARTIAL What sondageref03.Widen returns: layer 3. -/
namespace Go.Proofs.YtdpnphnafidpiaaGreat
open Go.RowKit

theorem Sp.narrow_0 {a : Sp} (b : Sp) (h : a.none = true) : a.narrow b = ⟨false, 0, 0⟩ := by
  cases hb : b.none
  · rw [Sp.narrow_1 (Sp.leq_none2 hb h)]; exact if_pos h
  · exact Sp.narrow_2 (Sp.leq_none a hb) hb

set_option maxHeartbeats 2000000 in
theorem r3_narrow (a b : Sp) (w : World) :
    Calls Tryz.prog 38 #[.agg #[.bool a.s, .int .i64 a.lo, .int .i64 a.hi], .agg #[.bool b.s, .int .i64 b.lo, .int .i64 b.hi]] w fun e w' => e = .returned (.agg #[.bool (a.narrow b).s, .int .i64 (a.narrow b).lo, .int .i64 (a.narrow b).hi]) ∧ Below w.heap.size w w' := by
  have hn := r3_none a
  have hm := r3_none b
  have hl := r3_leq b a
  have hdr : ∀ w : World, w.drew.heap.size = w.heap.size := fun _ => rfl
  cases h : a.none
  · rw [h] at hn
    cases h' : b.none
    · rw [h'] at hm
      cases h2 : b.leq a
      · have e : a.narrow b = a := by rw [Sp.narrow_1 h2]; exact if_neg (by rw [h]; decide)
        rw [e]; rw [h2] at hl
        have HN := Lib.hid hn; have HM := Lib.hid hm; have HL := Lib.hid hl; clear hn hm hl h h' h2 e
        go_enter Tryz.func38, Tryz.ntmps38
        go_wp2_with (first | (go_at_call 75; (with_reducible refine (HN.out _).mono ?_); rintro e w1 ⟨rfl, hb1⟩; obtain ⟨hc1, hf1⟩ := bcell hb1; have hz1 := hb1.size; (try simp at hz1); (try have hy1 := Nat.lt_of_succ_le hz1); (try have hv1 := Nat.lt_of_succ_lt hy1); (try have hw10 : w.heap.size < w1.heap.size := by omega); (try have hw11 : w.heap.size + 1 < w1.heap.size := by omega); (try have hw12 : w.heap.size + 1 + 1 < w1.heap.size := by omega); (try have hw13 : w.heap.size + 1 + 1 + 1 < w1.heap.size := by omega)) | (go_at_call 75; (with_reducible refine (HM.out _).mono ?_); rintro e w1 ⟨rfl, hb1⟩; obtain ⟨hc1, hf1⟩ := bcell hb1; have hz1 := hb1.size; (try simp at hz1); (try have hy1 := Nat.lt_of_succ_le hz1); (try have hv1 := Nat.lt_of_succ_lt hy1); (try have hw10 : w.heap.size < w1.heap.size := by omega); (try have hw11 : w.heap.size + 1 < w1.heap.size := by omega); (try have hw12 : w.heap.size + 1 + 1 < w1.heap.size := by omega); (try have hw13 : w.heap.size + 1 + 1 + 1 < w1.heap.size := by omega)) | (go_at_call 76; (with_reducible refine (HL.out _).mono ?_); rintro e w1 ⟨rfl, hb1⟩; obtain ⟨hc1, hf1⟩ := bcell hb1; have hz1 := hb1.size; (try simp at hz1); (try have hy1 := Nat.lt_of_succ_le hz1); (try have hv1 := Nat.lt_of_succ_lt hy1); (try have hw10 : w.heap.size < w1.heap.size := by omega); (try have hw11 : w.heap.size + 1 < w1.heap.size := by omega); (try have hw12 : w.heap.size + 1 + 1 < w1.heap.size := by omega); (try have hw13 : w.heap.size + 1 + 1 + 1 < w1.heap.size := by omega)))
        exact bodyPost_ret (by simp [results, Tryz.results38, go_sem, *] <;> rfl) rfl ⟨rfl, (by repeat (first | (with_reducible assumption) | (with_reducible exact Below.refl _ _) | (with_reducible refine Below.alloc ?_ (by first | omega | (simp; omega) | (simp; done) | (dsimp only; omega)) _) | (with_reducible refine Below.setCell ?_ (by first | omega | (simp; omega) | (simp; done) | (dsimp only; omega)) _) | (with_reducible refine Below.drew ?_) | (with_reducible refine Below.trans ?_ (Below.mono (by assumption) (by first | omega | (simp; omega) | (simp; done) | (dsimp only; omega))))))⟩
      · rw [Sp.narrow_3 h2 h']; rw [h2] at hl
        have HN := Lib.hid hn; have HM := Lib.hid hm; have HL := Lib.hid hl; clear hn hm hl h h' h2
        have k1 : (if a.lo = -9223372036854775808 then b.lo else a.lo) = if (a.lo == -9223372036854775808) = true then b.lo else a.lo := by simp
        have k2 : (if a.hi = 9223372036854775807 then b.hi else a.hi) = if (a.hi == 9223372036854775807) = true then b.hi else a.hi := by simp
        rw [k1, k2]; clear k1 k2
        cases h1 : (a.lo == -9223372036854775808) <;> cases h2 : (a.hi == 9223372036854775807)
        all_goals
          simp only [Bool.false_eq_true, if_true, if_false]
          go_enter Tryz.func38, Tryz.ntmps38
          go_wp2_with (first | (go_at_call 75; (with_reducible refine (HN.out _).mono ?_); rintro e w1 ⟨rfl, hb1⟩; obtain ⟨hc1, hf1⟩ := bcell hb1; have hz1 := hb1.size; (try simp at hz1); (try have hy1 := Nat.lt_of_succ_le hz1); (try have hv1 := Nat.lt_of_succ_lt hy1); (try have hw10 : w.heap.size < w1.heap.size := by omega); (try have hw11 : w.heap.size + 1 < w1.heap.size := by omega); (try have hw12 : w.heap.size + 1 + 1 < w1.heap.size := by omega); (try have hw13 : w.heap.size + 1 + 1 + 1 < w1.heap.size := by omega)) | (go_at_call 75; (with_reducible refine (HM.out _).mono ?_); rintro e w1 ⟨rfl, hb1⟩; obtain ⟨hc1, hf1⟩ := bcell hb1; have hz1 := hb1.size; (try simp at hz1); (try have hy1 := Nat.lt_of_succ_le hz1); (try have hv1 := Nat.lt_of_succ_lt hy1); (try have hw10 : w.heap.size < w1.heap.size := by omega); (try have hw11 : w.heap.size + 1 < w1.heap.size := by omega); (try have hw12 : w.heap.size + 1 + 1 < w1.heap.size := by omega); (try have hw13 : w.heap.size + 1 + 1 + 1 < w1.heap.size := by omega)) | (go_at_call 76; (with_reducible refine (HL.out _).mono ?_); rintro e w1 ⟨rfl, hb1⟩; obtain ⟨hc1, hf1⟩ := bcell hb1; have hz1 := hb1.size; (try simp at hz1); (try have hy1 := Nat.lt_of_succ_le hz1); (try have hv1 := Nat.lt_of_succ_lt hy1); (try have hw10 : w.heap.size < w1.heap.size := by omega); (try have hw11 : w.heap.size + 1 < w1.heap.size := by omega); (try have hw12 : w.heap.size + 1 + 1 < w1.heap.size := by omega); (try have hw13 : w.heap.size + 1 + 1 + 1 < w1.heap.size := by omega)))
          go_region
          go_wp2_with (go_at_call 77; (with_reducible refine (r3_make _ _ _).mono ?_); rintro e w1 ⟨rfl, hb1⟩; obtain ⟨hc1, hf1⟩ := bcell hb1; have hz1 := hb1.size; (try simp at hz1); (try have hy1 := Nat.lt_of_succ_le hz1); (try have hv1 := Nat.lt_of_succ_lt hy1); (try have hw10 : w.heap.size < w1.heap.size := by omega); (try have hw11 : w.heap.size + 1 < w1.heap.size := by omega); (try have hw12 : w.heap.size + 1 + 1 < w1.heap.size := by omega); (try have hw13 : w.heap.size + 1 + 1 + 1 < w1.heap.size := by omega))
          exact bodyPost_ret (by simp [results, Tryz.results38, go_sem, *] <;> rfl) rfl ⟨rfl, (by repeat (first | (with_reducible assumption) | (with_reducible exact Below.refl _ _) | (with_reducible refine Below.alloc ?_ (by first | omega | (simp; omega) | (simp; done) | (dsimp only; omega)) _) | (with_reducible refine Below.setCell ?_ (by first | omega | (simp; omega) | (simp; done) | (dsimp only; omega)) _) | (with_reducible refine Below.drew ?_) | (with_reducible refine Below.trans ?_ (Below.mono (by assumption) (by first | omega | (simp; omega) | (simp; done) | (dsimp only; omega))))))⟩
    · rw [h'] at hm
      have h2 := Sp.leq_none a h'
      rw [Sp.narrow_2 h2 h']; rw [h2] at hl
      have HN := Lib.hid hn; have HM := Lib.hid hm; have HL := Lib.hid hl; clear hn hm hl h h' h2
      go_enter Tryz.func38, Tryz.ntmps38
      go_wp2_with (first | (go_at_call 75; (with_reducible refine (HN.out _).mono ?_); rintro e w1 ⟨rfl, hb1⟩; obtain ⟨hc1, hf1⟩ := bcell hb1; have hz1 := hb1.size; (try simp at hz1); (try have hy1 := Nat.lt_of_succ_le hz1); (try have hv1 := Nat.lt_of_succ_lt hy1); (try have hw10 : w.heap.size < w1.heap.size := by omega); (try have hw11 : w.heap.size + 1 < w1.heap.size := by omega); (try have hw12 : w.heap.size + 1 + 1 < w1.heap.size := by omega); (try have hw13 : w.heap.size + 1 + 1 + 1 < w1.heap.size := by omega)) | (go_at_call 75; (with_reducible refine (HM.out _).mono ?_); rintro e w1 ⟨rfl, hb1⟩; obtain ⟨hc1, hf1⟩ := bcell hb1; have hz1 := hb1.size; (try simp at hz1); (try have hy1 := Nat.lt_of_succ_le hz1); (try have hv1 := Nat.lt_of_succ_lt hy1); (try have hw10 : w.heap.size < w1.heap.size := by omega); (try have hw11 : w.heap.size + 1 < w1.heap.size := by omega); (try have hw12 : w.heap.size + 1 + 1 < w1.heap.size := by omega); (try have hw13 : w.heap.size + 1 + 1 + 1 < w1.heap.size := by omega)) | (go_at_call 76; (with_reducible refine (HL.out _).mono ?_); rintro e w1 ⟨rfl, hb1⟩; obtain ⟨hc1, hf1⟩ := bcell hb1; have hz1 := hb1.size; (try simp at hz1); (try have hy1 := Nat.lt_of_succ_le hz1); (try have hv1 := Nat.lt_of_succ_lt hy1); (try have hw10 : w.heap.size < w1.heap.size := by omega); (try have hw11 : w.heap.size + 1 < w1.heap.size := by omega); (try have hw12 : w.heap.size + 1 + 1 < w1.heap.size := by omega); (try have hw13 : w.heap.size + 1 + 1 + 1 < w1.heap.size := by omega)))
      exact bodyPost_ret (by simp [results, Tryz.results38, go_sem, *] <;> rfl) rfl ⟨rfl, (by repeat (first | (with_reducible assumption) | (with_reducible exact Below.refl _ _) | (with_reducible refine Below.alloc ?_ (by first | omega | (simp; omega) | (simp; done) | (dsimp only; omega)) _) | (with_reducible refine Below.setCell ?_ (by first | omega | (simp; omega) | (simp; done) | (dsimp only; omega)) _) | (with_reducible refine Below.drew ?_) | (with_reducible refine Below.trans ?_ (Below.mono (by assumption) (by first | omega | (simp; omega) | (simp; done) | (dsimp only; omega))))))⟩
  · rw [Sp.narrow_0 b h]; rw [h] at hn
    have HN := Lib.hid hn; clear hn hm hl h
    go_enter Tryz.func38, Tryz.ntmps38
    go_wp2_with (go_at_call 75; (with_reducible refine (HN.out _).mono ?_); rintro e w1 ⟨rfl, hb1⟩; obtain ⟨hc1, hf1⟩ := bcell hb1; have hz1 := hb1.size; (try simp at hz1); (try have hy1 := Nat.lt_of_succ_le hz1); (try have hv1 := Nat.lt_of_succ_lt hy1); (try have hw10 : w.heap.size < w1.heap.size := by omega); (try have hw11 : w.heap.size + 1 < w1.heap.size := by omega); (try have hw12 : w.heap.size + 1 + 1 < w1.heap.size := by omega); (try have hw13 : w.heap.size + 1 + 1 + 1 < w1.heap.size := by omega))
    exact bodyPost_ret (by simp [results, Tryz.results38, go_sem, *] <;> rfl) rfl ⟨rfl, (by repeat (first | (with_reducible assumption) | (with_reducible exact Below.refl _ _) | (with_reducible refine Below.alloc ?_ (by first | omega | (simp; omega) | (simp; done) | (dsimp only; omega)) _) | (with_reducible refine Below.setCell ?_ (by first | omega | (simp; omega) | (simp; done) | (dsimp only; omega)) _) | (with_reducible refine Below.drew ?_) | (with_reducible refine Below.trans ?_ (Below.mono (by assumption) (by first | omega | (simp; omega) | (simp; done) | (dsimp only; omega))))))⟩

def WidRel (f : List Int → Int → Int) (l : List Int) (n : Int) (W : World) (b i : Value) (wx : World) : Prop :=
  ∃ k : Nat, k ≤ l.length ∧ i = .int .i64 k ∧ b = .int .i64 (f (l.take k) n) ∧ Below W.heap.size W wx

set_option maxRecDepth 100000 in
set_option maxHeartbeats 4000000 in
theorem r3_widen (a b : Sp) (l : List Int) (A : Option Addr) (c : Nat) (w : World) (hm : l.length ≤ 9223372036854775807) (hr : IRow w A l) :
    Calls Tryz.prog 31 #[.agg #[.bool a.s, .int .i64 a.lo, .int .i64 a.hi], .agg #[.bool b.s, .int .i64 b.lo, .int .i64 b.hi], .slice A l.length c] w fun e w' => e = .returned (.agg #[.bool (a.widen b l).s, .int .i64 (a.widen b l).lo, .int .i64 (a.widen b l).hi]) ∧ Below w.heap.size w w' := by
  have hn := r3_none a
  have hn2 := r3_none b
  have hl := r3_leq b a
  have hdr : ∀ w : World, w.drew.heap.size = w.heap.size := fun _ => rfl
  cases h : a.none
  · rw [h] at hn
    cases h' : b.leq a
    · rw [Sp.widen_3 l h h']; rw [h'] at hl
      have HN := Lib.hid hn; have HL := Lib.hid hl; clear hn h hl h' hn2
      have HR0 : Hid (∀ w', Below w.heap.size w w' → IRow w' A l) := Lib.hid (fun w' h => hr.mono h)
      clear hr
      by_cases h1 : b.lo < a.lo <;> by_cases h2 : a.hi < b.hi <;> simp only [h1, h2, if_true, if_false]
      · go_enter Tryz.func31, Tryz.ntmps31
        go_upto_region 1 with fail
        generalize hW : ((w.alloc (.cells #[.bool a.s, .int .i64 a.lo, .int .i64 a.hi] 23)).alloc (.cells #[.bool b.s, .int .i64 b.lo, .int .i64 b.hi] 23)).alloc (.cells #[.bool false, .int .i64 0, .int .i64 0] 23) = W
        have q0 : W.cell? ⟨w.heap.size, 0, none⟩ = some (.bool a.s) := by rw [← hW]; simp [go_sem]
        have q1 : W.cell? ⟨w.heap.size, 1, none⟩ = some (.int .i64 a.lo) := by rw [← hW]; simp [go_sem]
        have q2 : W.cell? ⟨w.heap.size, 2, none⟩ = some (.int .i64 a.hi) := by rw [← hW]; simp [go_sem]
        have q3 : W.cell? ⟨w.heap.size + 1, 0, none⟩ = some (.bool b.s) := by rw [← hW]; simp [go_sem]
        have q4 : W.cell? ⟨w.heap.size + 1, 1, none⟩ = some (.int .i64 b.lo) := by rw [← hW]; simp [go_sem]
        have q5 : W.cell? ⟨w.heap.size + 1, 2, none⟩ = some (.int .i64 b.hi) := by rw [← hW]; simp [go_sem]
        have q6 : W.cell? ⟨w.heap.size + 1 + 1, 0, none⟩ = some (.bool false) := by rw [← hW]; simp [go_sem]
        have q7 : W.cell? ⟨w.heap.size + 1 + 1, 1, none⟩ = some (.int .i64 0) := by rw [← hW]; simp [go_sem]
        have q8 : W.cell? ⟨w.heap.size + 1 + 1, 2, none⟩ = some (.int .i64 0) := by rw [← hW]; simp [go_sem]
        have f6 : W.frozen? ⟨w.heap.size + 1 + 1, 0, none⟩ = false := by rw [← hW]; simp [go_sem]
        have f7 : W.frozen? ⟨w.heap.size + 1 + 1, 1, none⟩ = false := by rw [← hW]; simp [go_sem]
        have f8 : W.frozen? ⟨w.heap.size + 1 + 1, 2, none⟩ = false := by rw [← hW]; simp [go_sem]
        have z2 : w.heap.size + 1 + 1 < W.heap.size := by rw [← hW]; simp
        have z1 : w.heap.size + 1 < W.heap.size := by omega
        have z0 : w.heap.size < W.heap.size := by omega
        have HW : Below w.heap.size w W := by rw [← hW]; exact (by repeat (first | (with_reducible assumption) | (with_reducible exact Below.refl _ _) | (with_reducible refine Below.alloc ?_ (by first | omega | (simp; omega) | (simp; done) | (dsimp only; omega)) _) | (with_reducible refine Below.setCell ?_ (by first | omega | (simp; omega) | (simp; done) | (dsimp only; omega)) _) | (with_reducible refine Below.drew ?_) | (with_reducible refine Below.trans ?_ (Below.mono (by assumption) (by first | omega | (simp; omega) | (simp; done) | (dsimp only; omega))))))
        have HR := Lib.hid (HR0.out W HW)
        clear hW HR0
        go_wp2_with (first | (go_at_call 75; (with_reducible refine (HN.out _).mono ?_); rintro e w1 ⟨rfl, hb1⟩; obtain ⟨hc1, hf1⟩ := bcell hb1; have hz1 := hb1.size; (try simp at hz1); (try have hy1 := Nat.lt_of_succ_le hz1); (try have hv1 := Nat.lt_of_succ_lt hy1); (try have hw10 : w.heap.size < w1.heap.size := by omega); (try have hw11 : w.heap.size + 1 < w1.heap.size := by omega); (try have hw12 : w.heap.size + 1 + 1 < w1.heap.size := by omega); (try have hw13 : w.heap.size + 1 + 1 + 1 < w1.heap.size := by omega)) | (go_at_call 76; (with_reducible refine (HL.out _).mono ?_); rintro e w1 ⟨rfl, hb1⟩; obtain ⟨hc1, hf1⟩ := bcell hb1; have hz1 := hb1.size; (try simp at hz1); (try have hy1 := Nat.lt_of_succ_le hz1); (try have hv1 := Nat.lt_of_succ_lt hy1); (try have hw10 : w.heap.size < w1.heap.size := by omega); (try have hw11 : w.heap.size + 1 < w1.heap.size := by omega); (try have hw12 : w.heap.size + 1 + 1 < w1.heap.size := by omega); (try have hw13 : w.heap.size + 1 + 1 + 1 < w1.heap.size := by omega)))
        go_region
        go_wp2
        go_loopw [7, 9] (fun s7 i wx => WidRel below l b.lo W s7 i wx) (fun _ i _ => l.length - (intOf i).toNat)
        case atStart => exact ⟨0, Nat.zero_le _, rfl, rfl, (by repeat (first | (with_reducible assumption) | (with_reducible exact Below.refl _ _) | (with_reducible refine Below.alloc ?_ (by first | omega | (simp; omega) | (simp; done) | (dsimp only; omega)) _) | (with_reducible refine Below.setCell ?_ (by first | omega | (simp; omega) | (simp; done) | (dsimp only; omega)) _) | (with_reducible refine Below.drew ?_) | (with_reducible refine Below.trans ?_ (Below.mono (by assumption) (by first | omega | (simp; omega) | (simp; done) | (dsimp only; omega))))))⟩
        case round =>
          obtain ⟨k, hk, rfl, rfl, hB⟩ := hrel
          obtain ⟨hcx, hfx⟩ := bcell hB
          have hzx := hB.size
          have z3 : w.heap.size + 1 + 1 < wr.heap.size := by omega
          by_cases hlt : k < l.length
          · obtain ⟨bb, oo, rfl, hcl, hbb⟩ := HR.out.cell hlt
            have hs := take_snoc' l k hlt
            have hb := below_snoc (l.take k) l[k] b.lo
            rw [← hs] at hb
            have HB := Lib.hid hb
            clear hb hs
            generalize l[k] = x at *
            generalize hbest : below (l.take k) b.lo = best at *
            clear hbest
            by_cases h3 : x ≤ b.lo
            · by_cases h4 : best ≤ x
              all_goals
                go_wp2
                go_region
                go_wp2
                go_roundw
                case rel => exact ⟨k + 1, by omega, by go_num, by rw [HB.out, if_pos h3]; congr 1; omega, (by repeat (first | (with_reducible assumption) | (with_reducible exact Below.refl _ _) | (with_reducible refine Below.alloc ?_ (by first | omega | (simp; omega) | (simp; done) | (dsimp only; omega)) _) | (with_reducible refine Below.setCell ?_ (by first | omega | (simp; omega) | (simp; done) | (dsimp only; omega)) _) | (with_reducible refine Below.drew ?_) | (with_reducible refine Below.trans ?_ (Below.mono (by assumption) (by first | omega | (simp; omega) | (simp; done) | (dsimp only; omega))))))⟩
                case measure => simp [intOf]; omega
            · have hd3 : decide (x ≤ b.lo) = false := by simpa using h3
              go_wp2
              go_region
              go_wp2
              go_roundw
              case rel => exact ⟨k + 1, by omega, by go_num, by rw [HB.out, if_neg (by omega)], (by repeat (first | (with_reducible assumption) | (with_reducible exact Below.refl _ _) | (with_reducible refine Below.alloc ?_ (by first | omega | (simp; omega) | (simp; done) | (dsimp only; omega)) _) | (with_reducible refine Below.setCell ?_ (by first | omega | (simp; omega) | (simp; done) | (dsimp only; omega)) _) | (with_reducible refine Below.drew ?_) | (with_reducible refine Below.trans ?_ (Below.mono (by assumption) (by first | omega | (simp; omega) | (simp; done) | (dsimp only; omega))))))⟩
              case measure => simp [intOf]; omega
          · have HE : Hid (below l b.lo = below (l.take k) b.lo) := Lib.hid (by rw [List.take_of_length_le (by omega)])
            rw [← HE.out]
            clear HE
            go_wp2
            go_loopw [8, 10] (fun s7 i wx => WidRel above l b.hi W s7 i wx) (fun _ i _ => l.length - (intOf i).toNat)
            case atStart => exact ⟨0, Nat.zero_le _, rfl, rfl, (by repeat (first | (with_reducible assumption) | (with_reducible exact Below.refl _ _) | (with_reducible refine Below.alloc ?_ (by first | omega | (simp; omega) | (simp; done) | (dsimp only; omega)) _) | (with_reducible refine Below.setCell ?_ (by first | omega | (simp; omega) | (simp; done) | (dsimp only; omega)) _) | (with_reducible refine Below.drew ?_) | (with_reducible refine Below.trans ?_ (Below.mono (by assumption) (by first | omega | (simp; omega) | (simp; done) | (dsimp only; omega))))))⟩
            case round =>
              obtain ⟨k, hk, rfl, rfl, hB⟩ := hrel
              obtain ⟨hcx, hfx⟩ := bcell hB
              have hzx := hB.size
              have z3 : w.heap.size + 1 + 1 < wr.heap.size := by omega
              by_cases hlt : k < l.length
              · obtain ⟨bb, oo, rfl, hcl, hbb⟩ := HR.out.cell hlt
                have hs := take_snoc' l k hlt
                have hb := above_snoc (l.take k) l[k] b.hi
                rw [← hs] at hb
                have HB := Lib.hid hb
                clear hb hs
                generalize l[k] = x at *
                generalize hbest : above (l.take k) b.hi = best at *
                clear hbest
                by_cases h3 : b.hi ≤ x
                · by_cases h4 : x ≤ best
                  all_goals
                    go_wp2
                    go_region
                    go_wp2
                    go_roundw
                    case rel => exact ⟨k + 1, by omega, by go_num, by rw [HB.out, if_pos h3]; congr 1; omega, (by repeat (first | (with_reducible assumption) | (with_reducible exact Below.refl _ _) | (with_reducible refine Below.alloc ?_ (by first | omega | (simp; omega) | (simp; done) | (dsimp only; omega)) _) | (with_reducible refine Below.setCell ?_ (by first | omega | (simp; omega) | (simp; done) | (dsimp only; omega)) _) | (with_reducible refine Below.drew ?_) | (with_reducible refine Below.trans ?_ (Below.mono (by assumption) (by first | omega | (simp; omega) | (simp; done) | (dsimp only; omega))))))⟩
                    case measure => simp [intOf]; omega
                · have hd3 : decide (b.hi ≤ x) = false := by simpa using h3
                  go_wp2
                  go_region
                  go_wp2
                  go_roundw
                  case rel => exact ⟨k + 1, by omega, by go_num, by rw [HB.out, if_neg (by omega)], (by repeat (first | (with_reducible assumption) | (with_reducible exact Below.refl _ _) | (with_reducible refine Below.alloc ?_ (by first | omega | (simp; omega) | (simp; done) | (dsimp only; omega)) _) | (with_reducible refine Below.setCell ?_ (by first | omega | (simp; omega) | (simp; done) | (dsimp only; omega)) _) | (with_reducible refine Below.drew ?_) | (with_reducible refine Below.trans ?_ (Below.mono (by assumption) (by first | omega | (simp; omega) | (simp; done) | (dsimp only; omega))))))⟩
                  case measure => simp [intOf]; omega
              · have HE : Hid (above l b.hi = above (l.take k) b.hi) := Lib.hid (by rw [List.take_of_length_le (by omega)])
                rw [← HE.out]
                clear HE
                go_wp2_with (go_at_call 77; (with_reducible refine (r3_make _ _ _).mono ?_); rintro e w1 ⟨rfl, hb1⟩; obtain ⟨hc1, hf1⟩ := bcell hb1; have hz1 := hb1.size; (try simp at hz1); (try have hy1 := Nat.lt_of_succ_le hz1); (try have hv1 := Nat.lt_of_succ_lt hy1); (try have hw10 : w.heap.size < w1.heap.size := by omega); (try have hw11 : w.heap.size + 1 < w1.heap.size := by omega); (try have hw12 : w.heap.size + 1 + 1 < w1.heap.size := by omega); (try have hw13 : w.heap.size + 1 + 1 + 1 < w1.heap.size := by omega))
                exact bodyPost_ret (by simp [results, Tryz.results31, go_sem, *] <;> rfl) rfl ⟨rfl, (by repeat (first | (with_reducible assumption) | (with_reducible exact Below.refl _ _) | (with_reducible refine Below.alloc ?_ (by first | omega | (simp; omega) | (simp; done) | (dsimp only; omega)) _) | (with_reducible refine Below.setCell ?_ (by first | omega | (simp; omega) | (simp; done) | (dsimp only; omega)) _) | (with_reducible refine Below.drew ?_) | (with_reducible refine Below.trans ?_ (Below.mono (by assumption) (by first | omega | (simp; omega) | (simp; done) | (dsimp only; omega))))))⟩
      · go_enter Tryz.func31, Tryz.ntmps31
        go_upto_region 1 with fail
        generalize hW : ((w.alloc (.cells #[.bool a.s, .int .i64 a.lo, .int .i64 a.hi] 23)).alloc (.cells #[.bool b.s, .int .i64 b.lo, .int .i64 b.hi] 23)).alloc (.cells #[.bool false, .int .i64 0, .int .i64 0] 23) = W
        have q0 : W.cell? ⟨w.heap.size, 0, none⟩ = some (.bool a.s) := by rw [← hW]; simp [go_sem]
        have q1 : W.cell? ⟨w.heap.size, 1, none⟩ = some (.int .i64 a.lo) := by rw [← hW]; simp [go_sem]
        have q2 : W.cell? ⟨w.heap.size, 2, none⟩ = some (.int .i64 a.hi) := by rw [← hW]; simp [go_sem]
        have q3 : W.cell? ⟨w.heap.size + 1, 0, none⟩ = some (.bool b.s) := by rw [← hW]; simp [go_sem]
        have q4 : W.cell? ⟨w.heap.size + 1, 1, none⟩ = some (.int .i64 b.lo) := by rw [← hW]; simp [go_sem]
        have q5 : W.cell? ⟨w.heap.size + 1, 2, none⟩ = some (.int .i64 b.hi) := by rw [← hW]; simp [go_sem]
        have q6 : W.cell? ⟨w.heap.size + 1 + 1, 0, none⟩ = some (.bool false) := by rw [← hW]; simp [go_sem]
        have q7 : W.cell? ⟨w.heap.size + 1 + 1, 1, none⟩ = some (.int .i64 0) := by rw [← hW]; simp [go_sem]
        have q8 : W.cell? ⟨w.heap.size + 1 + 1, 2, none⟩ = some (.int .i64 0) := by rw [← hW]; simp [go_sem]
        have f6 : W.frozen? ⟨w.heap.size + 1 + 1, 0, none⟩ = false := by rw [← hW]; simp [go_sem]
        have f7 : W.frozen? ⟨w.heap.size + 1 + 1, 1, none⟩ = false := by rw [← hW]; simp [go_sem]
        have f8 : W.frozen? ⟨w.heap.size + 1 + 1, 2, none⟩ = false := by rw [← hW]; simp [go_sem]
        have z2 : w.heap.size + 1 + 1 < W.heap.size := by rw [← hW]; simp
        have z1 : w.heap.size + 1 < W.heap.size := by omega
        have z0 : w.heap.size < W.heap.size := by omega
        have HW : Below w.heap.size w W := by rw [← hW]; exact (by repeat (first | (with_reducible assumption) | (with_reducible exact Below.refl _ _) | (with_reducible refine Below.alloc ?_ (by first | omega | (simp; omega) | (simp; done) | (dsimp only; omega)) _) | (with_reducible refine Below.setCell ?_ (by first | omega | (simp; omega) | (simp; done) | (dsimp only; omega)) _) | (with_reducible refine Below.drew ?_) | (with_reducible refine Below.trans ?_ (Below.mono (by assumption) (by first | omega | (simp; omega) | (simp; done) | (dsimp only; omega))))))
        have HR := Lib.hid (HR0.out W HW)
        clear hW HR0
        go_wp2_with (first | (go_at_call 75; (with_reducible refine (HN.out _).mono ?_); rintro e w1 ⟨rfl, hb1⟩; obtain ⟨hc1, hf1⟩ := bcell hb1; have hz1 := hb1.size; (try simp at hz1); (try have hy1 := Nat.lt_of_succ_le hz1); (try have hv1 := Nat.lt_of_succ_lt hy1); (try have hw10 : w.heap.size < w1.heap.size := by omega); (try have hw11 : w.heap.size + 1 < w1.heap.size := by omega); (try have hw12 : w.heap.size + 1 + 1 < w1.heap.size := by omega); (try have hw13 : w.heap.size + 1 + 1 + 1 < w1.heap.size := by omega)) | (go_at_call 76; (with_reducible refine (HL.out _).mono ?_); rintro e w1 ⟨rfl, hb1⟩; obtain ⟨hc1, hf1⟩ := bcell hb1; have hz1 := hb1.size; (try simp at hz1); (try have hy1 := Nat.lt_of_succ_le hz1); (try have hv1 := Nat.lt_of_succ_lt hy1); (try have hw10 : w.heap.size < w1.heap.size := by omega); (try have hw11 : w.heap.size + 1 < w1.heap.size := by omega); (try have hw12 : w.heap.size + 1 + 1 < w1.heap.size := by omega); (try have hw13 : w.heap.size + 1 + 1 + 1 < w1.heap.size := by omega)))
        go_region
        go_wp2
        go_loopw [7, 9] (fun s7 i wx => WidRel below l b.lo W s7 i wx) (fun _ i _ => l.length - (intOf i).toNat)
        case atStart => exact ⟨0, Nat.zero_le _, rfl, rfl, (by repeat (first | (with_reducible assumption) | (with_reducible exact Below.refl _ _) | (with_reducible refine Below.alloc ?_ (by first | omega | (simp; omega) | (simp; done) | (dsimp only; omega)) _) | (with_reducible refine Below.setCell ?_ (by first | omega | (simp; omega) | (simp; done) | (dsimp only; omega)) _) | (with_reducible refine Below.drew ?_) | (with_reducible refine Below.trans ?_ (Below.mono (by assumption) (by first | omega | (simp; omega) | (simp; done) | (dsimp only; omega))))))⟩
        case round =>
          obtain ⟨k, hk, rfl, rfl, hB⟩ := hrel
          obtain ⟨hcx, hfx⟩ := bcell hB
          have hzx := hB.size
          have z3 : w.heap.size + 1 + 1 < wr.heap.size := by omega
          by_cases hlt : k < l.length
          · obtain ⟨bb, oo, rfl, hcl, hbb⟩ := HR.out.cell hlt
            have hs := take_snoc' l k hlt
            have hb := below_snoc (l.take k) l[k] b.lo
            rw [← hs] at hb
            have HB := Lib.hid hb
            clear hb hs
            generalize l[k] = x at *
            generalize hbest : below (l.take k) b.lo = best at *
            clear hbest
            by_cases h3 : x ≤ b.lo
            · by_cases h4 : best ≤ x
              all_goals
                go_wp2
                go_region
                go_wp2
                go_roundw
                case rel => exact ⟨k + 1, by omega, by go_num, by rw [HB.out, if_pos h3]; congr 1; omega, (by repeat (first | (with_reducible assumption) | (with_reducible exact Below.refl _ _) | (with_reducible refine Below.alloc ?_ (by first | omega | (simp; omega) | (simp; done) | (dsimp only; omega)) _) | (with_reducible refine Below.setCell ?_ (by first | omega | (simp; omega) | (simp; done) | (dsimp only; omega)) _) | (with_reducible refine Below.drew ?_) | (with_reducible refine Below.trans ?_ (Below.mono (by assumption) (by first | omega | (simp; omega) | (simp; done) | (dsimp only; omega))))))⟩
                case measure => simp [intOf]; omega
            · have hd3 : decide (x ≤ b.lo) = false := by simpa using h3
              go_wp2
              go_region
              go_wp2
              go_roundw
              case rel => exact ⟨k + 1, by omega, by go_num, by rw [HB.out, if_neg (by omega)], (by repeat (first | (with_reducible assumption) | (with_reducible exact Below.refl _ _) | (with_reducible refine Below.alloc ?_ (by first | omega | (simp; omega) | (simp; done) | (dsimp only; omega)) _) | (with_reducible refine Below.setCell ?_ (by first | omega | (simp; omega) | (simp; done) | (dsimp only; omega)) _) | (with_reducible refine Below.drew ?_) | (with_reducible refine Below.trans ?_ (Below.mono (by assumption) (by first | omega | (simp; omega) | (simp; done) | (dsimp only; omega))))))⟩
              case measure => simp [intOf]; omega
          · have HE : Hid (below l b.lo = below (l.take k) b.lo) := Lib.hid (by rw [List.take_of_length_le (by omega)])
            rw [← HE.out]
            clear HE
            go_wp2_with (go_at_call 77; (with_reducible refine (r3_make _ _ _).mono ?_); rintro e w1 ⟨rfl, hb1⟩; obtain ⟨hc1, hf1⟩ := bcell hb1; have hz1 := hb1.size; (try simp at hz1); (try have hy1 := Nat.lt_of_succ_le hz1); (try have hv1 := Nat.lt_of_succ_lt hy1); (try have hw10 : w.heap.size < w1.heap.size := by omega); (try have hw11 : w.heap.size + 1 < w1.heap.size := by omega); (try have hw12 : w.heap.size + 1 + 1 < w1.heap.size := by omega); (try have hw13 : w.heap.size + 1 + 1 + 1 < w1.heap.size := by omega))
            exact bodyPost_ret (by simp [results, Tryz.results31, go_sem, *] <;> rfl) rfl ⟨rfl, (by repeat (first | (with_reducible assumption) | (with_reducible exact Below.refl _ _) | (with_reducible refine Below.alloc ?_ (by first | omega | (simp; omega) | (simp; done) | (dsimp only; omega)) _) | (with_reducible refine Below.setCell ?_ (by first | omega | (simp; omega) | (simp; done) | (dsimp only; omega)) _) | (with_reducible refine Below.drew ?_) | (with_reducible refine Below.trans ?_ (Below.mono (by assumption) (by first | omega | (simp; omega) | (simp; done) | (dsimp only; omega))))))⟩
      · go_enter Tryz.func31, Tryz.ntmps31
        go_upto_region 1 with fail
        generalize hW : ((w.alloc (.cells #[.bool a.s, .int .i64 a.lo, .int .i64 a.hi] 23)).alloc (.cells #[.bool b.s, .int .i64 b.lo, .int .i64 b.hi] 23)).alloc (.cells #[.bool false, .int .i64 0, .int .i64 0] 23) = W
        have q0 : W.cell? ⟨w.heap.size, 0, none⟩ = some (.bool a.s) := by rw [← hW]; simp [go_sem]
        have q1 : W.cell? ⟨w.heap.size, 1, none⟩ = some (.int .i64 a.lo) := by rw [← hW]; simp [go_sem]
        have q2 : W.cell? ⟨w.heap.size, 2, none⟩ = some (.int .i64 a.hi) := by rw [← hW]; simp [go_sem]
        have q3 : W.cell? ⟨w.heap.size + 1, 0, none⟩ = some (.bool b.s) := by rw [← hW]; simp [go_sem]
        have q4 : W.cell? ⟨w.heap.size + 1, 1, none⟩ = some (.int .i64 b.lo) := by rw [← hW]; simp [go_sem]
        have q5 : W.cell? ⟨w.heap.size + 1, 2, none⟩ = some (.int .i64 b.hi) := by rw [← hW]; simp [go_sem]
        have q6 : W.cell? ⟨w.heap.size + 1 + 1, 0, none⟩ = some (.bool false) := by rw [← hW]; simp [go_sem]
        have q7 : W.cell? ⟨w.heap.size + 1 + 1, 1, none⟩ = some (.int .i64 0) := by rw [← hW]; simp [go_sem]
        have q8 : W.cell? ⟨w.heap.size + 1 + 1, 2, none⟩ = some (.int .i64 0) := by rw [← hW]; simp [go_sem]
        have f6 : W.frozen? ⟨w.heap.size + 1 + 1, 0, none⟩ = false := by rw [← hW]; simp [go_sem]
        have f7 : W.frozen? ⟨w.heap.size + 1 + 1, 1, none⟩ = false := by rw [← hW]; simp [go_sem]
        have f8 : W.frozen? ⟨w.heap.size + 1 + 1, 2, none⟩ = false := by rw [← hW]; simp [go_sem]
        have z2 : w.heap.size + 1 + 1 < W.heap.size := by rw [← hW]; simp
        have z1 : w.heap.size + 1 < W.heap.size := by omega
        have z0 : w.heap.size < W.heap.size := by omega
        have HW : Below w.heap.size w W := by rw [← hW]; exact (by repeat (first | (with_reducible assumption) | (with_reducible exact Below.refl _ _) | (with_reducible refine Below.alloc ?_ (by first | omega | (simp; omega) | (simp; done) | (dsimp only; omega)) _) | (with_reducible refine Below.setCell ?_ (by first | omega | (simp; omega) | (simp; done) | (dsimp only; omega)) _) | (with_reducible refine Below.drew ?_) | (with_reducible refine Below.trans ?_ (Below.mono (by assumption) (by first | omega | (simp; omega) | (simp; done) | (dsimp only; omega))))))
        have HR := Lib.hid (HR0.out W HW)
        clear hW HR0
        go_wp2_with (first | (go_at_call 75; (with_reducible refine (HN.out _).mono ?_); rintro e w1 ⟨rfl, hb1⟩; obtain ⟨hc1, hf1⟩ := bcell hb1; have hz1 := hb1.size; (try simp at hz1); (try have hy1 := Nat.lt_of_succ_le hz1); (try have hv1 := Nat.lt_of_succ_lt hy1); (try have hw10 : w.heap.size < w1.heap.size := by omega); (try have hw11 : w.heap.size + 1 < w1.heap.size := by omega); (try have hw12 : w.heap.size + 1 + 1 < w1.heap.size := by omega); (try have hw13 : w.heap.size + 1 + 1 + 1 < w1.heap.size := by omega)) | (go_at_call 76; (with_reducible refine (HL.out _).mono ?_); rintro e w1 ⟨rfl, hb1⟩; obtain ⟨hc1, hf1⟩ := bcell hb1; have hz1 := hb1.size; (try simp at hz1); (try have hy1 := Nat.lt_of_succ_le hz1); (try have hv1 := Nat.lt_of_succ_lt hy1); (try have hw10 : w.heap.size < w1.heap.size := by omega); (try have hw11 : w.heap.size + 1 < w1.heap.size := by omega); (try have hw12 : w.heap.size + 1 + 1 < w1.heap.size := by omega); (try have hw13 : w.heap.size + 1 + 1 + 1 < w1.heap.size := by omega)))
        go_region
        go_wp2
        go_loopw [8, 10] (fun s7 i wx => WidRel above l b.hi W s7 i wx) (fun _ i _ => l.length - (intOf i).toNat)
        case atStart => exact ⟨0, Nat.zero_le _, rfl, rfl, (by repeat (first | (with_reducible assumption) | (with_reducible exact Below.refl _ _) | (with_reducible refine Below.alloc ?_ (by first | omega | (simp; omega) | (simp; done) | (dsimp only; omega)) _) | (with_reducible refine Below.setCell ?_ (by first | omega | (simp; omega) | (simp; done) | (dsimp only; omega)) _) | (with_reducible refine Below.drew ?_) | (with_reducible refine Below.trans ?_ (Below.mono (by assumption) (by first | omega | (simp; omega) | (simp; done) | (dsimp only; omega))))))⟩
        case round =>
          obtain ⟨k, hk, rfl, rfl, hB⟩ := hrel
          obtain ⟨hcx, hfx⟩ := bcell hB
          have hzx := hB.size
          have z3 : w.heap.size + 1 + 1 < wr.heap.size := by omega
          by_cases hlt : k < l.length
          · obtain ⟨bb, oo, rfl, hcl, hbb⟩ := HR.out.cell hlt
            have hs := take_snoc' l k hlt
            have hb := above_snoc (l.take k) l[k] b.hi
            rw [← hs] at hb
            have HB := Lib.hid hb
            clear hb hs
            generalize l[k] = x at *
            generalize hbest : above (l.take k) b.hi = best at *
            clear hbest
            by_cases h3 : b.hi ≤ x
            · by_cases h4 : x ≤ best
              all_goals
                go_wp2
                go_region
                go_wp2
                go_roundw
                case rel => exact ⟨k + 1, by omega, by go_num, by rw [HB.out, if_pos h3]; congr 1; omega, (by repeat (first | (with_reducible assumption) | (with_reducible exact Below.refl _ _) | (with_reducible refine Below.alloc ?_ (by first | omega | (simp; omega) | (simp; done) | (dsimp only; omega)) _) | (with_reducible refine Below.setCell ?_ (by first | omega | (simp; omega) | (simp; done) | (dsimp only; omega)) _) | (with_reducible refine Below.drew ?_) | (with_reducible refine Below.trans ?_ (Below.mono (by assumption) (by first | omega | (simp; omega) | (simp; done) | (dsimp only; omega))))))⟩
                case measure => simp [intOf]; omega
            · have hd3 : decide (b.hi ≤ x) = false := by simpa using h3
              go_wp2
              go_region
              go_wp2
              go_roundw
              case rel => exact ⟨k + 1, by omega, by go_num, by rw [HB.out, if_neg (by omega)], (by repeat (first | (with_reducible assumption) | (with_reducible exact Below.refl _ _) | (with_reducible refine Below.alloc ?_ (by first | omega | (simp; omega) | (simp; done) | (dsimp only; omega)) _) | (with_reducible refine Below.setCell ?_ (by first | omega | (simp; omega) | (simp; done) | (dsimp only; omega)) _) | (with_reducible refine Below.drew ?_) | (with_reducible refine Below.trans ?_ (Below.mono (by assumption) (by first | omega | (simp; omega) | (simp; done) | (dsimp only; omega))))))⟩
              case measure => simp [intOf]; omega
          · have HE : Hid (above l b.hi = above (l.take k) b.hi) := Lib.hid (by rw [List.take_of_length_le (by omega)])
            rw [← HE.out]
            clear HE
            go_wp2_with (go_at_call 77; (with_reducible refine (r3_make _ _ _).mono ?_); rintro e w1 ⟨rfl, hb1⟩; obtain ⟨hc1, hf1⟩ := bcell hb1; have hz1 := hb1.size; (try simp at hz1); (try have hy1 := Nat.lt_of_succ_le hz1); (try have hv1 := Nat.lt_of_succ_lt hy1); (try have hw10 : w.heap.size < w1.heap.size := by omega); (try have hw11 : w.heap.size + 1 < w1.heap.size := by omega); (try have hw12 : w.heap.size + 1 + 1 < w1.heap.size := by omega); (try have hw13 : w.heap.size + 1 + 1 + 1 < w1.heap.size := by omega))
            exact bodyPost_ret (by simp [results, Tryz.results31, go_sem, *] <;> rfl) rfl ⟨rfl, (by repeat (first | (with_reducible assumption) | (with_reducible exact Below.refl _ _) | (with_reducible refine Below.alloc ?_ (by first | omega | (simp; omega) | (simp; done) | (dsimp only; omega)) _) | (with_reducible refine Below.setCell ?_ (by first | omega | (simp; omega) | (simp; done) | (dsimp only; omega)) _) | (with_reducible refine Below.drew ?_) | (with_reducible refine Below.trans ?_ (Below.mono (by assumption) (by first | omega | (simp; omega) | (simp; done) | (dsimp only; omega))))))⟩
      · go_enter Tryz.func31, Tryz.ntmps31
        go_upto_region 1 with fail
        generalize hW : ((w.alloc (.cells #[.bool a.s, .int .i64 a.lo, .int .i64 a.hi] 23)).alloc (.cells #[.bool b.s, .int .i64 b.lo, .int .i64 b.hi] 23)).alloc (.cells #[.bool false, .int .i64 0, .int .i64 0] 23) = W
        have q0 : W.cell? ⟨w.heap.size, 0, none⟩ = some (.bool a.s) := by rw [← hW]; simp [go_sem]
        have q1 : W.cell? ⟨w.heap.size, 1, none⟩ = some (.int .i64 a.lo) := by rw [← hW]; simp [go_sem]
        have q2 : W.cell? ⟨w.heap.size, 2, none⟩ = some (.int .i64 a.hi) := by rw [← hW]; simp [go_sem]
        have q3 : W.cell? ⟨w.heap.size + 1, 0, none⟩ = some (.bool b.s) := by rw [← hW]; simp [go_sem]
        have q4 : W.cell? ⟨w.heap.size + 1, 1, none⟩ = some (.int .i64 b.lo) := by rw [← hW]; simp [go_sem]
        have q5 : W.cell? ⟨w.heap.size + 1, 2, none⟩ = some (.int .i64 b.hi) := by rw [← hW]; simp [go_sem]
        have q6 : W.cell? ⟨w.heap.size + 1 + 1, 0, none⟩ = some (.bool false) := by rw [← hW]; simp [go_sem]
        have q7 : W.cell? ⟨w.heap.size + 1 + 1, 1, none⟩ = some (.int .i64 0) := by rw [← hW]; simp [go_sem]
        have q8 : W.cell? ⟨w.heap.size + 1 + 1, 2, none⟩ = some (.int .i64 0) := by rw [← hW]; simp [go_sem]
        have f6 : W.frozen? ⟨w.heap.size + 1 + 1, 0, none⟩ = false := by rw [← hW]; simp [go_sem]
        have f7 : W.frozen? ⟨w.heap.size + 1 + 1, 1, none⟩ = false := by rw [← hW]; simp [go_sem]
        have f8 : W.frozen? ⟨w.heap.size + 1 + 1, 2, none⟩ = false := by rw [← hW]; simp [go_sem]
        have z2 : w.heap.size + 1 + 1 < W.heap.size := by rw [← hW]; simp
        have z1 : w.heap.size + 1 < W.heap.size := by omega
        have z0 : w.heap.size < W.heap.size := by omega
        have HW : Below w.heap.size w W := by rw [← hW]; exact (by repeat (first | (with_reducible assumption) | (with_reducible exact Below.refl _ _) | (with_reducible refine Below.alloc ?_ (by first | omega | (simp; omega) | (simp; done) | (dsimp only; omega)) _) | (with_reducible refine Below.setCell ?_ (by first | omega | (simp; omega) | (simp; done) | (dsimp only; omega)) _) | (with_reducible refine Below.drew ?_) | (with_reducible refine Below.trans ?_ (Below.mono (by assumption) (by first | omega | (simp; omega) | (simp; done) | (dsimp only; omega))))))
        have HR := Lib.hid (HR0.out W HW)
        clear hW HR0
        go_wp2_with (first | (go_at_call 75; (with_reducible refine (HN.out _).mono ?_); rintro e w1 ⟨rfl, hb1⟩; obtain ⟨hc1, hf1⟩ := bcell hb1; have hz1 := hb1.size; (try simp at hz1); (try have hy1 := Nat.lt_of_succ_le hz1); (try have hv1 := Nat.lt_of_succ_lt hy1); (try have hw10 : w.heap.size < w1.heap.size := by omega); (try have hw11 : w.heap.size + 1 < w1.heap.size := by omega); (try have hw12 : w.heap.size + 1 + 1 < w1.heap.size := by omega); (try have hw13 : w.heap.size + 1 + 1 + 1 < w1.heap.size := by omega)) | (go_at_call 76; (with_reducible refine (HL.out _).mono ?_); rintro e w1 ⟨rfl, hb1⟩; obtain ⟨hc1, hf1⟩ := bcell hb1; have hz1 := hb1.size; (try simp at hz1); (try have hy1 := Nat.lt_of_succ_le hz1); (try have hv1 := Nat.lt_of_succ_lt hy1); (try have hw10 : w.heap.size < w1.heap.size := by omega); (try have hw11 : w.heap.size + 1 < w1.heap.size := by omega); (try have hw12 : w.heap.size + 1 + 1 < w1.heap.size := by omega); (try have hw13 : w.heap.size + 1 + 1 + 1 < w1.heap.size := by omega)))
        go_region
        go_wp2_with (go_at_call 77; (with_reducible refine (r3_make _ _ _).mono ?_); rintro e w1 ⟨rfl, hb1⟩; obtain ⟨hc1, hf1⟩ := bcell hb1; have hz1 := hb1.size; (try simp at hz1); (try have hy1 := Nat.lt_of_succ_le hz1); (try have hv1 := Nat.lt_of_succ_lt hy1); (try have hw10 : w.heap.size < w1.heap.size := by omega); (try have hw11 : w.heap.size + 1 < w1.heap.size := by omega); (try have hw12 : w.heap.size + 1 + 1 < w1.heap.size := by omega); (try have hw13 : w.heap.size + 1 + 1 + 1 < w1.heap.size := by omega))
        exact bodyPost_ret (by simp [results, Tryz.results31, go_sem, *] <;> rfl) rfl ⟨rfl, (by repeat (first | (with_reducible assumption) | (with_reducible exact Below.refl _ _) | (with_reducible refine Below.alloc ?_ (by first | omega | (simp; omega) | (simp; done) | (dsimp only; omega)) _) | (with_reducible refine Below.setCell ?_ (by first | omega | (simp; omega) | (simp; done) | (dsimp only; omega)) _) | (with_reducible refine Below.drew ?_) | (with_reducible refine Below.trans ?_ (Below.mono (by assumption) (by first | omega | (simp; omega) | (simp; done) | (dsimp only; omega))))))⟩
    · rw [Sp.widen_2 l h h']; rw [h'] at hl
      have HN := Lib.hid hn; have HL := Lib.hid hl; clear hn h hl h' hn2 hm hr
      go_enter Tryz.func31, Tryz.ntmps31
      go_wp2_with (first | (go_at_call 75; (with_reducible refine (HN.out _).mono ?_); rintro e w1 ⟨rfl, hb1⟩; obtain ⟨hc1, hf1⟩ := bcell hb1; have hz1 := hb1.size; (try simp at hz1); (try have hy1 := Nat.lt_of_succ_le hz1); (try have hv1 := Nat.lt_of_succ_lt hy1); (try have hw10 : w.heap.size < w1.heap.size := by omega); (try have hw11 : w.heap.size + 1 < w1.heap.size := by omega); (try have hw12 : w.heap.size + 1 + 1 < w1.heap.size := by omega); (try have hw13 : w.heap.size + 1 + 1 + 1 < w1.heap.size := by omega)) | (go_at_call 76; (with_reducible refine (HL.out _).mono ?_); rintro e w1 ⟨rfl, hb1⟩; obtain ⟨hc1, hf1⟩ := bcell hb1; have hz1 := hb1.size; (try simp at hz1); (try have hy1 := Nat.lt_of_succ_le hz1); (try have hv1 := Nat.lt_of_succ_lt hy1); (try have hw10 : w.heap.size < w1.heap.size := by omega); (try have hw11 : w.heap.size + 1 < w1.heap.size := by omega); (try have hw12 : w.heap.size + 1 + 1 < w1.heap.size := by omega); (try have hw13 : w.heap.size + 1 + 1 + 1 < w1.heap.size := by omega)))
      exact bodyPost_ret (by simp [results, Tryz.results31, go_sem, *] <;> rfl) rfl ⟨rfl, (by repeat (first | (with_reducible assumption) | (with_reducible exact Below.refl _ _) | (with_reducible refine Below.alloc ?_ (by first | omega | (simp; omega) | (simp; done) | (dsimp only; omega)) _) | (with_reducible refine Below.setCell ?_ (by first | omega | (simp; omega) | (simp; done) | (dsimp only; omega)) _) | (with_reducible refine Below.drew ?_) | (with_reducible refine Below.trans ?_ (Below.mono (by assumption) (by first | omega | (simp; omega) | (simp; done) | (dsimp only; omega))))))⟩
  · rw [Sp.widen_1 l h]; rw [h] at hn
    unfold Sp.clean
    cases h' : b.none
    all_goals
      rw [h'] at hn2
      have HN := Lib.hid hn; have HM := Lib.hid hn2; clear hn hn2 hl hm hr h h'
      simp only [Bool.false_eq_true, if_true, if_false, Sp.zero]
      go_enter Tryz.func31, Tryz.ntmps31
      go_wp2_with (first | (go_at_call 75; (with_reducible refine (HN.out _).mono ?_); rintro e w1 ⟨rfl, hb1⟩; obtain ⟨hc1, hf1⟩ := bcell hb1; have hz1 := hb1.size; (try simp at hz1); (try have hy1 := Nat.lt_of_succ_le hz1); (try have hv1 := Nat.lt_of_succ_lt hy1); (try have hw10 : w.heap.size < w1.heap.size := by omega); (try have hw11 : w.heap.size + 1 < w1.heap.size := by omega); (try have hw12 : w.heap.size + 1 + 1 < w1.heap.size := by omega); (try have hw13 : w.heap.size + 1 + 1 + 1 < w1.heap.size := by omega)) | (go_at_call 75; (with_reducible refine (HM.out _).mono ?_); rintro e w1 ⟨rfl, hb1⟩; obtain ⟨hc1, hf1⟩ := bcell hb1; have hz1 := hb1.size; (try simp at hz1); (try have hy1 := Nat.lt_of_succ_le hz1); (try have hv1 := Nat.lt_of_succ_lt hy1); (try have hw10 : w.heap.size < w1.heap.size := by omega); (try have hw11 : w.heap.size + 1 < w1.heap.size := by omega); (try have hw12 : w.heap.size + 1 + 1 < w1.heap.size := by omega); (try have hw13 : w.heap.size + 1 + 1 + 1 < w1.heap.size := by omega)))
      exact bodyPost_ret (by simp [results, Tryz.results31, go_sem, *] <;> rfl) rfl ⟨rfl, (by repeat (first | (with_reducible assumption) | (with_reducible exact Below.refl _ _) | (with_reducible refine Below.alloc ?_ (by first | omega | (simp; omega) | (simp; done) | (dsimp only; omega)) _) | (with_reducible refine Below.setCell ?_ (by first | omega | (simp; omega) | (simp; done) | (dsimp only; omega)) _) | (with_reducible refine Below.drew ?_) | (with_reducible refine Below.trans ?_ (Below.mono (by assumption) (by first | omega | (simp; omega) | (simp; done) | (dsimp only; omega))))))⟩

end Go.Proofs.YtdpnphnafidpiaaGreat

/- X-PARTIAL Spans: what lattices ask, and how often widening can change one (pure). -/
namespace Go.Proofs.YtdpnphnafidpiaaGreat
open Go.RowKit

theorem Sp.leq_iff (a b : Sp) : a.leq b = true ↔ (a.none = true ∨ (b.none = false ∧ b.lo ≤ a.lo ∧ a.hi ≤ b.hi)) := by
  cases h : a.none
  · cases h' : b.none
    · rw [Sp.leq_some h h']; simp
    · rw [Sp.leq_none2 h h']; simp
  · rw [Sp.leq_none b h]; simp

theorem Sp.none_iff (a : Sp) : a.none = false ↔ (a.s = true ∧ a.lo ≤ a.hi) := by unfold Sp.none; simp

theorem Sp.leq_refl (a : Sp) : a.leq a = true := by
  rw [Sp.leq_iff]; cases h : a.none <;> simp

theorem Sp.leq_trans {a b c : Sp} (h1 : a.leq b = true) (h2 : b.leq c = true) : a.leq c = true := by
  rw [Sp.leq_iff] at *
  rcases h1 with h1 | ⟨h1, h3, h4⟩
  · exact Or.inl h1
  · rcases h2 with h2 | ⟨h2, h5, h6⟩
    · rw [h2] at h1; cases h1
    · exact Or.inr ⟨h2, by omega, by omega⟩

theorem Sp.clean_leq (a c : Sp) : a.clean.leq c = a.leq c := by
  cases h : a.none
  · rw [show a.clean = a from if_neg (by rw [h]; decide)]
  · rw [show a.clean = Sp.zero from if_pos h, Sp.leq_none c h, Sp.leq_none c rfl]

theorem Sp.leq_clean (a c : Sp) : c.leq a.clean = c.leq a := by
  cases h : a.none
  · rw [show a.clean = a from if_neg (by rw [h]; decide)]
  · rw [show a.clean = Sp.zero from if_pos h]
    cases hc : c.none
    · rw [Sp.leq_none2 hc h, Sp.leq_none2 hc rfl]
    · rw [Sp.leq_none _ hc, Sp.leq_none _ hc]

/-- The least above both. -/
theorem Sp.lub (a b c : Sp) : (a.join b).leq c = (a.leq c && b.leq c) := by
  cases h : a.none
  · cases h' : b.none
    · rw [Sp.join_00 h h']
      rw [Sp.none_iff] at h h'
      have h1 : (Sp.of (if b.lo < a.lo then b.lo else a.lo) (if a.hi < b.hi then b.hi else a.hi)) = ⟨true, if b.lo < a.lo then b.lo else a.lo, if a.hi < b.hi then b.hi else a.hi⟩ := Sp.of_f (by split <;> split <;> omega)
      rw [h1, Bool.eq_iff_iff, Bool.and_eq_true, Sp.leq_iff, Sp.leq_iff, Sp.leq_iff, (Sp.none_iff a).2 h, (Sp.none_iff b).2 h']
      have h2 : (Sp.mk true (if b.lo < a.lo then b.lo else a.lo) (if a.hi < b.hi then b.hi else a.hi)).none = false := by
        rw [Sp.none_iff]; refine ⟨rfl, ?_⟩; dsimp only; split <;> split <;> omega
      rw [h2]
      simp only [Bool.false_eq_true, false_or]
      constructor
      · rintro ⟨h3, h4, h5⟩
        split at h4 <;> split at h5 <;> exact ⟨⟨h3, by omega, by omega⟩, ⟨h3, by omega, by omega⟩⟩
      · rintro ⟨⟨h3, h4, h5⟩, ⟨_, h6, h7⟩⟩
        refine ⟨h3, ?_, ?_⟩ <;> split <;> omega
    · rw [Sp.join_01 h h', Sp.leq_none c h', Bool.and_true]
  · rw [Sp.join_1 h, Sp.leq_none c h, Bool.true_and, Sp.clean_leq]

/-- The greatest below both. -/
theorem Sp.glb (a b c : Sp) : c.leq (a.meet b) = (c.leq a && c.leq b) := by
  cases h : a.none
  · cases h' : b.none
    · rw [Sp.meet_00 h h']
      by_cases hh : min a.hi b.hi < max a.lo b.lo
      · rw [Sp.of_t hh, Bool.eq_iff_iff, Bool.and_eq_true, Sp.leq_iff, Sp.leq_iff, Sp.leq_iff, h, h']
        have h0 : (Sp.mk false 0 0).none = true := rfl
        rw [h0]
        constructor
        · rintro (h1 | ⟨h1, _⟩)
          · exact ⟨Or.inl h1, Or.inl h1⟩
          · cases h1
        · rintro ⟨h1 | ⟨_, h1, h2⟩, h3 | ⟨_, h3, h4⟩⟩
          · exact Or.inl h1
          · exact Or.inl h1
          · exact Or.inl h3
          · left
            apply Classical.byContradiction; intro hc
            rw [Bool.not_eq_true, Sp.none_iff] at hc
            have := hc.2
            omega
      · rw [Sp.of_f hh, Bool.eq_iff_iff, Bool.and_eq_true, Sp.leq_iff, Sp.leq_iff, Sp.leq_iff, h, h', Sp.none_f hh]
        constructor
        · rintro (h1 | ⟨_, h1, h2⟩)
          · exact ⟨Or.inl h1, Or.inl h1⟩
          · dsimp only at h1 h2; exact ⟨Or.inr ⟨rfl, by omega, by omega⟩, Or.inr ⟨rfl, by omega, by omega⟩⟩
        · rintro ⟨h1 | ⟨_, h1, h2⟩, h3 | ⟨_, h3, h4⟩⟩
          · exact Or.inl h1
          · exact Or.inl h1
          · exact Or.inl h3
          · exact Or.inr ⟨rfl, by dsimp only; omega, by dsimp only; omega⟩
    · rw [Sp.meet_01 h h']
      cases hc : c.none
      · rw [Sp.leq_none2 hc h', Bool.and_false]; exact Sp.leq_none2 hc rfl
      · rw [Sp.leq_none _ hc, Sp.leq_none _ hc, Sp.leq_none _ hc]; rfl
  · rw [Sp.meet_1 h]
    cases hc : c.none
    · rw [Sp.leq_none2 hc h, Bool.false_and]; exact Sp.leq_none2 hc rfl
    · rw [Sp.leq_none _ hc, Sp.leq_none _ hc, Sp.leq_none _ hc]; rfl

theorem Sp.same_of {a b : Sp} (h : ∀ c : Sp, a.leq c = b.leq c) : a.same b = true := by
  rw [Sp.same_leq, h b, Sp.leq_refl, ← h a, Sp.leq_refl]; rfl

theorem Sp.same_of' {a b : Sp} (h : ∀ c : Sp, c.leq a = c.leq b) : a.same b = true := by
  rw [Sp.same_leq, ← h a, Sp.leq_refl, h b, Sp.leq_refl]; rfl

theorem Sp.join_up (a b : Sp) : a.leq (a.join b) = true ∧ b.leq (a.join b) = true := by
  have h := Sp.lub a b (a.join b)
  rw [Sp.leq_refl] at h
  simpa using h.symm

theorem Sp.meet_down (a b : Sp) : (a.meet b).leq a = true ∧ (a.meet b).leq b = true := by
  have h := Sp.glb a b (a.meet b)
  rw [Sp.leq_refl] at h
  simpa using h.symm

theorem Sp.clean_some {a : Sp} (h : a.none = false) : a.clean = a := if_neg (by rw [h]; decide)

theorem Sp.clean_none {a : Sp} (h : a.none = true) : a.clean = Sp.zero := if_pos h

theorem Sp.clean_clean (a : Sp) : a.clean.clean = a.clean := by
  cases h : a.none
  · rw [Sp.clean_some h, Sp.clean_some h]
  · rw [Sp.clean_none h]; rfl

theorem Sp.of_clean (lo hi : Int) : (Sp.of lo hi).clean = Sp.of lo hi := Sp.clean_clean _

theorem Sp.narrow_clean {s : Sp} (x : Sp) (hs : s.clean = s) : (s.narrow x).clean = s.narrow x := by
  cases h : x.leq s
  · rw [Sp.narrow_1 h, hs, hs]
  · cases h' : x.none
    · rw [Sp.narrow_3 h h', Sp.of_clean]
    · rw [Sp.narrow_2 h h']; rfl

/-- Narrowing stays between. -/
theorem Sp.narrow_between {s : Sp} (x : Sp) (hs : s.clean = s) : (s.narrow x).leq s = true ∧ (x.leq s = true → x.leq (s.narrow x) = true) := by
  cases h : x.leq s
  · rw [Sp.narrow_1 h, hs]; exact ⟨Sp.leq_refl s, fun h => by cases h⟩
  · cases h' : x.none
    · have h0 := (Sp.leq_iff x s).1 h
      rw [h'] at h0
      simp only [Bool.false_eq_true, false_or] at h0
      obtain ⟨hsn, h1, h2⟩ := h0
      have hx := (Sp.none_iff x).1 h'
      rw [Sp.narrow_3 h h', Sp.of_f (by split <;> split <;> omega)]
      have hn : (Sp.mk true (if s.lo = -9223372036854775808 then x.lo else s.lo) (if s.hi = 9223372036854775807 then x.hi else s.hi)).none = false := by
        rw [Sp.none_iff]; refine ⟨rfl, ?_⟩; dsimp only; split <;> split <;> omega
      rw [Sp.leq_iff, Sp.leq_iff, hn, hsn]
      exact ⟨Or.inr ⟨rfl, by dsimp only; split <;> omega, by dsimp only; split <;> omega⟩, fun _ => Or.inr ⟨rfl, by dsimp only; split <;> omega, by dsimp only; split <;> omega⟩⟩
    · rw [Sp.narrow_2 h h']; exact ⟨rfl, fun _ => Sp.leq_none _ h'⟩

/-- How many rungs lie below, or above, and the last one at the end. -/
def lowR (L : List Int) (n : Int) : Nat := L.countP (fun y => decide (y < n)) + (if -9223372036854775808 < n then 1 else 0)

def highR (L : List Int) (n : Int) : Nat := L.countP (fun y => decide (n < y)) + (if n < 9223372036854775807 then 1 else 0)

theorem lowR_le (L : List Int) (n : Int) : lowR L n ≤ L.length + 1 := by
  unfold lowR; have := List.countP_le_length (p := fun y => decide (y < n)) (l := L); split <;> omega

theorem highR_le (L : List Int) (n : Int) : highR L n ≤ L.length + 1 := by
  unfold highR; have := List.countP_le_length (p := fun y => decide (n < y)) (l := L); split <;> omega

theorem countP_mono' (L : List Int) {p q : Int → Bool} (h : ∀ x, p x = true → q x = true) : L.countP p ≤ L.countP q := by
  induction L with
  | nil => simp
  | cons x L ih =>
    rw [List.countP_cons, List.countP_cons]
    by_cases hp : p x = true
    · rw [if_pos hp, if_pos (h x hp)]; omega
    · rw [if_neg hp]; omega

theorem countP_lt' {L : List Int} {p q : Int → Bool} (h : ∀ x, p x = true → q x = true) {y : Int} (hy : y ∈ L) (hp : p y = false) (hq : q y = true) : L.countP p + 1 ≤ L.countP q := by
  induction L with
  | nil => cases hy
  | cons x L ih =>
    rw [List.countP_cons, List.countP_cons]
    rcases List.mem_cons.1 hy with rfl | hy
    · rw [if_neg (by rw [hp]; decide), if_pos hq]
      have := countP_mono' L h
      omega
    · have := ih hy
      by_cases hx : p x = true
      · rw [if_pos hx, if_pos (h x hx)]; omega
      · rw [if_neg hx]; omega

theorem lowR_mono (L : List Int) {a b : Int} (h : a ≤ b) : lowR L a ≤ lowR L b := by
  unfold lowR
  have := countP_mono' L (p := fun y => decide (y < a)) (q := fun y => decide (y < b)) (fun x hx => by simp at hx ⊢; omega)
  split <;> split <;> omega

theorem highR_mono (L : List Int) {a b : Int} (h : b ≤ a) : highR L a ≤ highR L b := by
  unfold highR
  have := countP_mono' L (p := fun y => decide (a < y)) (q := fun y => decide (b < y)) (fun x hx => by simp at hx ⊢; omega)
  split <;> split <;> omega

theorem lowR_lt {L : List Int} {a b : Int} (ha : a ∈ L ∨ a = -9223372036854775808) (h : a < b) : lowR L a + 1 ≤ lowR L b := by
  unfold lowR
  rcases ha with ha | ha
  · have := countP_lt' (L := L) (p := fun y => decide (y < a)) (q := fun y => decide (y < b)) (fun x hx => by simp at hx ⊢; omega) ha (by simp) (by simpa using h)
    split <;> split <;> omega
  · have := countP_mono' L (p := fun y => decide (y < a)) (q := fun y => decide (y < b)) (fun x hx => by simp at hx ⊢; omega)
    rw [if_neg (by omega), if_pos (by omega)]; omega

theorem highR_lt {L : List Int} {a b : Int} (ha : a ∈ L ∨ a = 9223372036854775807) (h : b < a) : highR L a + 1 ≤ highR L b := by
  unfold highR
  rcases ha with ha | ha
  · have := countP_lt' (L := L) (p := fun y => decide (a < y)) (q := fun y => decide (b < y)) (fun x hx => by simp at hx ⊢; omega) ha (by simp) (by simpa using h)
    split <;> split <;> omega
  · have := countP_mono' L (p := fun y => decide (a < y)) (q := fun y => decide (b < y)) (fun x hx => by simp at hx ⊢; omega)
    rw [if_neg (by omega), if_pos (by omega)]; omega

/-- A rung below, or the least int. -/
theorem below_spec (L : List Int) (n : Int) (hn : -9223372036854775808 ≤ n) : (below L n ∈ L ∨ below L n = -9223372036854775808) ∧ below L n ≤ n ∧ -9223372036854775808 ≤ below L n := by
  have key : ∀ (M : List Int) (b : Int), (∀ x ∈ M, x ∈ L) → (b ∈ L ∨ b = -9223372036854775808) → b ≤ n → -9223372036854775808 ≤ b →
      let r := M.foldl (fun best x => if x ≤ n then max best x else best) b
      (r ∈ L ∨ r = -9223372036854775808) ∧ r ≤ n ∧ -9223372036854775808 ≤ r := by
    intro M
    induction M with
    | nil => intro b _ h1 h2 h3; exact ⟨h1, h2, h3⟩
    | cons x M ih =>
      intro b hM h1 h2 h3
      refine ih _ (fun y hy => hM y (List.mem_cons_of_mem _ hy)) ?_ ?_ ?_ <;> dsimp only
      · split
        · by_cases hb : b ≤ x
          · rw [Int.max_eq_right hb]; exact Or.inl (hM x List.mem_cons_self)
          · rw [Int.max_eq_left (by omega)]; exact h1
        · exact h1
      · split <;> omega
      · split <;> omega
  exact key L _ (fun _ h => h) (Or.inr rfl) hn (Int.le_refl _)

theorem above_spec (L : List Int) (n : Int) (hn : n ≤ 9223372036854775807) : (above L n ∈ L ∨ above L n = 9223372036854775807) ∧ n ≤ above L n ∧ above L n ≤ 9223372036854775807 := by
  have key : ∀ (M : List Int) (b : Int), (∀ x ∈ M, x ∈ L) → (b ∈ L ∨ b = 9223372036854775807) → n ≤ b → b ≤ 9223372036854775807 →
      let r := M.foldl (fun best x => if n ≤ x then min best x else best) b
      (r ∈ L ∨ r = 9223372036854775807) ∧ n ≤ r ∧ r ≤ 9223372036854775807 := by
    intro M
    induction M with
    | nil => intro b _ h1 h2 h3; exact ⟨h1, h2, h3⟩
    | cons x M ih =>
      intro b hM h1 h2 h3
      refine ih _ (fun y hy => hM y (List.mem_cons_of_mem _ hy)) ?_ ?_ ?_ <;> dsimp only
      · split
        · by_cases hb : x ≤ b
          · rw [Int.min_eq_right hb]; exact Or.inl (hM x List.mem_cons_self)
          · rw [Int.min_eq_left (by omega)]; exact h1
        · exact h1
      · split <;> omega
      · split <;> omega
  exact key L _ (fun _ h => h) (Or.inr rfl) hn (Int.le_refl _)

/-- How often a span can still change by widening. -/
def Sp.wrank (L : List Int) (s : Sp) : Nat := if s.none = true then 2 * L.length + 3 else lowR L s.lo + highR L s.hi

def Sp.ok (s : Sp) : Prop := I64 s.lo ∧ I64 s.hi

theorem Sp.wrank_le (L : List Int) (s : Sp) : s.wrank L ≤ 2 * L.length + 3 := by
  unfold Sp.wrank; split
  · omega
  · have := lowR_le L s.lo; have := highR_le L s.hi; omega

theorem Sp.widen_ok {s x : Sp} (L : List Int) (hs : s.ok) (hx : x.ok) (hcl : s.clean = s) :
    (s.widen x L).clean = s.widen x L ∧ (s.widen x L).ok ∧ s.leq (s.widen x L) = true ∧ x.leq (s.widen x L) = true ∧ (s.widen x L ≠ s → (s.widen x L).wrank L + 1 ≤ s.wrank L) := by
  have hz : Sp.zero.ok := ⟨⟨by decide, by decide⟩, ⟨by decide, by decide⟩⟩
  cases h : s.none
  · cases h' : x.leq s
    · rw [Sp.widen_3 L h h']
      have hxn : x.none = false := by
        cases hx' : x.none
        · rfl
        · rw [Sp.leq_none s hx'] at h'; cases h'
      have hs0 := (Sp.none_iff s).1 h
      have hx0 := (Sp.none_iff x).1 hxn
      obtain ⟨b1, b2, b3⟩ := below_spec L x.lo hx.1.1
      obtain ⟨c1, c2, c3⟩ := above_spec L x.hi hx.2.2
      have hs1 := hs.1; have hs2 := hs.2; have hx1 := hx.1; have hx2 := hx.2
      unfold I64 at hs1 hs2 hx1 hx2
      have hlo : (if x.lo < s.lo then below L x.lo else s.lo) ≤ s.lo ∧ (if x.lo < s.lo then below L x.lo else s.lo) ≤ x.lo ∧ -9223372036854775808 ≤ (if x.lo < s.lo then below L x.lo else s.lo) := by split <;> omega
      have hhi : s.hi ≤ (if s.hi < x.hi then above L x.hi else s.hi) ∧ x.hi ≤ (if s.hi < x.hi then above L x.hi else s.hi) ∧ (if s.hi < x.hi then above L x.hi else s.hi) ≤ 9223372036854775807 := by split <;> omega
      have hrl : x.lo < s.lo → lowR L (if x.lo < s.lo then below L x.lo else s.lo) + 1 ≤ lowR L s.lo := fun hc => by
        rw [if_pos hc]; exact lowR_lt b1 (by omega)
      have hrh : s.hi < x.hi → highR L (if s.hi < x.hi then above L x.hi else s.hi) + 1 ≤ highR L s.hi := fun hc => by
        rw [if_pos hc]; exact highR_lt c1 (by omega)
      have hd : x.lo < s.lo ∨ s.hi < x.hi := by
        rw [Sp.leq_some hxn h] at h'
        simp at h'
        by_cases hc : x.lo < s.lo
        · exact Or.inl hc
        · exact Or.inr (h' (by omega))
      generalize (if x.lo < s.lo then below L x.lo else s.lo) = lo at *
      generalize (if s.hi < x.hi then above L x.hi else s.hi) = hi at *
      have hne : ¬ hi < lo := by omega
      have hml := lowR_mono L hlo.1
      have hmh := highR_mono L hhi.1
      rw [Sp.of_f hne]
      have hn := Sp.none_f hne
      refine ⟨Sp.clean_some hn, ⟨⟨by dsimp only; omega, by dsimp only; omega⟩, ⟨by dsimp only; omega, by dsimp only; omega⟩⟩, ?_, ?_, fun _ => ?_⟩
      · rw [Sp.leq_iff]; exact Or.inr ⟨hn, hlo.1, hhi.1⟩
      · rw [Sp.leq_iff]; exact Or.inr ⟨hn, hlo.2.1, hhi.2.1⟩
      · unfold Sp.wrank
        rw [hn, h]
        simp only [Bool.false_eq_true, if_false]
        rcases hd with hd | hd
        · have := hrl hd; omega
        · have := hrh hd; omega
    · rw [Sp.widen_2 L h h']
      exact ⟨hcl, hs, Sp.leq_refl s, h', fun hc => absurd rfl hc⟩
  · rw [Sp.widen_1 L h]
    refine ⟨Sp.clean_clean x, ?_, Sp.leq_none _ h, by rw [Sp.leq_clean]; exact Sp.leq_refl x, fun hne => ?_⟩
    · cases hx' : x.none
      · rw [Sp.clean_some hx']; exact hx
      · rw [Sp.clean_none hx']; exact hz
    · cases hx' : x.none
      · rw [Sp.clean_some hx']
        unfold Sp.wrank
        rw [hx', h]
        simp only [Bool.false_eq_true, if_false, if_true]
        have := lowR_le L x.lo; have := highR_le L x.hi; omega
      · rw [Sp.clean_none h] at hcl
        rw [Sp.clean_none hx'] at hne
        exact absurd hcl hne

end Go.Proofs.YtdpnphnafidpiaaGreat
