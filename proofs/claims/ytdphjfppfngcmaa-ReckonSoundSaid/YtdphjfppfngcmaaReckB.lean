/- What the document's own Wrap of layer 4 returns. -/
import Derived.Test.YtdphjfppfngcmaaReckA
namespace Go.Proofs.Ytdphjfppfngcmaa
open Go.RowKit

set_option maxHeartbeats 1000000 in
theorem r4_all (w : World) : Calls Try.prog 44 #[] w fun e w' => e = .returned (.agg #[.bool (Sp.of (-9223372036854775808) 9223372036854775807).s, .int .i64 (Sp.of (-9223372036854775808) 9223372036854775807).lo, .int .i64 (Sp.of (-9223372036854775808) 9223372036854775807).hi]) ∧ Below w.heap.size w w' := by
  have HM := Lib.hid (r3_make (-9223372036854775808) 9223372036854775807)
  go_enter Try.func44, Try.ntmps44
  go_wp2_with (go_at_call 24; (with_reducible refine (HM.out _).mono ?_); rintro e w1 ⟨rfl, hb1⟩; obtain ⟨hc1, hf1⟩ := bcell hb1; have hz1 := hb1.size; (try simp at hz1); (try have hy1 := Nat.lt_of_succ_le hz1); (try have hv1 := Nat.lt_of_succ_lt hy1); (try have hw10 : w.heap.size < w1.heap.size := by omega); (try have hw11 : w.heap.size + 1 < w1.heap.size := by omega); (try have hw12 : w.heap.size + 1 + 1 < w1.heap.size := by omega); (try have hw13 : w.heap.size + 1 + 1 + 1 < w1.heap.size := by omega))
  refine bodyPost_ret (by simp [results, Try.results44, go_sem, *] <;> rfl) rfl ⟨rfl, (by repeat (first | (with_reducible assumption) | (with_reducible exact Below.refl _ _) | (with_reducible refine Below.alloc ?_ (by first | omega | (simp; omega) | (simp; done) | (dsimp only; omega)) _) | (with_reducible refine Below.setCell ?_ (by first | omega | (simp; omega) | (simp; done) | (dsimp only; omega)) _) | (with_reducible refine Below.drew ?_) | (with_reducible refine Below.trans ?_ (Below.mono (by assumption) (by first | omega | (simp; omega) | (simp; done) | (dsimp only; omega))))))⟩

set_option maxRecDepth 100000 in
set_option maxHeartbeats 4000000 in
theorem r4_wrap (a b : Int) (ha : I128 a) (hb : I128 b) (w : World) :
    Calls Try.prog 15 #[.agg #[.int .i64 (hiW a), .int .u64 (loW a)], .agg #[.int .i64 (hiW b), .int .u64 (loW b)]] w fun e w' => e = .returned (.agg #[.bool (wrapS a b).s, .int .i64 (wrapS a b).lo, .int .i64 (wrapS a b).hi]) ∧ Below w.heap.size w w' := by
  have hc := r_cmp (hiW a) (loW a) (hiW b) (loW b) (I64_hi ha) (U64.lo _) (I64_hi hb) (U64.lo _)
  rw [wv_hilo, wv_hilo] at hc
  have hs := r_sub (hiW b) (loW b) (hiW a) (loW a) (U64.lo _) (U64.lo _)
  rw [wv_hilo, wv_hilo] at hs
  have HS := Lib.hid hs
  clear hs
  have HA := Lib.hid r4_all
  have HO := Lib.hid (r3_make (wrap64 a) (wrap64 b))
  by_cases h1 : b < a
  · have E := Lib.hid (wrapS_1 h1)
    have e : cmpI a b = 1 := by unfold cmpI; rw [if_neg (by omega), if_neg (by omega)]
    rw [e] at hc
    have HC := Lib.hid hc
    clear hc e HS HA HO
    go_enter Try.func15, Try.ntmps15
    go_wp2_with (go_at_call 42; (with_reducible refine (HC.out _).mono ?_); rintro e w1 ⟨rfl, hb1⟩; obtain ⟨hc1, hf1⟩ := bcell hb1; have hz1 := hb1.size; (try simp at hz1); (try have hy1 := Nat.lt_of_succ_le hz1); (try have hv1 := Nat.lt_of_succ_lt hy1); (try have hw10 : w.heap.size < w1.heap.size := by omega); (try have hw11 : w.heap.size + 1 < w1.heap.size := by omega); (try have hw12 : w.heap.size + 1 + 1 < w1.heap.size := by omega); (try have hw13 : w.heap.size + 1 + 1 + 1 < w1.heap.size := by omega))
    refine bodyPost_ret (by simp [results, Try.results15, go_sem, *] <;> rfl) rfl ⟨by rw [E.out], (by repeat (first | (with_reducible assumption) | (with_reducible exact Below.refl _ _) | (with_reducible refine Below.alloc ?_ (by first | omega | (simp; omega) | (simp; done) | (dsimp only; omega)) _) | (with_reducible refine Below.setCell ?_ (by first | omega | (simp; omega) | (simp; done) | (dsimp only; omega)) _) | (with_reducible refine Below.drew ?_) | (with_reducible refine Below.trans ?_ (Below.mono (by assumption) (by first | omega | (simp; omega) | (simp; done) | (dsimp only; omega))))))⟩
  · have hcl := cmpI_le h1
    have HC := Lib.hid hc
    clear hc
    generalize cmpI a b = cm at *
    have e2 := wrapS_2 (a := a) (b := b) h1
    have e3 := wrapS_3 (a := a) (b := b) h1
    have e4 := wrapS_4 (a := a) (b := b) h1
    have kla := wrap_low a
    have klb := wrap_low b
    generalize wrap64 a = l at *
    generalize wrap64 b = h at *
    generalize hiW (wrap128 (b - a)) = fh at *
    generalize loW (wrap128 (b - a)) = fl at *
    by_cases hz : fh = 0
    · subst hz
      replace e4 := e4 rfl
      clear e2
      by_cases hlt : h < l
      · have E := Lib.hid (e3 (by omega))
        clear e3 e4
        go_enter Try.func15, Try.ntmps15
        go_upto_region 1 with fail
        generalize hW : (((w.alloc (.cells #[.int .i64 (hiW a), .int .u64 (loW a)] 31)).alloc (.cells #[.int .i64 (hiW b), .int .u64 (loW b)] 31)).alloc (.cells #[.bool false, .int .i64 0, .int .i64 0] 23)) = W
        have q0_0 : W.cell? ⟨w.heap.size, 0, none⟩ = some (.int .i64 (hiW a)) := by rw [← hW]; simp [go_sem]
        have q0_1 : W.cell? ⟨w.heap.size, 1, none⟩ = some (.int .u64 (loW a)) := by rw [← hW]; simp [go_sem]
        have q1_0 : W.cell? ⟨w.heap.size + 1, 0, none⟩ = some (.int .i64 (hiW b)) := by rw [← hW]; simp [go_sem]
        have q1_1 : W.cell? ⟨w.heap.size + 1, 1, none⟩ = some (.int .u64 (loW b)) := by rw [← hW]; simp [go_sem]
        have q2_0 : W.cell? ⟨w.heap.size + 1 + 1, 0, none⟩ = some (.bool false) := by rw [← hW]; simp [go_sem]
        have q2_1 : W.cell? ⟨w.heap.size + 1 + 1, 1, none⟩ = some (.int .i64 0) := by rw [← hW]; simp [go_sem]
        have q2_2 : W.cell? ⟨w.heap.size + 1 + 1, 2, none⟩ = some (.int .i64 0) := by rw [← hW]; simp [go_sem]
        have f0 : ∀ o, W.frozen? ⟨w.heap.size, o, none⟩ = false := by intro o; rw [← hW]; simp [go_sem]
        have f1 : ∀ o, W.frozen? ⟨w.heap.size + 1, o, none⟩ = false := by intro o; rw [← hW]; simp [go_sem]
        have f2 : ∀ o, W.frozen? ⟨w.heap.size + 1 + 1, o, none⟩ = false := by intro o; rw [← hW]; simp [go_sem]
        have z0 : w.heap.size < W.heap.size := by rw [← hW]; first | (simp; done) | (simp; omega)
        have z1 : w.heap.size + 1 < W.heap.size := by rw [← hW]; first | (simp; done) | (simp; omega)
        have z2 : w.heap.size + 1 + 1 < W.heap.size := by rw [← hW]; first | (simp; done) | (simp; omega)
        have HW : Below w.heap.size w W := by rw [← hW]; exact (by repeat (first | (with_reducible assumption) | (with_reducible exact Below.refl _ _) | (with_reducible refine Below.alloc ?_ (by first | omega | (simp; omega) | (simp; done) | (dsimp only; omega)) _) | (with_reducible refine Below.setCell ?_ (by first | omega | (simp; omega) | (simp; done) | (dsimp only; omega)) _) | (with_reducible refine Below.drew ?_) | (with_reducible refine Below.trans ?_ (Below.mono (by assumption) (by first | omega | (simp; omega) | (simp; done) | (dsimp only; omega))))))
        clear hW
        go_wp2_with (first | (go_at_call 42; (with_reducible refine (HC.out _).mono ?_); rintro e w1 ⟨rfl, hb1⟩; obtain ⟨hc1, hf1⟩ := bcell hb1; have hz1 := hb1.size; (try simp at hz1); (try have hy1 := Nat.lt_of_succ_le hz1); (try have hv1 := Nat.lt_of_succ_lt hy1); (try have hw10 : w.heap.size < w1.heap.size := by omega); (try have hw11 : w.heap.size + 1 < w1.heap.size := by omega); (try have hw12 : w.heap.size + 1 + 1 < w1.heap.size := by omega); (try have hw13 : w.heap.size + 1 + 1 + 1 < w1.heap.size := by omega)) | (go_at_call 43; (with_reducible refine (HS.out _).mono ?_); rintro e w2 ⟨rfl, hb2⟩; obtain ⟨hc2, hf2⟩ := bcell hb2; have hz2 := hb2.size; (try simp at hz2); (try have hy2 := Nat.lt_of_succ_le hz2); (try have hv2 := Nat.lt_of_succ_lt hy2); (try have hw20 : w.heap.size < w2.heap.size := by omega); (try have hw21 : w.heap.size + 1 < w2.heap.size := by omega); (try have hw22 : w.heap.size + 1 + 1 < w2.heap.size := by omega); (try have hw23 : w.heap.size + 1 + 1 + 1 < w2.heap.size := by omega); (try have hx2_0 : w.heap.size < w2.heap.size := by omega); (try have hx2_1 : w.heap.size + 1 < w2.heap.size := by omega); (try have hx2_2 : w.heap.size + 1 + 1 < w2.heap.size := by omega)) | (go_at_call 44; (with_reducible refine (HA.out _).mono ?_); rintro e w3 ⟨rfl, hb3⟩; obtain ⟨hc3, hf3⟩ := bcell hb3; have hz3 := hb3.size; (try simp at hz3); (try have hy3 := Nat.lt_of_succ_le hz3); (try have hv3 := Nat.lt_of_succ_lt hy3); (try have hw30 : w.heap.size < w3.heap.size := by omega); (try have hw31 : w.heap.size + 1 < w3.heap.size := by omega); (try have hw32 : w.heap.size + 1 + 1 < w3.heap.size := by omega); (try have hw33 : w.heap.size + 1 + 1 + 1 < w3.heap.size := by omega); (try have hx3_0 : w.heap.size < w3.heap.size := by omega); (try have hx3_1 : w.heap.size + 1 < w3.heap.size := by omega); (try have hx3_2 : w.heap.size + 1 + 1 < w3.heap.size := by omega)))
        refine bodyPost_ret (by simp [results, Try.results15, go_sem, *] <;> rfl) rfl ⟨by rw [E.out], (by repeat (first | (with_reducible assumption) | (with_reducible exact Below.refl _ _) | (with_reducible refine Below.alloc ?_ (by first | omega | (simp; omega) | (simp; done) | (dsimp only; omega)) _) | (with_reducible refine Below.setCell ?_ (by first | omega | (simp; omega) | (simp; done) | (dsimp only; omega)) _) | (with_reducible refine Below.drew ?_) | (with_reducible refine Below.trans ?_ (Below.mono (by assumption) (by first | omega | (simp; omega) | (simp; done) | (dsimp only; omega))))))⟩
      · have E := Lib.hid (e4 (by omega))
        clear e3 e4
        go_enter Try.func15, Try.ntmps15
        go_upto_region 1 with fail
        generalize hW : (((w.alloc (.cells #[.int .i64 (hiW a), .int .u64 (loW a)] 31)).alloc (.cells #[.int .i64 (hiW b), .int .u64 (loW b)] 31)).alloc (.cells #[.bool false, .int .i64 0, .int .i64 0] 23)) = W
        have q0_0 : W.cell? ⟨w.heap.size, 0, none⟩ = some (.int .i64 (hiW a)) := by rw [← hW]; simp [go_sem]
        have q0_1 : W.cell? ⟨w.heap.size, 1, none⟩ = some (.int .u64 (loW a)) := by rw [← hW]; simp [go_sem]
        have q1_0 : W.cell? ⟨w.heap.size + 1, 0, none⟩ = some (.int .i64 (hiW b)) := by rw [← hW]; simp [go_sem]
        have q1_1 : W.cell? ⟨w.heap.size + 1, 1, none⟩ = some (.int .u64 (loW b)) := by rw [← hW]; simp [go_sem]
        have q2_0 : W.cell? ⟨w.heap.size + 1 + 1, 0, none⟩ = some (.bool false) := by rw [← hW]; simp [go_sem]
        have q2_1 : W.cell? ⟨w.heap.size + 1 + 1, 1, none⟩ = some (.int .i64 0) := by rw [← hW]; simp [go_sem]
        have q2_2 : W.cell? ⟨w.heap.size + 1 + 1, 2, none⟩ = some (.int .i64 0) := by rw [← hW]; simp [go_sem]
        have f0 : ∀ o, W.frozen? ⟨w.heap.size, o, none⟩ = false := by intro o; rw [← hW]; simp [go_sem]
        have f1 : ∀ o, W.frozen? ⟨w.heap.size + 1, o, none⟩ = false := by intro o; rw [← hW]; simp [go_sem]
        have f2 : ∀ o, W.frozen? ⟨w.heap.size + 1 + 1, o, none⟩ = false := by intro o; rw [← hW]; simp [go_sem]
        have z0 : w.heap.size < W.heap.size := by rw [← hW]; first | (simp; done) | (simp; omega)
        have z1 : w.heap.size + 1 < W.heap.size := by rw [← hW]; first | (simp; done) | (simp; omega)
        have z2 : w.heap.size + 1 + 1 < W.heap.size := by rw [← hW]; first | (simp; done) | (simp; omega)
        have HW : Below w.heap.size w W := by rw [← hW]; exact (by repeat (first | (with_reducible assumption) | (with_reducible exact Below.refl _ _) | (with_reducible refine Below.alloc ?_ (by first | omega | (simp; omega) | (simp; done) | (dsimp only; omega)) _) | (with_reducible refine Below.setCell ?_ (by first | omega | (simp; omega) | (simp; done) | (dsimp only; omega)) _) | (with_reducible refine Below.drew ?_) | (with_reducible refine Below.trans ?_ (Below.mono (by assumption) (by first | omega | (simp; omega) | (simp; done) | (dsimp only; omega))))))
        clear hW
        go_wp2_with (first | (go_at_call 42; (with_reducible refine (HC.out _).mono ?_); rintro e w1 ⟨rfl, hb1⟩; obtain ⟨hc1, hf1⟩ := bcell hb1; have hz1 := hb1.size; (try simp at hz1); (try have hy1 := Nat.lt_of_succ_le hz1); (try have hv1 := Nat.lt_of_succ_lt hy1); (try have hw10 : w.heap.size < w1.heap.size := by omega); (try have hw11 : w.heap.size + 1 < w1.heap.size := by omega); (try have hw12 : w.heap.size + 1 + 1 < w1.heap.size := by omega); (try have hw13 : w.heap.size + 1 + 1 + 1 < w1.heap.size := by omega)) | (go_at_call 43; (with_reducible refine (HS.out _).mono ?_); rintro e w2 ⟨rfl, hb2⟩; obtain ⟨hc2, hf2⟩ := bcell hb2; have hz2 := hb2.size; (try simp at hz2); (try have hy2 := Nat.lt_of_succ_le hz2); (try have hv2 := Nat.lt_of_succ_lt hy2); (try have hw20 : w.heap.size < w2.heap.size := by omega); (try have hw21 : w.heap.size + 1 < w2.heap.size := by omega); (try have hw22 : w.heap.size + 1 + 1 < w2.heap.size := by omega); (try have hw23 : w.heap.size + 1 + 1 + 1 < w2.heap.size := by omega); (try have hx2_0 : w.heap.size < w2.heap.size := by omega); (try have hx2_1 : w.heap.size + 1 < w2.heap.size := by omega); (try have hx2_2 : w.heap.size + 1 + 1 < w2.heap.size := by omega)) | (go_at_call 24; (with_reducible refine (HO.out _).mono ?_); rintro e w3 ⟨rfl, hb3⟩; obtain ⟨hc3, hf3⟩ := bcell hb3; have hz3 := hb3.size; (try simp at hz3); (try have hy3 := Nat.lt_of_succ_le hz3); (try have hv3 := Nat.lt_of_succ_lt hy3); (try have hw30 : w.heap.size < w3.heap.size := by omega); (try have hw31 : w.heap.size + 1 < w3.heap.size := by omega); (try have hw32 : w.heap.size + 1 + 1 < w3.heap.size := by omega); (try have hw33 : w.heap.size + 1 + 1 + 1 < w3.heap.size := by omega); (try have hx3_0 : w.heap.size < w3.heap.size := by omega); (try have hx3_1 : w.heap.size + 1 < w3.heap.size := by omega); (try have hx3_2 : w.heap.size + 1 + 1 < w3.heap.size := by omega)))
        refine bodyPost_ret (by simp [results, Try.results15, go_sem, *] <;> rfl) rfl ⟨by rw [E.out], (by repeat (first | (with_reducible assumption) | (with_reducible exact Below.refl _ _) | (with_reducible refine Below.alloc ?_ (by first | omega | (simp; omega) | (simp; done) | (dsimp only; omega)) _) | (with_reducible refine Below.setCell ?_ (by first | omega | (simp; omega) | (simp; done) | (dsimp only; omega)) _) | (with_reducible refine Below.drew ?_) | (with_reducible refine Below.trans ?_ (Below.mono (by assumption) (by first | omega | (simp; omega) | (simp; done) | (dsimp only; omega))))))⟩
    · have E := Lib.hid (e2 hz)
      have k0 : (fh == 0) = false := by simpa using hz
      clear e2 e3 e4
      go_enter Try.func15, Try.ntmps15
      go_upto_region 1 with fail
      generalize hW : (((w.alloc (.cells #[.int .i64 (hiW a), .int .u64 (loW a)] 31)).alloc (.cells #[.int .i64 (hiW b), .int .u64 (loW b)] 31)).alloc (.cells #[.bool false, .int .i64 0, .int .i64 0] 23)) = W
      have q0_0 : W.cell? ⟨w.heap.size, 0, none⟩ = some (.int .i64 (hiW a)) := by rw [← hW]; simp [go_sem]
      have q0_1 : W.cell? ⟨w.heap.size, 1, none⟩ = some (.int .u64 (loW a)) := by rw [← hW]; simp [go_sem]
      have q1_0 : W.cell? ⟨w.heap.size + 1, 0, none⟩ = some (.int .i64 (hiW b)) := by rw [← hW]; simp [go_sem]
      have q1_1 : W.cell? ⟨w.heap.size + 1, 1, none⟩ = some (.int .u64 (loW b)) := by rw [← hW]; simp [go_sem]
      have q2_0 : W.cell? ⟨w.heap.size + 1 + 1, 0, none⟩ = some (.bool false) := by rw [← hW]; simp [go_sem]
      have q2_1 : W.cell? ⟨w.heap.size + 1 + 1, 1, none⟩ = some (.int .i64 0) := by rw [← hW]; simp [go_sem]
      have q2_2 : W.cell? ⟨w.heap.size + 1 + 1, 2, none⟩ = some (.int .i64 0) := by rw [← hW]; simp [go_sem]
      have f0 : ∀ o, W.frozen? ⟨w.heap.size, o, none⟩ = false := by intro o; rw [← hW]; simp [go_sem]
      have f1 : ∀ o, W.frozen? ⟨w.heap.size + 1, o, none⟩ = false := by intro o; rw [← hW]; simp [go_sem]
      have f2 : ∀ o, W.frozen? ⟨w.heap.size + 1 + 1, o, none⟩ = false := by intro o; rw [← hW]; simp [go_sem]
      have z0 : w.heap.size < W.heap.size := by rw [← hW]; first | (simp; done) | (simp; omega)
      have z1 : w.heap.size + 1 < W.heap.size := by rw [← hW]; first | (simp; done) | (simp; omega)
      have z2 : w.heap.size + 1 + 1 < W.heap.size := by rw [← hW]; first | (simp; done) | (simp; omega)
      have HW : Below w.heap.size w W := by rw [← hW]; exact (by repeat (first | (with_reducible assumption) | (with_reducible exact Below.refl _ _) | (with_reducible refine Below.alloc ?_ (by first | omega | (simp; omega) | (simp; done) | (dsimp only; omega)) _) | (with_reducible refine Below.setCell ?_ (by first | omega | (simp; omega) | (simp; done) | (dsimp only; omega)) _) | (with_reducible refine Below.drew ?_) | (with_reducible refine Below.trans ?_ (Below.mono (by assumption) (by first | omega | (simp; omega) | (simp; done) | (dsimp only; omega))))))
      clear hW
      go_wp2_with (first | (go_at_call 42; (with_reducible refine (HC.out _).mono ?_); rintro e w1 ⟨rfl, hb1⟩; obtain ⟨hc1, hf1⟩ := bcell hb1; have hz1 := hb1.size; (try simp at hz1); (try have hy1 := Nat.lt_of_succ_le hz1); (try have hv1 := Nat.lt_of_succ_lt hy1); (try have hw10 : w.heap.size < w1.heap.size := by omega); (try have hw11 : w.heap.size + 1 < w1.heap.size := by omega); (try have hw12 : w.heap.size + 1 + 1 < w1.heap.size := by omega); (try have hw13 : w.heap.size + 1 + 1 + 1 < w1.heap.size := by omega)) | (go_at_call 43; (with_reducible refine (HS.out _).mono ?_); rintro e w2 ⟨rfl, hb2⟩; obtain ⟨hc2, hf2⟩ := bcell hb2; have hz2 := hb2.size; (try simp at hz2); (try have hy2 := Nat.lt_of_succ_le hz2); (try have hv2 := Nat.lt_of_succ_lt hy2); (try have hw20 : w.heap.size < w2.heap.size := by omega); (try have hw21 : w.heap.size + 1 < w2.heap.size := by omega); (try have hw22 : w.heap.size + 1 + 1 < w2.heap.size := by omega); (try have hw23 : w.heap.size + 1 + 1 + 1 < w2.heap.size := by omega); (try have hx2_0 : w.heap.size < w2.heap.size := by omega); (try have hx2_1 : w.heap.size + 1 < w2.heap.size := by omega); (try have hx2_2 : w.heap.size + 1 + 1 < w2.heap.size := by omega)) | (go_at_call 44; (with_reducible refine (HA.out _).mono ?_); rintro e w3 ⟨rfl, hb3⟩; obtain ⟨hc3, hf3⟩ := bcell hb3; have hz3 := hb3.size; (try simp at hz3); (try have hy3 := Nat.lt_of_succ_le hz3); (try have hv3 := Nat.lt_of_succ_lt hy3); (try have hw30 : w.heap.size < w3.heap.size := by omega); (try have hw31 : w.heap.size + 1 < w3.heap.size := by omega); (try have hw32 : w.heap.size + 1 + 1 < w3.heap.size := by omega); (try have hw33 : w.heap.size + 1 + 1 + 1 < w3.heap.size := by omega); (try have hx3_0 : w.heap.size < w3.heap.size := by omega); (try have hx3_1 : w.heap.size + 1 < w3.heap.size := by omega); (try have hx3_2 : w.heap.size + 1 + 1 < w3.heap.size := by omega)))
      refine bodyPost_ret (by simp [results, Try.results15, go_sem, *] <;> rfl) rfl ⟨by rw [E.out], (by repeat (first | (with_reducible assumption) | (with_reducible exact Below.refl _ _) | (with_reducible refine Below.alloc ?_ (by first | omega | (simp; omega) | (simp; done) | (dsimp only; omega)) _) | (with_reducible refine Below.setCell ?_ (by first | omega | (simp; omega) | (simp; done) | (dsimp only; omega)) _) | (with_reducible refine Below.drew ?_) | (with_reducible refine Below.trans ?_ (Below.mono (by assumption) (by first | omega | (simp; omega) | (simp; done) | (dsimp only; omega))))))⟩
end Go.Proofs.Ytdphjfppfngcmaa
