/- What reckon.Wrap and the document's own Wrap return: layer 4. -/
import Derived.Test.YtdphjfppfngcmaaWideB
import Derived.Test.YtdphjfppfngcmaaRefE
import Derived.Test.YtdphjfppfngcmaaSpanZ
import Derived.Test.YtdphjfppfngcmaaSeqg
namespace Go.Proofs.Ytdphjfppfngcmaa
open Go.RowKit

/-- The ints to which the numbers from a to b wrap round. -/
def wrapS (a b : Int) : Sp := if b < a then ⟨false, 0, 0⟩ else if hiW (wrap128 (b - a)) = 0 ∧ wrap64 a ≤ wrap64 b then Sp.of (wrap64 a) (wrap64 b) else Sp.of (-9223372036854775808) 9223372036854775807
theorem wrapS_1 {a b : Int} (h : b < a) : wrapS a b = ⟨false, 0, 0⟩ := if_pos h
theorem wrapS_2 {a b : Int} (h : ¬ b < a) (h' : ¬ hiW (wrap128 (b - a)) = 0) : wrapS a b = Sp.of (-9223372036854775808) 9223372036854775807 := (if_neg h).trans (if_neg (fun g => h' g.1))
theorem wrapS_3 {a b : Int} (h : ¬ b < a) (h' : wrap64 b < wrap64 a) : wrapS a b = Sp.of (-9223372036854775808) 9223372036854775807 := (if_neg h).trans (if_neg (fun g => by omega))
theorem wrapS_4 {a b : Int} (h : ¬ b < a) (h' : hiW (wrap128 (b - a)) = 0) (h2 : ¬ wrap64 b < wrap64 a) : wrapS a b = Sp.of (wrap64 a) (wrap64 b) := (if_neg h).trans (if_pos ⟨h', by omega⟩)
theorem wrap_low (a : Int) : wrap64 (loW a) = wrap64 a := by unfold loW M64 wrap64; omega
theorem low_wrap (a : Int) : lowI (loW a) = wrap64 a := wrap_low a

set_option maxHeartbeats 1000000 in
theorem reckon_far (a b : Int) (w : World) :
    Calls Try.prog 40 #[.agg #[.int .i64 (hiW a), .int .u64 (loW a)], .agg #[.int .i64 (hiW b), .int .u64 (loW b)]] w fun e w' => e = .returned (.bool (!(hiW (wrap128 (b - a)) == 0))) ∧ Below w.heap.size w w' := by
  have hs := wide_sub (hiW b) (loW b) (hiW a) (loW a) (U64.lo _) (U64.lo _)
  rw [wv_hilo, wv_hilo] at hs
  have HS := Lib.hid hs
  clear hs
  generalize hiW (wrap128 (b - a)) = h at *
  generalize loW (wrap128 (b - a)) = l at *
  have kf := fun (w : World) (x y : Int) => (by kernel_rfl : (Instr.field 31 (.agg #[.int .i64 x, .int .u64 y]) 0).run Try.prog w = .ok (.int .i64 x) w)
  by_cases hz : h = 0
  · subst hz
    go_enter Try.func40, Try.ntmps40
    go_wp2_with (go_at_call 64; (with_reducible refine (HS.out _).mono ?_); rintro e w1 ⟨rfl, hb1⟩; obtain ⟨hc1, hf1⟩ := bcell hb1; have hz1 := hb1.size; (try simp at hz1); (try have hy1 := Nat.lt_of_succ_le hz1); (try have hv1 := Nat.lt_of_succ_lt hy1); (try have hw10 : w.heap.size < w1.heap.size := by omega); (try have hw11 : w.heap.size + 1 < w1.heap.size := by omega); (try have hw12 : w.heap.size + 1 + 1 < w1.heap.size := by omega); (try have hw13 : w.heap.size + 1 + 1 + 1 < w1.heap.size := by omega))
    go_ret
    exact ⟨rfl, (by repeat (first | (with_reducible assumption) | (with_reducible exact Below.refl _ _) | (with_reducible refine Below.alloc ?_ (by first | omega | (simp; omega) | (simp; done) | (dsimp only; omega)) _) | (with_reducible refine Below.setCell ?_ (by first | omega | (simp; omega) | (simp; done) | (dsimp only; omega)) _) | (with_reducible refine Below.drew ?_) | (with_reducible refine Below.trans ?_ (Below.mono (by assumption) (by first | omega | (simp; omega) | (simp; done) | (dsimp only; omega))))))⟩
  · have k0 : (h == 0) = false := by simpa using hz
    go_enter Try.func40, Try.ntmps40
    go_wp2_with (go_at_call 64; (with_reducible refine (HS.out _).mono ?_); rintro e w1 ⟨rfl, hb1⟩; obtain ⟨hc1, hf1⟩ := bcell hb1; have hz1 := hb1.size; (try simp at hz1); (try have hy1 := Nat.lt_of_succ_le hz1); (try have hv1 := Nat.lt_of_succ_lt hy1); (try have hw10 : w.heap.size < w1.heap.size := by omega); (try have hw11 : w.heap.size + 1 < w1.heap.size := by omega); (try have hw12 : w.heap.size + 1 + 1 < w1.heap.size := by omega); (try have hw13 : w.heap.size + 1 + 1 + 1 < w1.heap.size := by omega))
    go_ret
    exact ⟨ret_bool (by rw [k0]; simp [hz]), (by repeat (first | (with_reducible assumption) | (with_reducible exact Below.refl _ _) | (with_reducible refine Below.alloc ?_ (by first | omega | (simp; omega) | (simp; done) | (dsimp only; omega)) _) | (with_reducible refine Below.setCell ?_ (by first | omega | (simp; omega) | (simp; done) | (dsimp only; omega)) _) | (with_reducible refine Below.drew ?_) | (with_reducible refine Below.trans ?_ (Below.mono (by assumption) (by first | omega | (simp; omega) | (simp; done) | (dsimp only; omega))))))⟩

theorem cmpI_le {a b : Int} (h : ¬ b < a) : ¬ 0 < cmpI a b := by unfold cmpI; split <;> (try split) <;> omega

set_option maxRecDepth 100000 in
set_option maxHeartbeats 4000000 in
theorem reckon_wrap (a b : Int) (w : World) :
    Calls Try.prog 14 #[.agg #[.int .i64 (hiW a), .int .u64 (loW a)], .agg #[.int .i64 (hiW b), .int .u64 (loW b)]] w fun e w' => e = .returned (.agg #[.bool (wrapS a b).s, .int .i64 (wrapS a b).lo, .int .i64 (wrapS a b).hi]) ∧ Below w.heap.size w w' := by
  have hc := wide_cmp (hiW a) (loW a) (hiW b) (loW b) (U64.lo _) (U64.lo _)
  rw [wv_hilo, wv_hilo] at hc
  have hf := reckon_far a b
  have hl := wide_low (hiW a) (loW a)
  have hh := wide_low (hiW b) (loW b)
  rw [low_wrap] at hl hh
  have HL := Lib.hid hl; have HH := Lib.hid hh
  clear hl hh
  have HA := Lib.hid span_all
  have HO := Lib.hid (span_of (wrap64 a) (wrap64 b))
  by_cases h1 : b < a
  · have E := Lib.hid (wrapS_1 h1)
    have e : cmpI a b = 1 := by unfold cmpI; rw [if_neg (by omega), if_neg (by omega)]
    rw [e] at hc
    have HC := Lib.hid hc
    clear hc e hf
    go_enter Try.func14, Try.ntmps14
    go_wp2_with (go_at_call 38; (with_reducible refine (HC.out _).mono ?_); rintro e w1 ⟨rfl, hb1⟩; obtain ⟨hc1, hf1⟩ := bcell hb1; have hz1 := hb1.size; (try simp at hz1); (try have hy1 := Nat.lt_of_succ_le hz1); (try have hv1 := Nat.lt_of_succ_lt hy1); (try have hw10 : w.heap.size < w1.heap.size := by omega); (try have hw11 : w.heap.size + 1 < w1.heap.size := by omega); (try have hw12 : w.heap.size + 1 + 1 < w1.heap.size := by omega); (try have hw13 : w.heap.size + 1 + 1 + 1 < w1.heap.size := by omega))
    refine bodyPost_ret (by simp [results, Try.results14, go_sem, *] <;> rfl) rfl ⟨by rw [E.out], (by repeat (first | (with_reducible assumption) | (with_reducible exact Below.refl _ _) | (with_reducible refine Below.alloc ?_ (by first | omega | (simp; omega) | (simp; done) | (dsimp only; omega)) _) | (with_reducible refine Below.setCell ?_ (by first | omega | (simp; omega) | (simp; done) | (dsimp only; omega)) _) | (with_reducible refine Below.drew ?_) | (with_reducible refine Below.trans ?_ (Below.mono (by assumption) (by first | omega | (simp; omega) | (simp; done) | (dsimp only; omega))))))⟩
  · have hcl := cmpI_le h1
    have HC := Lib.hid hc
    clear hc
    generalize cmpI a b = cm at *
    have e2 := wrapS_2 (a := a) (b := b) h1
    have e3 := wrapS_3 (a := a) (b := b) h1
    have e4 := wrapS_4 (a := a) (b := b) h1
    generalize wrap64 a = l at *
    generalize wrap64 b = h at *
    go_enter Try.func14, Try.ntmps14
    go_upto_region 1 with fail
    generalize hW : (((w.alloc (.cells #[.int .i64 (hiW a), .int .u64 (loW a)] 31)).alloc (.cells #[.int .i64 (hiW b), .int .u64 (loW b)] 31)).alloc (.cells #[.bool false, .int .i64 0, .int .i64 0] 23)) = W
    have q0_0 : W.cell? ⟨w.heap.size, 0, none⟩ = some (.int .i64 (hiW a)) := by rw [← hW]; simp [go_sem]
    have q0_1 : W.cell? ⟨w.heap.size, 1, none⟩ = some (.int .u64 (loW a)) := by rw [← hW]; simp [go_sem]
    have q1_0 : W.cell? ⟨w.heap.size + 1, 0, none⟩ = some (.int .i64 (hiW b)) := by rw [← hW]; simp [go_sem]
    have q1_1 : W.cell? ⟨w.heap.size + 1, 1, none⟩ = some (.int .u64 (loW b)) := by rw [← hW]; simp [go_sem]
    have q2_0 : W.cell? ⟨w.heap.size + 1 + 1, 0, none⟩ = some (.bool false) := by rw [← hW]; simp [go_sem]
    have q2_1 : W.cell? ⟨w.heap.size + 1 + 1, 1, none⟩ = some (.int .i64 0) := by rw [← hW]; simp [go_sem]
    have q2_2 : W.cell? ⟨w.heap.size + 1 + 1, 2, none⟩ = some (.int .i64 0) := by rw [← hW]; simp [go_sem]
    have f0 : ∀ o, W.frozen? ⟨w.heap.size, o, none⟩ = false := by intro o; rw [← hW]; simp [go_sem]
    have f1 : ∀ o, W.frozen? ⟨w.heap.size + 1, o, none⟩ = false := by intro o; rw [← hW]; simp [go_sem]
    have f2 : ∀ o, W.frozen? ⟨w.heap.size + 1 + 1, o, none⟩ = false := by intro o; rw [← hW]; simp [go_sem]
    have z0 : w.heap.size < W.heap.size := by rw [← hW]; first | (simp; done) | (simp; omega)
    have z1 : w.heap.size + 1 < W.heap.size := by rw [← hW]; first | (simp; done) | (simp; omega)
    have z2 : w.heap.size + 1 + 1 < W.heap.size := by rw [← hW]; first | (simp; done) | (simp; omega)
    have HW : Below w.heap.size w W := by rw [← hW]; exact (by repeat (first | (with_reducible assumption) | (with_reducible exact Below.refl _ _) | (with_reducible refine Below.alloc ?_ (by first | omega | (simp; omega) | (simp; done) | (dsimp only; omega)) _) | (with_reducible refine Below.setCell ?_ (by first | omega | (simp; omega) | (simp; done) | (dsimp only; omega)) _) | (with_reducible refine Below.drew ?_) | (with_reducible refine Below.trans ?_ (Below.mono (by assumption) (by first | omega | (simp; omega) | (simp; done) | (dsimp only; omega))))))
    clear hW
    go_wp2_with (go_at_call 38; (with_reducible refine (HC.out _).mono ?_); rintro e w1 ⟨rfl, hb1⟩; obtain ⟨hc1, hf1⟩ := bcell hb1; have hz1 := hb1.size; (try simp at hz1); (try have hy1 := Nat.lt_of_succ_le hz1); (try have hv1 := Nat.lt_of_succ_lt hy1); (try have hw10 : w.heap.size < w1.heap.size := by omega); (try have hw11 : w.heap.size + 1 < w1.heap.size := by omega); (try have hw12 : w.heap.size + 1 + 1 < w1.heap.size := by omega); (try have hw13 : w.heap.size + 1 + 1 + 1 < w1.heap.size := by omega))
    replace f2 : ∀ o, w1.frozen? ⟨w.heap.size + 1 + 1, o, none⟩ = false := fun o => (hf1 _ _ z2).trans (f2 o)
    replace q0_0 := (hb1.cell (p := ⟨w.heap.size, 0, none⟩) z0).trans q0_0
    replace q0_1 := (hb1.cell (p := ⟨w.heap.size, 1, none⟩) z0).trans q0_1
    replace q1_0 := (hb1.cell (p := ⟨w.heap.size + 1, 0, none⟩) z1).trans q1_0
    replace q1_1 := (hb1.cell (p := ⟨w.heap.size + 1, 1, none⟩) z1).trans q1_1
    replace q2_0 := (hb1.cell (p := ⟨w.heap.size + 1 + 1, 0, none⟩) z2).trans q2_0
    replace q2_1 := (hb1.cell (p := ⟨w.heap.size + 1 + 1, 1, none⟩) z2).trans q2_1
    replace q2_2 := (hb1.cell (p := ⟨w.heap.size + 1 + 1, 2, none⟩) z2).trans q2_2
    replace z0 := Nat.lt_of_lt_of_le z0 hb1.size
    replace z1 := Nat.lt_of_lt_of_le z1 hb1.size
    replace z2 := Nat.lt_of_lt_of_le z2 hb1.size
    replace HW := HW.trans (hb1.mono HW.size)
    clear hb1 hc1 hf1 hz1 f0 f1
    generalize w1 = X at *
    refine region_seq (S := fun w' => Below X.heap.size X w') rfl (by kernel_rfl) (by kernel_rfl) (by repeat (first | (with_reducible assumption) | (with_reducible exact Below.refl _ _) | (with_reducible refine Below.alloc ?_ (by first | omega | (simp; omega) | (simp; done) | (dsimp only; omega)) _) | (with_reducible refine Below.setCell ?_ (by first | omega | (simp; omega) | (simp; done) | (dsimp only; omega)) _) | (with_reducible refine Below.drew ?_) | (with_reducible refine Below.trans ?_ (Below.mono (by assumption) (by first | omega | (simp; omega) | (simp; done) | (dsimp only; omega)))))) (fun fin hfin => ?_)
    iterate 6
      first
        | (refine SeqL.yes (v := ?_) (A' := ?_) rfl (by rfl) ?_ ?_ ?_
           rotate_left 2
           · intro w' K hS hK
             obtain ⟨hc, hf⟩ := bcell hS
             have hz := hS.size
             go_simp
             first
               | exact hK.out _ hS
               | (go_at_call 39; (with_reducible refine (HL.out _).mono ?_); rintro e w1 ⟨rfl, hb1⟩; exact hK.out _ (hS.trans (hb1.mono hz)))
               | (go_at_call 39; (with_reducible refine (HH.out _).mono ?_); rintro e w1 ⟨rfl, hb1⟩; exact hK.out _ (hS.trans (hb1.mono hz)))
               | trace_state
           · simp only [Act.put, List.setIfInBounds_toArray, List.set_cons_zero, List.set_cons_succ]; exact rfl)
        | (refine SeqL.no (A' := ?_) rfl (by rfl) ?_ ?_
           rotate_left
           · simp only [Act.put, List.setIfInBounds_toArray, List.set_cons_zero, List.set_cons_succ]; exact rfl)
    refine SeqL.nil (hfin.out _ ?_)
    clear hfin fin
    intro w1 hS1
    replace f2 : ∀ o, w1.frozen? ⟨w.heap.size + 1 + 1, o, none⟩ = false := fun o => (hS1.frozen (p := ⟨w.heap.size + 1 + 1, o, none⟩) z2).trans (f2 o)
    replace q0_0 := (hS1.cell (p := ⟨w.heap.size, 0, none⟩) z0).trans q0_0
    replace q0_1 := (hS1.cell (p := ⟨w.heap.size, 1, none⟩) z0).trans q0_1
    replace q1_0 := (hS1.cell (p := ⟨w.heap.size + 1, 0, none⟩) z1).trans q1_0
    replace q1_1 := (hS1.cell (p := ⟨w.heap.size + 1, 1, none⟩) z1).trans q1_1
    replace q2_0 := (hS1.cell (p := ⟨w.heap.size + 1 + 1, 0, none⟩) z2).trans q2_0
    replace q2_1 := (hS1.cell (p := ⟨w.heap.size + 1 + 1, 1, none⟩) z2).trans q2_1
    replace q2_2 := (hS1.cell (p := ⟨w.heap.size + 1 + 1, 2, none⟩) z2).trans q2_2
    replace z0 := Nat.lt_of_lt_of_le z0 hS1.size
    replace z1 := Nat.lt_of_lt_of_le z1 hS1.size
    replace z2 := Nat.lt_of_lt_of_le z2 hS1.size
    replace HW := HW.trans (hS1.mono HW.size)
    clear hS1
    by_cases hz : hiW (wrap128 (b - a)) = 0
    · have ez : (!(hiW (wrap128 (b - a)) == 0)) = false := by rw [hz]; rfl
      rw [ez] at hf
      have HF := Lib.hid hf
      replace e4 := e4 hz
      clear hf ez e2 hz
      by_cases hlt : h < l
      · have E := Lib.hid (e3 (by omega))
        clear e3 e4
        go_wp2_with (first | (go_at_call 40; (with_reducible refine (HF.out _).mono ?_); rintro e w2 ⟨rfl, hb2⟩; obtain ⟨hc2, hf2⟩ := bcell hb2; have hz2 := hb2.size; (try simp at hz2); (try have hy2 := Nat.lt_of_succ_le hz2); (try have hv2 := Nat.lt_of_succ_lt hy2); (try have hw20 : w.heap.size < w2.heap.size := by omega); (try have hw21 : w.heap.size + 1 < w2.heap.size := by omega); (try have hw22 : w.heap.size + 1 + 1 < w2.heap.size := by omega); (try have hw23 : w.heap.size + 1 + 1 + 1 < w2.heap.size := by omega); (try have hx2_0 : w.heap.size < w2.heap.size := by omega); (try have hx2_1 : w.heap.size + 1 < w2.heap.size := by omega); (try have hx2_2 : w.heap.size + 1 + 1 < w2.heap.size := by omega)) | (go_at_call 41; (with_reducible refine (HA.out _).mono ?_); rintro e w3 ⟨rfl, hb3⟩; obtain ⟨hc3, hf3⟩ := bcell hb3; have hz3 := hb3.size; (try simp at hz3); (try have hy3 := Nat.lt_of_succ_le hz3); (try have hv3 := Nat.lt_of_succ_lt hy3); (try have hw30 : w.heap.size < w3.heap.size := by omega); (try have hw31 : w.heap.size + 1 < w3.heap.size := by omega); (try have hw32 : w.heap.size + 1 + 1 < w3.heap.size := by omega); (try have hw33 : w.heap.size + 1 + 1 + 1 < w3.heap.size := by omega); (try have hx3_0 : w.heap.size < w3.heap.size := by omega); (try have hx3_1 : w.heap.size + 1 < w3.heap.size := by omega); (try have hx3_2 : w.heap.size + 1 + 1 < w3.heap.size := by omega)))
        refine bodyPost_ret (by simp [results, Try.results14, go_sem, *] <;> rfl) rfl ⟨by rw [E.out], (by repeat (first | (with_reducible assumption) | (with_reducible exact Below.refl _ _) | (with_reducible refine Below.alloc ?_ (by first | omega | (simp; omega) | (simp; done) | (dsimp only; omega)) _) | (with_reducible refine Below.setCell ?_ (by first | omega | (simp; omega) | (simp; done) | (dsimp only; omega)) _) | (with_reducible refine Below.drew ?_) | (with_reducible refine Below.trans ?_ (Below.mono (by assumption) (by first | omega | (simp; omega) | (simp; done) | (dsimp only; omega))))))⟩
      · have E := Lib.hid (e4 (by omega))
        clear e3 e4
        go_wp2_with (first | (go_at_call 40; (with_reducible refine (HF.out _).mono ?_); rintro e w2 ⟨rfl, hb2⟩; obtain ⟨hc2, hf2⟩ := bcell hb2; have hz2 := hb2.size; (try simp at hz2); (try have hy2 := Nat.lt_of_succ_le hz2); (try have hv2 := Nat.lt_of_succ_lt hy2); (try have hw20 : w.heap.size < w2.heap.size := by omega); (try have hw21 : w.heap.size + 1 < w2.heap.size := by omega); (try have hw22 : w.heap.size + 1 + 1 < w2.heap.size := by omega); (try have hw23 : w.heap.size + 1 + 1 + 1 < w2.heap.size := by omega); (try have hx2_0 : w.heap.size < w2.heap.size := by omega); (try have hx2_1 : w.heap.size + 1 < w2.heap.size := by omega); (try have hx2_2 : w.heap.size + 1 + 1 < w2.heap.size := by omega)) | (go_at_call 37; (with_reducible refine (HO.out _).mono ?_); rintro e w3 ⟨rfl, hb3⟩; obtain ⟨hc3, hf3⟩ := bcell hb3; have hz3 := hb3.size; (try simp at hz3); (try have hy3 := Nat.lt_of_succ_le hz3); (try have hv3 := Nat.lt_of_succ_lt hy3); (try have hw30 : w.heap.size < w3.heap.size := by omega); (try have hw31 : w.heap.size + 1 < w3.heap.size := by omega); (try have hw32 : w.heap.size + 1 + 1 < w3.heap.size := by omega); (try have hw33 : w.heap.size + 1 + 1 + 1 < w3.heap.size := by omega); (try have hx3_0 : w.heap.size < w3.heap.size := by omega); (try have hx3_1 : w.heap.size + 1 < w3.heap.size := by omega); (try have hx3_2 : w.heap.size + 1 + 1 < w3.heap.size := by omega)))
        refine bodyPost_ret (by simp [results, Try.results14, go_sem, *] <;> rfl) rfl ⟨by rw [E.out], (by repeat (first | (with_reducible assumption) | (with_reducible exact Below.refl _ _) | (with_reducible refine Below.alloc ?_ (by first | omega | (simp; omega) | (simp; done) | (dsimp only; omega)) _) | (with_reducible refine Below.setCell ?_ (by first | omega | (simp; omega) | (simp; done) | (dsimp only; omega)) _) | (with_reducible refine Below.drew ?_) | (with_reducible refine Below.trans ?_ (Below.mono (by assumption) (by first | omega | (simp; omega) | (simp; done) | (dsimp only; omega))))))⟩
    · have ez : (!(hiW (wrap128 (b - a)) == 0)) = true := by simpa using hz
      rw [ez] at hf
      have HF := Lib.hid hf
      have E := Lib.hid (e2 hz)
      clear hf ez e2 e3 e4 hz
      go_wp2_with (first | (go_at_call 40; (with_reducible refine (HF.out _).mono ?_); rintro e w2 ⟨rfl, hb2⟩; obtain ⟨hc2, hf2⟩ := bcell hb2; have hz2 := hb2.size; (try simp at hz2); (try have hy2 := Nat.lt_of_succ_le hz2); (try have hv2 := Nat.lt_of_succ_lt hy2); (try have hw20 : w.heap.size < w2.heap.size := by omega); (try have hw21 : w.heap.size + 1 < w2.heap.size := by omega); (try have hw22 : w.heap.size + 1 + 1 < w2.heap.size := by omega); (try have hw23 : w.heap.size + 1 + 1 + 1 < w2.heap.size := by omega); (try have hx2_0 : w.heap.size < w2.heap.size := by omega); (try have hx2_1 : w.heap.size + 1 < w2.heap.size := by omega); (try have hx2_2 : w.heap.size + 1 + 1 < w2.heap.size := by omega)) | (go_at_call 41; (with_reducible refine (HA.out _).mono ?_); rintro e w3 ⟨rfl, hb3⟩; obtain ⟨hc3, hf3⟩ := bcell hb3; have hz3 := hb3.size; (try simp at hz3); (try have hy3 := Nat.lt_of_succ_le hz3); (try have hv3 := Nat.lt_of_succ_lt hy3); (try have hw30 : w.heap.size < w3.heap.size := by omega); (try have hw31 : w.heap.size + 1 < w3.heap.size := by omega); (try have hw32 : w.heap.size + 1 + 1 < w3.heap.size := by omega); (try have hw33 : w.heap.size + 1 + 1 + 1 < w3.heap.size := by omega); (try have hx3_0 : w.heap.size < w3.heap.size := by omega); (try have hx3_1 : w.heap.size + 1 < w3.heap.size := by omega); (try have hx3_2 : w.heap.size + 1 + 1 < w3.heap.size := by omega)))
      refine bodyPost_ret (by simp [results, Try.results14, go_sem, *] <;> rfl) rfl ⟨by rw [E.out], (by repeat (first | (with_reducible assumption) | (with_reducible exact Below.refl _ _) | (with_reducible refine Below.alloc ?_ (by first | omega | (simp; omega) | (simp; done) | (dsimp only; omega)) _) | (with_reducible refine Below.setCell ?_ (by first | omega | (simp; omega) | (simp; done) | (dsimp only; omega)) _) | (with_reducible refine Below.drew ?_) | (with_reducible refine Below.trans ?_ (Below.mono (by assumption) (by first | omega | (simp; omega) | (simp; done) | (dsimp only; omega))))))⟩
end Go.Proofs.Ytdphjfppfngcmaa
