/- The law of layer 5 that says that what is in both is found, walked. -/
import Derived.Test.YtbjdiaakhlgcgaaCongQ
import Derived.Test.YtbjdiaakhlgcgaaCongG
namespace Go.Proofs.Ytbjdiaakhlgcgaa
open Go.RowKit

theorem meetC_self {x : Cg} (hx : x.std) : x.meetC x = x := by
  unfold Cg.meetC
  cases hs : x.s
  · rw [if_pos rfl]; exact (hx.2.2.1 hs).symm
  · have hag : x.agrees x = true := by unfold Cg.agrees; rw [beq_iff_eq]
    rw [if_neg (by decide), if_neg (by decide), hag, if_neg (by decide)]
    by_cases h0 : x.m = 0
    · rw [if_pos h0]
    · rw [if_neg h0, if_neg h0]
      have hp : 0 < x.m := by have := hx.2.1; omega
      have e : gcdI x.m x.m = x.m := by unfold gcdI; rw [Nat.gcd_self]; omega
      have e2 : x.m / x.m = 1 := Int.ediv_self h0
      have hl : lcmI x.m x.m = x.m := by unfold lcmI; rw [e, e2, Int.one_mul]
      have hst : x.stepsI x = 0 := by unfold Cg.stepsI; rw [e, e2, Int.emod_one]
      have hm := hx.1.1
      unfold I64 at hm
      rw [hl, hst, Int.mul_zero, Int.add_zero, if_pos hm.2, Cg.of_pos _ hp]
      have h3 := hx.2.2.2 hp
      exact Cg.ext' hs.symm rfl (Int.emod_eq_of_lt h3.1 h3.2)
theorem Cg.has_self (s : Bool) (m n : Int) (h : s = true) : (Cg.mk s m n).has n = true := by
  subst h
  by_cases hm : m < 0
  · exact Cg.has_neg rfl hm n
  · rw [Cg.has_mod rfl hm]; exact beq_self_eq_true _
theorem Cg.one_leq' {c : Cg} (hc : c.std) {n : Int} (h : c.has n = true) : (Cg.mk true 0 n).leq c = true := by
  unfold Cg.leq
  rw [Cg.std_clean hc]
  have e : (Cg.mk true 0 n).clean = ⟨true, 0, n⟩ := by rw [Cg.clean_pos rfl (by dsimp only; omega)]; dsimp only; rw [modI_zero]
  rw [e]
  unfold Cg.leqC
  obtain ⟨h1, h2⟩ := (Cg.has_iff hc n).1 h
  rw [h1]
  by_cases h0 : c.m = 0
  · rw [if_pos h0]
    rcases h2 with ⟨_, h2⟩ | ⟨h2, _⟩
    · rw [h2]; simp
    · omega
  · rw [if_neg h0, h]; simp

set_option maxRecDepth 100000 in
set_option maxHeartbeats 4000000 in
theorem law_congFinds (a b : Cg) (n : Int) (ha : a.ok) (hb : b.ok) (hn : I64 n) (w : World) :
    Calls Try.prog 11 #[.agg #[.bool a.s, .int .i64 a.m, .int .i64 a.r], .agg #[.bool b.s, .int .i64 b.m, .int .i64 b.r], .int .i64 n] w fun e w' => e = .returned (.bool true) ∧ Below w.heap.size w w' := by
  have hxk : (Cg.mk a.s a.m n).ok := ⟨ha.1, hn⟩
  have hyk : (Cg.mk b.s b.m n).ok := ⟨hb.1, hn⟩
  have HM := Lib.hid (cong_meet ⟨a.s, a.m, n⟩ ⟨b.s, b.m, n⟩ hxk hyk)
  have ox := Cg.clean_std hxk
  have oy := Cg.clean_std hyk
  have oa := Cg.clean_std ha
  have sp := meetC_spec ox oy
  have em : (Cg.mk a.s a.m n).meet ⟨b.s, b.m, n⟩ = Cg.meetC (Cg.mk a.s a.m n).clean (Cg.mk b.s b.m n).clean := rfl
  rw [← em] at sp
  have hcn : (a.s && b.s) = true → ((Cg.mk a.s a.m n).meet ⟨b.s, b.m, n⟩).has n = true := fun h => by
    rw [Bool.and_eq_true] at h
    have g1 := Cg.has_self a.s a.m n h.1
    have g2 := Cg.has_self b.s b.m n h.2
    refine sp.2.1 n ?_ ?_
    · unfold Cg.has at g1 ⊢; rw [Cg.std_clean ox]; exact g1
    · unfold Cg.has at g2 ⊢; rw [Cg.std_clean oy]; exact g2
  have hcs : ((Cg.mk a.s a.m n).meet ⟨b.s, b.m, n⟩).s = (a.s && b.s) := by
    cases hab : a.s && b.s
    · have : (Cg.mk a.s a.m n).meet ⟨b.s, b.m, n⟩ = Cg.zero := by
        rw [em]
        rw [Bool.and_eq_false_iff] at hab
        unfold Cg.meetC
        rcases hab with h | h
        · rw [Cg.clean_no (c := ⟨a.s, a.m, n⟩) h]; rfl
        · rw [Cg.clean_no (c := ⟨b.s, b.m, n⟩) h]
          split <;> rfl
      rw [this]; rfl
    · exact ((Cg.has_iff sp.1 n).1 (hcn hab)).1
  have h3 := r5_has _ n sp.1.1
  have h5 := r5_leq ⟨true, 0, n⟩ _ ⟨I64_0, hn⟩ sp.1.1
  have h5' : (a.s && b.s) = true → (Cg.mk true 0 n).leq ((Cg.mk a.s a.m n).meet ⟨b.s, b.m, n⟩) = true := fun h => Cg.one_leq' sp.1 (hcn h)
  clear em sp
  generalize (Cg.mk a.s a.m n).meet ⟨b.s, b.m, n⟩ = c at *
  have hma := cong_meet a a ha ha
  have eaa : a.meet a = a.clean := meetC_self oa
  rw [eaa] at hma
  have hl1 : a.clean.leq a = true := by
    have := Cg.leq_self oa
    unfold Cg.leq at this ⊢; rw [Cg.std_clean oa] at this ⊢; exact this
  have hl2 : a.leq a.clean = true := by rw [Cg.leq_clean _ ha]; exact Cg.leq_self oa
  have h6 := r5_leq a.clean a oa.1 ha
  rw [hl1] at h6
  have h7 := cong_same a.clean a oa.1 ha
  rw [hl1, hl2] at h7
  have HMA := Lib.hid hma
  have H6 := Lib.hid h6
  have H7 : Hid (∀ w, Calls Try.prog 47 #[.agg #[.bool a.clean.s, .int .i64 a.clean.m, .int .i64 a.clean.r], .agg #[.bool a.s, .int .i64 a.m, .int .i64 a.r]] w fun e w' => e = .returned (.bool true) ∧ Below w.heap.size w w') := Lib.hid h7
  have HL := Lib.hid law05_lives
  clear hma h6 h7 hl1 hl2 eaa ox oy hxk hyk
  generalize a.clean = x at *
  generalize c.has n = cn at *
  generalize (Cg.mk true 0 n).leq c = cl at *
  have HCN := Lib.hid hcn
  have HCL := Lib.hid h5'
  have HCS := Lib.hid hcs
  clear hcn h5' hcs
  go_enter Try.func11, Try.ntmps11
  go_upto_region 1 with fail
  generalize hW : ((w.alloc (.cells #[.bool a.s, .int .i64 a.m, .int .i64 a.r] 45)).alloc (.cells #[.bool b.s, .int .i64 b.m, .int .i64 b.r] 45)) = W
  have q0_0 : W.cell? ⟨w.heap.size, 0, none⟩ = some (.bool a.s) := by rw [← hW]; simp [go_sem]
  have q0_1 : W.cell? ⟨w.heap.size, 1, none⟩ = some (.int .i64 a.m) := by rw [← hW]; simp [go_sem]
  have q0_2 : W.cell? ⟨w.heap.size, 2, none⟩ = some (.int .i64 a.r) := by rw [← hW]; simp [go_sem]
  have q1_0 : W.cell? ⟨w.heap.size + 1, 0, none⟩ = some (.bool b.s) := by rw [← hW]; simp [go_sem]
  have q1_1 : W.cell? ⟨w.heap.size + 1, 1, none⟩ = some (.int .i64 b.m) := by rw [← hW]; simp [go_sem]
  have q1_2 : W.cell? ⟨w.heap.size + 1, 2, none⟩ = some (.int .i64 b.r) := by rw [← hW]; simp [go_sem]
  have z0 : w.heap.size < W.heap.size := by rw [← hW]; first | (simp; done) | (simp; omega)
  have z1 : w.heap.size + 1 < W.heap.size := by rw [← hW]; first | (simp; done) | (simp; omega)
  have HW : Below w.heap.size w W := by rw [← hW]; exact (by repeat (first | (with_reducible assumption) | (with_reducible exact Below.refl _ _) | (with_reducible refine Below.alloc ?_ (by first | omega | (simp; omega) | (simp; done) | (dsimp only; omega)) _) | (with_reducible refine Below.setCell ?_ (by first | omega | (simp; omega) | (simp; done) | (dsimp only; omega)) _) | (with_reducible refine Below.drew ?_) | (with_reducible refine Below.trans ?_ (Below.mono (by assumption) (by first | omega | (simp; omega) | (simp; done) | (dsimp only; omega))))))
  clear hW
  go_upto_region 3 with fail
  have p8 := al2_0 W (.cells #[.bool a.s, .int .i64 a.m, .int .i64 n] 45) (.cells #[.bool b.s, .int .i64 b.m, .int .i64 n] 45)
  have p9 := al2_1 W (.cells #[.bool a.s, .int .i64 a.m, .int .i64 n] 45) (.cells #[.bool b.s, .int .i64 b.m, .int .i64 n] 45)
  have HX : Below W.heap.size W ((W.alloc (.cells #[.bool a.s, .int .i64 a.m, .int .i64 n] 45)).alloc (.cells #[.bool b.s, .int .i64 b.m, .int .i64 n] 45)) := (by repeat (first | (with_reducible assumption) | (with_reducible exact Below.refl _ _) | (with_reducible refine Below.alloc ?_ (by first | omega | (simp; omega) | (simp; done) | (dsimp only; omega)) _) | (with_reducible refine Below.setCell ?_ (by first | omega | (simp; omega) | (simp; done) | (dsimp only; omega)) _) | (with_reducible refine Below.drew ?_) | (with_reducible refine Below.trans ?_ (Below.mono (by assumption) (by first | omega | (simp; omega) | (simp; done) | (dsimp only; omega))))))
  generalize (W.alloc (.cells #[.bool a.s, .int .i64 a.m, .int .i64 n] 45)).alloc (.cells #[.bool b.s, .int .i64 b.m, .int .i64 n] 45) = X at *
  replace q0_0 := (HX.cell (p := ⟨w.heap.size, 0, none⟩) z0).trans q0_0
  replace q0_1 := (HX.cell (p := ⟨w.heap.size, 1, none⟩) z0).trans q0_1
  replace q0_2 := (HX.cell (p := ⟨w.heap.size, 2, none⟩) z0).trans q0_2
  replace q1_0 := (HX.cell (p := ⟨w.heap.size + 1, 0, none⟩) z1).trans q1_0
  replace q1_1 := (HX.cell (p := ⟨w.heap.size + 1, 1, none⟩) z1).trans q1_1
  replace q1_2 := (HX.cell (p := ⟨w.heap.size + 1, 2, none⟩) z1).trans q1_2
  replace z0 := Nat.lt_of_lt_of_le z0 HX.size
  replace z1 := Nat.lt_of_lt_of_le z1 HX.size
  have q8_0 := blk_cell p8 0
  have q8_1 := blk_cell p8 1
  have q8_2 := blk_cell p8 2
  have q9_0 := blk_cell p9 0
  have q9_1 := blk_cell p9 1
  have q9_2 := blk_cell p9 2
  simp only [List.getElem?_toArray, List.getElem?_cons_zero, List.getElem?_cons_succ] at q8_0 q8_1 q8_2 q9_0 q9_1 q9_2
  replace HW := HW.trans (HX.mono HW.size)
  clear p8 p9 HX
  go_upto_region 4 with (go_at_call 42; (with_reducible refine (HM.out _).mono ?_); rintro e w1 ⟨rfl, hb1⟩; obtain ⟨hc1, hf1⟩ := bcell hb1; have hz1 := hb1.size; (try simp at hz1); (try have hy1 := Nat.lt_of_succ_le hz1); (try have hv1 := Nat.lt_of_succ_lt hy1); (try have hw10 : w.heap.size < w1.heap.size := by omega); (try have hw11 : w.heap.size + 1 < w1.heap.size := by omega); (try have hw12 : w.heap.size + 1 + 1 < w1.heap.size := by omega); (try have hw13 : w.heap.size + 1 + 1 + 1 < w1.heap.size := by omega))
  have p7 := al_new w1 (.cells #[.bool c.s, .int .i64 c.m, .int .i64 c.r] 45) rfl
  have zx : w1.heap.size < (w1.alloc (.cells #[.bool c.s, .int .i64 c.m, .int .i64 c.r] 45)).heap.size := by rw [al_size]; omega
  have HX : Below X.heap.size X (w1.alloc (.cells #[.bool c.s, .int .i64 c.m, .int .i64 c.r] 45)) := (by repeat (first | (with_reducible assumption) | (with_reducible exact Below.refl _ _) | (with_reducible refine Below.alloc ?_ (by first | omega | (simp; omega) | (simp; done) | (dsimp only; omega)) _) | (with_reducible refine Below.setCell ?_ (by first | omega | (simp; omega) | (simp; done) | (dsimp only; omega)) _) | (with_reducible refine Below.drew ?_) | (with_reducible refine Below.trans ?_ (Below.mono (by assumption) (by first | omega | (simp; omega) | (simp; done) | (dsimp only; omega))))))
  generalize w1.alloc (.cells #[.bool c.s, .int .i64 c.m, .int .i64 c.r] 45) = Y at *
  replace q0_0 := (HX.cell (p := ⟨w.heap.size, 0, none⟩) z0).trans q0_0
  replace q0_1 := (HX.cell (p := ⟨w.heap.size, 1, none⟩) z0).trans q0_1
  replace q0_2 := (HX.cell (p := ⟨w.heap.size, 2, none⟩) z0).trans q0_2
  replace q1_0 := (HX.cell (p := ⟨w.heap.size + 1, 0, none⟩) z1).trans q1_0
  replace q1_1 := (HX.cell (p := ⟨w.heap.size + 1, 1, none⟩) z1).trans q1_1
  replace q1_2 := (HX.cell (p := ⟨w.heap.size + 1, 2, none⟩) z1).trans q1_2
  replace z0 := Nat.lt_of_lt_of_le z0 HX.size
  replace z1 := Nat.lt_of_lt_of_le z1 HX.size
  have q7_0 := blk_cell p7 0
  have q7_1 := blk_cell p7 1
  have q7_2 := blk_cell p7 2
  simp only [List.getElem?_toArray, List.getElem?_cons_zero, List.getElem?_cons_succ] at q7_0 q7_1 q7_2
  have z7 := zx
  generalize w1.heap.size = b7 at *
  replace HW := HW.trans (HX.mono HW.size)
  clear p7 HX HM hb1 hc1 hf1 zx q8_0 q8_1 q8_2 q9_0 q9_1 q9_2
  have D0 := HCS.out
  have D1 := HCN.out
  have D2 := HCL.out
  clear HCS HCN HCL
  cases g1 : a.s <;> cases g2 : b.s
  all_goals
    rw [g1, g2] at D0 D1 D2
    try (obtain rfl : cn = true := D1 rfl)
    try (obtain rfl : cl = true := D2 rfl)
    rw [g1] at q0_0
    rw [g2] at q1_0
    try (replace D0 : c.s = true := D0)
    try (replace D0 : c.s = false := D0)
    rw [D0] at q7_0 h3 h5
    have A1 := HMA.out
    have A2 := H6.out
    have A3 := H7.out
    rw [g1] at A1 A2 A3
    clear HMA H6 H7 D1 D2
    have HMA := Lib.hid A1; have H6 := Lib.hid A2; have H7 := Lib.hid A3
    have H3 := Lib.hid h3; have H5 := Lib.hid h5
    clear A1 A2 A3 h3 h5 D0
    go_wp2_with (first | (go_at_call 43; (with_reducible refine (H3.out _).mono ?_); rintro e w2 ⟨rfl, hb2⟩; obtain ⟨hc2, hf2⟩ := bcell hb2; have hz2 := hb2.size; (try simp at hz2); (try have hy2 := Nat.lt_of_succ_le hz2); (try have hv2 := Nat.lt_of_succ_lt hy2); (try have hw20 : w.heap.size < w2.heap.size := by omega); (try have hw21 : w.heap.size + 1 < w2.heap.size := by omega); (try have hw22 : w.heap.size + 1 + 1 < w2.heap.size := by omega); (try have hw23 : w.heap.size + 1 + 1 + 1 < w2.heap.size := by omega); (try have hx2_0 : b7 < w2.heap.size := by omega); (try have hx2_1 : w.heap.size < w2.heap.size := by omega); (try have hx2_2 : w.heap.size + 1 < w2.heap.size := by omega)) | (go_at_call 44; (with_reducible refine (H5.out _).mono ?_); rintro e w3 ⟨rfl, hb3⟩; obtain ⟨hc3, hf3⟩ := bcell hb3; have hz3 := hb3.size; (try simp at hz3); (try have hy3 := Nat.lt_of_succ_le hz3); (try have hv3 := Nat.lt_of_succ_lt hy3); (try have hw30 : w.heap.size < w3.heap.size := by omega); (try have hw31 : w.heap.size + 1 < w3.heap.size := by omega); (try have hw32 : w.heap.size + 1 + 1 < w3.heap.size := by omega); (try have hw33 : w.heap.size + 1 + 1 + 1 < w3.heap.size := by omega); (try have hx3_0 : b7 < w3.heap.size := by omega); (try have hx3_1 : w.heap.size < w3.heap.size := by omega); (try have hx3_2 : w.heap.size + 1 < w3.heap.size := by omega)))
  rotate_left 3
  · have hbb : Below Y.heap.size Y w3 := hb2.trans (hb3.mono hb2.size)
    clear hc2 hf2 hc3 hf3
    replace q0_0 := (hbb.cell (p := ⟨w.heap.size, 0, none⟩) z0).trans q0_0
    replace q0_1 := (hbb.cell (p := ⟨w.heap.size, 1, none⟩) z0).trans q0_1
    replace q0_2 := (hbb.cell (p := ⟨w.heap.size, 2, none⟩) z0).trans q0_2
    replace q1_0 := (hbb.cell (p := ⟨w.heap.size + 1, 0, none⟩) z1).trans q1_0
    replace q1_1 := (hbb.cell (p := ⟨w.heap.size + 1, 1, none⟩) z1).trans q1_1
    replace q1_2 := (hbb.cell (p := ⟨w.heap.size + 1, 2, none⟩) z1).trans q1_2
    replace z0 := Nat.lt_of_lt_of_le z0 hbb.size
    replace z1 := Nat.lt_of_lt_of_le z1 hbb.size
    replace q7_0 := (hbb.cell (p := ⟨b7, 0, none⟩) z7).trans q7_0
    replace q7_1 := (hbb.cell (p := ⟨b7, 1, none⟩) z7).trans q7_1
    replace q7_2 := (hbb.cell (p := ⟨b7, 2, none⟩) z7).trans q7_2
    replace z7 := Nat.lt_of_lt_of_le z7 hbb.size
    replace HW := HW.trans (hbb.mono HW.size)
    clear hbb hb2 hb3 H3 H5
    refine region_seq (S := fun w' => Below w3.heap.size w3 w') rfl (by kernel_rfl) (by kernel_rfl) (by repeat (first | (with_reducible assumption) | (with_reducible exact Below.refl _ _) | (with_reducible refine Below.alloc ?_ (by first | omega | (simp; omega) | (simp; done) | (dsimp only; omega)) _) | (with_reducible refine Below.setCell ?_ (by first | omega | (simp; omega) | (simp; done) | (dsimp only; omega)) _) | (with_reducible refine Below.drew ?_) | (with_reducible refine Below.trans ?_ (Below.mono (by assumption) (by first | omega | (simp; omega) | (simp; done) | (dsimp only; omega)))))) (fun fin hfin => ?_)
    iterate 27
      first
        | (refine SeqL.yes (v := ?_) (A' := ?_) rfl (by rfl) ?_ ?_ ?_
           rotate_left 2
           · intro w' K hS hK
             obtain ⟨hc, hf⟩ := bcell hS
             have hz := hS.size
             go_simp
             first
               | exact hK.out _ hS
               | (go_at_call 42; (with_reducible refine (HMA.out _).mono ?_); rintro e w1 ⟨rfl, hb1⟩; exact hK.out _ (hS.trans (hb1.mono hz)))
               | (go_at_call 44; (with_reducible refine (H6.out _).mono ?_); rintro e w1 ⟨rfl, hb1⟩; exact hK.out _ (hS.trans (hb1.mono hz)))
               | (go_at_call 47; (with_reducible refine (H7.out _).mono ?_); rintro e w1 ⟨rfl, hb1⟩; exact hK.out _ (hS.trans (hb1.mono hz)))
               | (go_at_call 41; (with_reducible refine (HL.out _).mono ?_); rintro e w1 ⟨rfl, hb1⟩; exact hK.out _ (hS.trans (hb1.mono hz)))
               | trace_state
           · simp only [Act.put, List.setIfInBounds_toArray, List.set_cons_zero, List.set_cons_succ]; exact rfl)
        | (refine SeqL.no (A' := ?_) rfl (by rfl) ?_ ?_
           rotate_left
           · simp only [Act.put, List.setIfInBounds_toArray, List.set_cons_zero, List.set_cons_succ]; exact rfl)
    refine SeqL.nil (hfin.out _ ?_)
    clear hfin fin
    intro w1 hS1
    go_wp2
    go_ret
    exact ⟨rfl, (by repeat (first | (with_reducible assumption) | (with_reducible exact Below.refl _ _) | (with_reducible refine Below.alloc ?_ (by first | omega | (simp; omega) | (simp; done) | (dsimp only; omega)) _) | (with_reducible refine Below.setCell ?_ (by first | omega | (simp; omega) | (simp; done) | (dsimp only; omega)) _) | (with_reducible refine Below.drew ?_) | (with_reducible refine Below.trans ?_ (Below.mono (by assumption) (by first | omega | (simp; omega) | (simp; done) | (dsimp only; omega))))))⟩
  all_goals
    clear H3 H5
    refine region_seq (S := fun w' => Below Y.heap.size Y w') rfl (by kernel_rfl) (by kernel_rfl) (by repeat (first | (with_reducible assumption) | (with_reducible exact Below.refl _ _) | (with_reducible refine Below.alloc ?_ (by first | omega | (simp; omega) | (simp; done) | (dsimp only; omega)) _) | (with_reducible refine Below.setCell ?_ (by first | omega | (simp; omega) | (simp; done) | (dsimp only; omega)) _) | (with_reducible refine Below.drew ?_) | (with_reducible refine Below.trans ?_ (Below.mono (by assumption) (by first | omega | (simp; omega) | (simp; done) | (dsimp only; omega)))))) (fun fin hfin => ?_)
    iterate 27
      first
        | (refine SeqL.yes (v := ?_) (A' := ?_) rfl (by rfl) ?_ ?_ ?_
           rotate_left 2
           · intro w' K hS hK
             obtain ⟨hc, hf⟩ := bcell hS
             have hz := hS.size
             go_simp
             first
               | exact hK.out _ hS
               | (go_at_call 42; (with_reducible refine (HMA.out _).mono ?_); rintro e w1 ⟨rfl, hb1⟩; exact hK.out _ (hS.trans (hb1.mono hz)))
               | (go_at_call 44; (with_reducible refine (H6.out _).mono ?_); rintro e w1 ⟨rfl, hb1⟩; exact hK.out _ (hS.trans (hb1.mono hz)))
               | (go_at_call 47; (with_reducible refine (H7.out _).mono ?_); rintro e w1 ⟨rfl, hb1⟩; exact hK.out _ (hS.trans (hb1.mono hz)))
               | (go_at_call 41; (with_reducible refine (HL.out _).mono ?_); rintro e w1 ⟨rfl, hb1⟩; exact hK.out _ (hS.trans (hb1.mono hz)))
               | trace_state
           · simp only [Act.put, List.setIfInBounds_toArray, List.set_cons_zero, List.set_cons_succ]; exact rfl)
        | (refine SeqL.no (A' := ?_) rfl (by rfl) ?_ ?_
           rotate_left
           · simp only [Act.put, List.setIfInBounds_toArray, List.set_cons_zero, List.set_cons_succ]; exact rfl)
    refine SeqL.nil (hfin.out _ ?_)
    clear hfin fin
    intro w1 hS1
    go_wp2
    go_ret
    exact ⟨rfl, (by repeat (first | (with_reducible assumption) | (with_reducible exact Below.refl _ _) | (with_reducible refine Below.alloc ?_ (by first | omega | (simp; omega) | (simp; done) | (dsimp only; omega)) _) | (with_reducible refine Below.setCell ?_ (by first | omega | (simp; omega) | (simp; done) | (dsimp only; omega)) _) | (with_reducible refine Below.drew ?_) | (with_reducible refine Below.trans ?_ (Below.mono (by assumption) (by first | omega | (simp; omega) | (simp; done) | (dsimp only; omega))))))⟩
end Go.Proofs.Ytbjdiaakhlgcgaa
