/- The law of layer 5 that speaks of what is in both congruences, walked. -/
import Derived.Test.YtbjdiaakhlgcgaaCongQ
import Derived.Test.YtbjdiaakhlgcgaaCongG
import Derived.Test.YtbjdiaakhlgcgaaRefF
namespace Go.Proofs.Ytbjdiaakhlgcgaa
open Go.RowKit

def MeetCut (x y : Cg) (W : World) (s8 s9 : Value) (wx : World) : Prop :=
  ∃ b8 b9 : Nat, s8 = .pointer (some ⟨b8, 0, none⟩) ∧ s9 = .pointer (some ⟨b9, 0, none⟩) ∧
    wx.heap[b8]? = some (.cells #[.bool x.s, .int .i64 x.m, .int .i64 x.r] 45) ∧ wx.heap[b9]? = some (.cells #[.bool y.s, .int .i64 y.m, .int .i64 y.r] 45) ∧ Below W.heap.size W wx

theorem lcm_parts {x y : Cg} (hx : x.ok) (hy : y.ok) (h1 : 0 < x.m) (h2 : 0 < y.m) : ∃ g b : Int, gcdI x.m y.m = g ∧ 0 < g ∧ g ≤ 9223372036854775807 ∧ y.m.tdiv g = b ∧ 0 < b ∧ b ≤ 9223372036854775807 ∧ x.m * b = lcmI x.m y.m ∧ 0 ≤ lcmI x.m y.m ∧ lcmI x.m y.m ≤ 9223372036854775807 * 9223372036854775807 := by
  obtain ⟨g, a, b, i, e1, hg, e2, e3, e4, e5, pa, pb, -, -, -, -, -, e7⟩ := gcd_parts h1 h2
  have hxm := hx.1
  have hym := hy.1
  unfold I64 at hxm hym
  have b1 : b ≤ y.m := by rw [← e5]; exact Int.ediv_le_self _ (by omega)
  have g1 : g ≤ x.m := Int.le_of_dvd h1 ⟨a, e2⟩
  have p0 : 0 ≤ x.m * b := Int.mul_nonneg (by omega) (by omega)
  have p1 : x.m * b ≤ 9223372036854775807 * 9223372036854775807 := Int.mul_le_mul (by omega) (by omega) (by omega) (by omega)
  exact ⟨g, b, e1, hg, by omega, by rw [Int.tdiv_eq_ediv_of_nonneg (by omega)]; exact e5, pb, by omega, e7.symm, by omega, by omega⟩

set_option maxRecDepth 100000 in
set_option maxHeartbeats 4000000 in
theorem law_congMeets (a b : Cg) (n : Int) (ha : a.ok) (hb : b.ok) (w : World) :
    Calls Try.prog 10 #[.agg #[.bool a.s, .int .i64 a.m, .int .i64 a.r], .agg #[.bool b.s, .int .i64 b.m, .int .i64 b.r], .int .i64 n] w fun e w' => e = .returned (.bool true) ∧ Below w.heap.size w w' := by
  have HM := Lib.hid (cong_meet a b ha hb)
  have HA := Lib.hid (r5_clean a ha.1)
  have HB := Lib.hid (r5_clean b hb.1)
  have ox := Cg.clean_std ha
  have oy := Cg.clean_std hb
  have h1 := r5_has a n ha
  have h2 := r5_has b n hb
  have e1 : a.has n = a.clean.has n := by unfold Cg.has; rw [Cg.std_clean ox]
  have e2 : b.has n = b.clean.has n := by unfold Cg.has; rw [Cg.std_clean oy]
  rw [e1] at h1
  rw [e2] at h2
  have sp := meetC_spec ox oy
  have em : a.meet b = Cg.meetC a.clean b.clean := rfl
  rw [← em] at sp
  have e3 : ∀ c : Cg, c.leq a = c.leq a.clean := fun c => by unfold Cg.leq; rw [Cg.std_clean ox]
  have e4 : ∀ c : Cg, c.leq b = c.leq b.clean := fun c => by unfold Cg.leq; rw [Cg.std_clean oy]
  have h3 := r5_has (a.meet b) n sp.1.1
  have h4 := r5_clean (a.meet b) sp.1.1.1
  rw [Cg.std_clean sp.1] at h4
  have h5 := r5_leq (a.meet b) a sp.1.1 ha
  have h6 := r5_leq (a.meet b) b sp.1.1 hb
  rw [e3] at h5
  rw [e4] at h6
  clear e1 e2 e3 e4 em
  generalize a.meet b = c at *
  generalize a.clean = x at *
  generalize b.clean = y at *
  have HL := Lib.hid law05_lives
  have H4 := Lib.hid h4
  obtain ⟨-, s2, s3, s4, s5⟩ := sp
  replace s2 := s2 n
  have s5' := fun h => (s5 h).2.2 n
  have S4 := Lib.hid s4
  have S5 := Lib.hid (fun h => (⟨(s5 h).1, (s5 h).2.1⟩ : c.leq x = true ∧ c.leq y = true))
  have S5' := Lib.hid s5'
  clear s4 s5 s5' h4
  generalize hcn : c.has n = cn at *
  generalize hxn : x.has n = xn at *
  generalize hyn : y.has n = yn at *
  generalize hcx : c.leq x = cx at *
  generalize hcy : c.leq y = cy at *
  clear hcn hxn hyn hcx hcy
  have s2' : (xn && yn) = true → cn = true := fun h => by rw [Bool.and_eq_true] at h; exact s2 h.1 h.2
  have HIN : Hid (∃ z, z = (xn && yn)) := Lib.hid ⟨_, rfl⟩
  obtain ⟨inn, hin⟩ := HIN.out
  rw [← hin] at s2' S5'
  replace HIN := Lib.hid hin
  have S3 := Lib.hid (show cx = false → cy = true from fun h => by rcases s3 with h' | h'; rw [h] at h'; exact absurd h' (by decide); exact h')
  have S2 := Lib.hid s2'
  clear hin s2 s2' s3
  go_enter Try.func10, Try.ntmps10
  go_upto_region 1 with fail
  generalize hW : ((w.alloc (.cells #[.bool a.s, .int .i64 a.m, .int .i64 a.r] 45)).alloc (.cells #[.bool b.s, .int .i64 b.m, .int .i64 b.r] 45)) = W
  have q0_0 : W.cell? ⟨w.heap.size, 0, none⟩ = some (.bool a.s) := by rw [← hW]; simp [go_sem]
  have q0_1 : W.cell? ⟨w.heap.size, 1, none⟩ = some (.int .i64 a.m) := by rw [← hW]; simp [go_sem]
  have q0_2 : W.cell? ⟨w.heap.size, 2, none⟩ = some (.int .i64 a.r) := by rw [← hW]; simp [go_sem]
  have q1_0 : W.cell? ⟨w.heap.size + 1, 0, none⟩ = some (.bool b.s) := by rw [← hW]; simp [go_sem]
  have q1_1 : W.cell? ⟨w.heap.size + 1, 1, none⟩ = some (.int .i64 b.m) := by rw [← hW]; simp [go_sem]
  have q1_2 : W.cell? ⟨w.heap.size + 1, 2, none⟩ = some (.int .i64 b.r) := by rw [← hW]; simp [go_sem]
  have z0 : w.heap.size < W.heap.size := by rw [← hW]; first | (simp; done) | (simp; omega)
  have z1 : w.heap.size + 1 < W.heap.size := by rw [← hW]; first | (simp; done) | (simp; omega)
  have HW : Below w.heap.size w W := by rw [← hW]; exact (by repeat (first | (with_reducible assumption) | (with_reducible exact Below.refl _ _) | (with_reducible refine Below.alloc ?_ (by first | omega | (simp; omega) | (simp; done) | (dsimp only; omega)) _) | (with_reducible refine Below.setCell ?_ (by first | omega | (simp; omega) | (simp; done) | (dsimp only; omega)) _) | (with_reducible refine Below.drew ?_) | (with_reducible refine Below.trans ?_ (Below.mono (by assumption) (by first | omega | (simp; omega) | (simp; done) | (dsimp only; omega))))))
  clear hW
  go_wp2_with (go_at_call 42; (with_reducible refine (HM.out _).mono ?_); rintro e w1 ⟨rfl, hb1⟩; obtain ⟨hc1, hf1⟩ := bcell hb1; have hz1 := hb1.size; (try simp at hz1); (try have hy1 := Nat.lt_of_succ_le hz1); (try have hv1 := Nat.lt_of_succ_lt hy1); (try have hw10 : w.heap.size < w1.heap.size := by omega); (try have hw11 : w.heap.size + 1 < w1.heap.size := by omega); (try have hw12 : w.heap.size + 1 + 1 < w1.heap.size := by omega); (try have hw13 : w.heap.size + 1 + 1 + 1 < w1.heap.size := by omega))
  have p7 := al_new w1 (.cells #[.bool c.s, .int .i64 c.m, .int .i64 c.r] 45) rfl
  have zx : w1.heap.size < (w1.alloc (.cells #[.bool c.s, .int .i64 c.m, .int .i64 c.r] 45)).heap.size := by rw [al_size]; omega
  have HX : Below W.heap.size W (w1.alloc (.cells #[.bool c.s, .int .i64 c.m, .int .i64 c.r] 45)) := (by repeat (first | (with_reducible assumption) | (with_reducible exact Below.refl _ _) | (with_reducible refine Below.alloc ?_ (by first | omega | (simp; omega) | (simp; done) | (dsimp only; omega)) _) | (with_reducible refine Below.setCell ?_ (by first | omega | (simp; omega) | (simp; done) | (dsimp only; omega)) _) | (with_reducible refine Below.drew ?_) | (with_reducible refine Below.trans ?_ (Below.mono (by assumption) (by first | omega | (simp; omega) | (simp; done) | (dsimp only; omega))))))
  generalize w1.alloc (.cells #[.bool c.s, .int .i64 c.m, .int .i64 c.r] 45) = X at *
  replace q0_0 := (HX.cell (p := ⟨w.heap.size, 0, none⟩) z0).trans q0_0
  replace q0_1 := (HX.cell (p := ⟨w.heap.size, 1, none⟩) z0).trans q0_1
  replace q0_2 := (HX.cell (p := ⟨w.heap.size, 2, none⟩) z0).trans q0_2
  replace q1_0 := (HX.cell (p := ⟨w.heap.size + 1, 0, none⟩) z1).trans q1_0
  replace q1_1 := (HX.cell (p := ⟨w.heap.size + 1, 1, none⟩) z1).trans q1_1
  replace q1_2 := (HX.cell (p := ⟨w.heap.size + 1, 2, none⟩) z1).trans q1_2
  replace z0 := Nat.lt_of_lt_of_le z0 HX.size
  replace z1 := Nat.lt_of_lt_of_le z1 HX.size
  have q7_0 := blk_cell p7 0
  have q7_1 := blk_cell p7 1
  have q7_2 := blk_cell p7 2
  simp only [List.getElem?_toArray, List.getElem?_cons_zero, List.getElem?_cons_succ] at q7_0 q7_1 q7_2
  have z7 := zx
  generalize w1.heap.size = b7 at *
  replace HW := HW.trans (HX.mono HW.size)
  clear p7 HX HM hb1 hc1 hf1 zx
  go_cut [8, 9] (fun s8 s9 wx => MeetCut x y X s8 s9 wx)
  case first =>
    refine region_seqg (W := X) [_, _, _, _, _, _] [_, _] rfl (by kernel_rfl) (by kernel_rfl) (by repeat (first | (with_reducible assumption) | (with_reducible exact Below.refl _ _) | (with_reducible refine Below.alloc ?_ (by first | omega | (simp; omega) | (simp; done) | (dsimp only; omega)) _) | (with_reducible refine Below.setCell ?_ (by first | omega | (simp; omega) | (simp; done) | (dsimp only; omega)) _) | (with_reducible refine Below.drew ?_) | (with_reducible refine Below.trans ?_ (Below.mono (by assumption) (by first | omega | (simp; omega) | (simp; done) | (dsimp only; omega)))))) (fun fin hfin => ?_)
    iterate 4
      first
        | (refine SeqG.yes (v := ?_) (A' := ?_) rfl (fun γ => by rfl) ?_ ?_ ?_
           rotate_left 2
           · intro γ w' K hS hK
             obtain ⟨hc, hf⟩ := bcell hS
             have hz := hS.size
             go_simp
             first
               | exact hK.out _ (Below.refl _ _)
               | (go_at_call 34; (with_reducible refine (HA.out _).mono ?_); rintro e w1 ⟨rfl, hb1⟩; exact hK.out _ hb1)
               | (go_at_call 34; (with_reducible refine (HB.out _).mono ?_); rintro e w1 ⟨rfl, hb1⟩; exact hK.out _ hb1)
               | trace_state
           · intro γ; simp only [Act.put, List.setIfInBounds_toArray, List.set_cons_zero, List.set_cons_succ]; exact rfl)
        | (refine SeqG.no (A' := ?_) rfl (fun γ => by rfl) ?_ ?_
           rotate_left
           · intro γ; simp only [Act.put, List.setIfInBounds_toArray, List.set_cons_zero, List.set_cons_succ]; exact rfl)
    refine SeqG.make (k := 4) (A' := ?_) (fun g => .pointer (some ⟨g 0, 0, none⟩)) (RCell #[.bool false, .int .i64 0, .int .i64 0] 45) rfl (fun γ => by rfl) (RCell.stable _ _) ?_ ?_ ?_
    rotate_left
    · intro γ w' K hS _ hK
      have hm := RCell.made (#[.bool false, .int .i64 0, .int .i64 0]) (45) w'
      have HK := Lib.hid (hK.out (fun _ => w'.heap.size) (w'.alloc (.cells #[.bool false, .int .i64 0, .int .i64 0] 45)) ((Below.refl _ _).alloc (Nat.le_refl _) _) hm); clear hK hm
      go_simp
      exact HK.out
    · intro γ; simp only [Act.put, List.setIfInBounds_toArray, List.set_cons_zero, List.set_cons_succ]; exact rfl
    refine SeqG.make (k := 5) (A' := ?_) (fun g => .pointer (some ⟨g 0, 0, none⟩)) (RCell #[.bool false, .int .i64 0, .int .i64 0] 45) rfl (fun γ => by rfl) (RCell.stable _ _) ?_ ?_ ?_
    rotate_left
    · intro γ w' K hS _ hK
      have hm := RCell.made (#[.bool false, .int .i64 0, .int .i64 0]) (45) w'
      have HK := Lib.hid (hK.out (fun _ => w'.heap.size) (w'.alloc (.cells #[.bool false, .int .i64 0, .int .i64 0] 45)) ((Below.refl _ _).alloc (Nat.le_refl _) _) hm); clear hK hm
      go_simp
      exact HK.out
    · intro γ; simp only [Act.put, List.setIfInBounds_toArray, List.set_cons_zero, List.set_cons_succ]; exact rfl
    refine SeqG.nil (hfin.out _ _ ?_)
    clear hfin fin
    intro γ lo hi w1 hB1 hF hD
    replace hF := listF2 hF
    dsimp only at hF
    replace hD := listD2 hD
    dsimp only at hD
    replace hD := hD (by decide)
    obtain ⟨⟨_, _, y7, o7, p7, h7⟩, ⟨_, _, y8, o8, p8, h8⟩⟩ := hF
    have n1 : γ 4 0 ≠ γ 5 0 := by omega
    have w7 : X.heap.size ≤ γ 4 0 := by omega
    have w8 : X.heap.size ≤ γ 5 0 := by omega
    have x7 : γ 4 0 < w1.heap.size := by omega
    have x8 : γ 5 0 < w1.heap.size := by omega
    clear hD o7 p7 o8 p8 y7 y8
    generalize γ 4 0 = b8 at *
    generalize γ 5 0 = b9 at *
    have g7 := blk_cell h7
    have g8 := blk_cell h8
    have f7 := blk_free h7
    have f8 := blk_free h8
    have n4 := Ne.symm n1
    have K7 := Lib.hid h7; have K8 := Lib.hid h8; clear h7 h8
    refine TailL.cons (fun K hK => ?_)
    go_simp
    refine hK.out _ _ ?_
    clear hK K
    refine TailL.cons (fun K hK => ?_)
    go_simp
    refine hK.out _ _ ?_
    clear hK K
    refine TailL.nil ?_
    go_wp2_with fail
    go_meet
    exact ⟨b8, b9, rfl, rfl,
      by (iterate 3 (refine (Below.heap_setCell _ _ _ _ (by dsimp only; omega)).trans ?_))
         exact blk_set3 K7.out,
      by refine blk_set3 (c0 := .bool false) (c1 := .int .i64 0) (c2 := .int .i64 0) ?_
         (iterate 3 (refine (Below.heap_setCell _ _ _ _ (by dsimp only; omega)).trans ?_))
         exact K8.out,
      (by repeat (first | (with_reducible assumption) | (with_reducible exact Below.refl _ _) | (with_reducible refine Below.alloc ?_ (by first | omega | (simp; omega) | (simp; done) | (dsimp only; omega)) _) | (with_reducible refine Below.setCell ?_ (by first | omega | (simp; omega) | (simp; done) | (dsimp only; omega)) _) | (with_reducible refine Below.drew ?_) | (with_reducible refine Below.trans ?_ (Below.mono (by assumption) (by first | omega | (simp; omega) | (simp; done) | (dsimp only; omega))))))⟩
  case rest =>
    obtain ⟨b8, b9, rfl, rfl, h8, h9, hb⟩ := hcut
    replace q0_0 := (hb.cell (p := ⟨w.heap.size, 0, none⟩) z0).trans q0_0
    replace q0_1 := (hb.cell (p := ⟨w.heap.size, 1, none⟩) z0).trans q0_1
    replace q0_2 := (hb.cell (p := ⟨w.heap.size, 2, none⟩) z0).trans q0_2
    replace q1_0 := (hb.cell (p := ⟨w.heap.size + 1, 0, none⟩) z1).trans q1_0
    replace q1_1 := (hb.cell (p := ⟨w.heap.size + 1, 1, none⟩) z1).trans q1_1
    replace q1_2 := (hb.cell (p := ⟨w.heap.size + 1, 2, none⟩) z1).trans q1_2
    replace z0 := Nat.lt_of_lt_of_le z0 hb.size
    replace z1 := Nat.lt_of_lt_of_le z1 hb.size
    replace q7_0 := (hb.cell (p := ⟨b7, 0, none⟩) z7).trans q7_0
    replace q7_1 := (hb.cell (p := ⟨b7, 1, none⟩) z7).trans q7_1
    replace q7_2 := (hb.cell (p := ⟨b7, 2, none⟩) z7).trans q7_2
    replace z7 := Nat.lt_of_lt_of_le z7 hb.size
    have g8 := blk_cell h8
    have g9 := blk_cell h9
    have z8 := blk_lt h8
    have z9 := blk_lt h9
    have q8_0 := g8 0
    have q8_1 := g8 1
    have q8_2 := g8 2
    have q9_0 := g9 0
    have q9_1 := g9 1
    have q9_2 := g9 2
    simp only [List.getElem?_toArray, List.getElem?_cons_zero, List.getElem?_cons_succ] at q8_0 q8_1 q8_2 q9_0 q9_1 q9_2
    replace HW : Below w.heap.size w wc := HW.trans (hb.mono HW.size)
    clear h8 h9 g8 g9 hb
    go_upto_region 3 with fail
    go_cut [10] (fun s10 wx => s10 = .bool inn ∧ Below wc.heap.size wc wx)
    case first =>
      have H1 := Lib.hid h1; have H2 := Lib.hid h2
      clear h1 h2 h3 h5 h6
      cases xn
      all_goals
        go_wp2_with (first | (go_at_call 43; (with_reducible refine (H1.out _).mono ?_); rintro e w1 ⟨rfl, hb1⟩; obtain ⟨hc1, hf1⟩ := bcell hb1; have hz1 := hb1.size; (try simp at hz1); (try have hy1 := Nat.lt_of_succ_le hz1); (try have hv1 := Nat.lt_of_succ_lt hy1); (try have hw10 : w.heap.size < w1.heap.size := by omega); (try have hw11 : w.heap.size + 1 < w1.heap.size := by omega); (try have hw12 : w.heap.size + 1 + 1 < w1.heap.size := by omega); (try have hw13 : w.heap.size + 1 + 1 + 1 < w1.heap.size := by omega)) | (go_at_call 43; (with_reducible refine (H2.out _).mono ?_); rintro e w1 ⟨rfl, hb1⟩; obtain ⟨hc1, hf1⟩ := bcell hb1; have hz1 := hb1.size; (try simp at hz1); (try have hy1 := Nat.lt_of_succ_le hz1); (try have hv1 := Nat.lt_of_succ_lt hy1); (try have hw10 : w.heap.size < w1.heap.size := by omega); (try have hw11 : w.heap.size + 1 < w1.heap.size := by omega); (try have hw12 : w.heap.size + 1 + 1 < w1.heap.size := by omega); (try have hw13 : w.heap.size + 1 + 1 + 1 < w1.heap.size := by omega)))
        go_meet
        exact ⟨by rw [HIN.out]; rfl, (by repeat (first | (with_reducible assumption) | (with_reducible exact Below.refl _ _) | (with_reducible refine Below.alloc ?_ (by first | omega | (simp; omega) | (simp; done) | (dsimp only; omega)) _) | (with_reducible refine Below.setCell ?_ (by first | omega | (simp; omega) | (simp; done) | (dsimp only; omega)) _) | (with_reducible refine Below.drew ?_) | (with_reducible refine Below.trans ?_ (Below.mono (by assumption) (by first | omega | (simp; omega) | (simp; done) | (dsimp only; omega))))))⟩
    case rest =>
      obtain ⟨rfl, hb⟩ := hcut
      replace q0_0 := (hb.cell (p := ⟨w.heap.size, 0, none⟩) z0).trans q0_0
      replace q0_1 := (hb.cell (p := ⟨w.heap.size, 1, none⟩) z0).trans q0_1
      replace q0_2 := (hb.cell (p := ⟨w.heap.size, 2, none⟩) z0).trans q0_2
      replace q1_0 := (hb.cell (p := ⟨w.heap.size + 1, 0, none⟩) z1).trans q1_0
      replace q1_1 := (hb.cell (p := ⟨w.heap.size + 1, 1, none⟩) z1).trans q1_1
      replace q1_2 := (hb.cell (p := ⟨w.heap.size + 1, 2, none⟩) z1).trans q1_2
      replace z0 := Nat.lt_of_lt_of_le z0 hb.size
      replace z1 := Nat.lt_of_lt_of_le z1 hb.size
      replace q7_0 := (hb.cell (p := ⟨b7, 0, none⟩) z7).trans q7_0
      replace q7_1 := (hb.cell (p := ⟨b7, 1, none⟩) z7).trans q7_1
      replace q7_2 := (hb.cell (p := ⟨b7, 2, none⟩) z7).trans q7_2
      replace z7 := Nat.lt_of_lt_of_le z7 hb.size
      replace q8_0 := (hb.cell (p := ⟨b8, 0, none⟩) z8).trans q8_0
      replace q8_1 := (hb.cell (p := ⟨b8, 1, none⟩) z8).trans q8_1
      replace q8_2 := (hb.cell (p := ⟨b8, 2, none⟩) z8).trans q8_2
      replace z8 := Nat.lt_of_lt_of_le z8 hb.size
      replace q9_0 := (hb.cell (p := ⟨b9, 0, none⟩) z9).trans q9_0
      replace q9_1 := (hb.cell (p := ⟨b9, 1, none⟩) z9).trans q9_1
      replace q9_2 := (hb.cell (p := ⟨b9, 2, none⟩) z9).trans q9_2
      replace z9 := Nat.lt_of_lt_of_le z9 hb.size
      replace HW := HW.trans (hb.mono HW.size)
      clear hb h1 h2 HIN
      go_upto_region 4 with fail
      go_cut [53] (fun s53 wx => s53 = .bool false ∧ Below wc.heap.size wc wx)
      case first =>
        cases inn <;> cases cx
        all_goals
          try (obtain rfl : cn = true := S2.out rfl)
          try (obtain rfl : cy = true := S3.out rfl)
          have H3 := Lib.hid h3; have H5 := Lib.hid h5; have H6 := Lib.hid h6
          clear h3 h5 h6 S2 S3 S4 S5 S5'
          refine region_seq (S := fun w' => Below wc.heap.size wc w') rfl (by kernel_rfl) (by kernel_rfl) (by repeat (first | (with_reducible assumption) | (with_reducible exact Below.refl _ _) | (with_reducible refine Below.alloc ?_ (by first | omega | (simp; omega) | (simp; done) | (dsimp only; omega)) _) | (with_reducible refine Below.setCell ?_ (by first | omega | (simp; omega) | (simp; done) | (dsimp only; omega)) _) | (with_reducible refine Below.drew ?_) | (with_reducible refine Below.trans ?_ (Below.mono (by assumption) (by first | omega | (simp; omega) | (simp; done) | (dsimp only; omega)))))) (fun fin hfin => ?_)
          iterate 25
            first
              | (refine SeqL.yes (v := ?_) (A' := ?_) rfl (by rfl) ?_ ?_ ?_
                 rotate_left 2
                 · intro w' K hS hK
                   obtain ⟨hc, hf⟩ := bcell hS
                   have hz := hS.size
                   go_simp
                   first
                     | exact hK.out _ hS
                     | (go_at_call 43; (with_reducible refine (H3.out _).mono ?_); rintro e w1 ⟨rfl, hb1⟩; exact hK.out _ (hS.trans (hb1.mono hz)))
                     | (go_at_call 34; (with_reducible refine (H4.out _).mono ?_); rintro e w1 ⟨rfl, hb1⟩; exact hK.out _ (hS.trans (hb1.mono hz)))
                     | (go_at_call 44; (with_reducible refine (H5.out _).mono ?_); rintro e w1 ⟨rfl, hb1⟩; exact hK.out _ (hS.trans (hb1.mono hz)))
                     | (go_at_call 44; (with_reducible refine (H6.out _).mono ?_); rintro e w1 ⟨rfl, hb1⟩; exact hK.out _ (hS.trans (hb1.mono hz)))
                     | trace_state
                 · simp only [Act.put, List.setIfInBounds_toArray, List.set_cons_zero, List.set_cons_succ]; exact rfl)
              | (refine SeqL.no (A' := ?_) rfl (by rfl) ?_ ?_
                 rotate_left
                 · simp only [Act.put, List.setIfInBounds_toArray, List.set_cons_zero, List.set_cons_succ]; exact rfl)
          refine SeqL.nil (hfin.out _ ?_)
          clear hfin fin
          intro w1 hS1
          go_wp2_with fail
          go_meet
          exact ⟨rfl, (by repeat (first | (with_reducible assumption) | (with_reducible exact Below.refl _ _) | (with_reducible refine Below.alloc ?_ (by first | omega | (simp; omega) | (simp; done) | (dsimp only; omega)) _) | (with_reducible refine Below.setCell ?_ (by first | omega | (simp; omega) | (simp; done) | (dsimp only; omega)) _) | (with_reducible refine Below.drew ?_) | (with_reducible refine Below.trans ?_ (Below.mono (by assumption) (by first | omega | (simp; omega) | (simp; done) | (dsimp only; omega))))))⟩
      case rest =>
        obtain ⟨rfl, hb⟩ := hcut
        replace q0_0 := (hb.cell (p := ⟨w.heap.size, 0, none⟩) z0).trans q0_0
        replace q0_1 := (hb.cell (p := ⟨w.heap.size, 1, none⟩) z0).trans q0_1
        replace q0_2 := (hb.cell (p := ⟨w.heap.size, 2, none⟩) z0).trans q0_2
        replace q1_0 := (hb.cell (p := ⟨w.heap.size + 1, 0, none⟩) z1).trans q1_0
        replace q1_1 := (hb.cell (p := ⟨w.heap.size + 1, 1, none⟩) z1).trans q1_1
        replace q1_2 := (hb.cell (p := ⟨w.heap.size + 1, 2, none⟩) z1).trans q1_2
        replace z0 := Nat.lt_of_lt_of_le z0 hb.size
        replace z1 := Nat.lt_of_lt_of_le z1 hb.size
        replace q7_0 := (hb.cell (p := ⟨b7, 0, none⟩) z7).trans q7_0
        replace q7_1 := (hb.cell (p := ⟨b7, 1, none⟩) z7).trans q7_1
        replace q7_2 := (hb.cell (p := ⟨b7, 2, none⟩) z7).trans q7_2
        replace z7 := Nat.lt_of_lt_of_le z7 hb.size
        replace q8_0 := (hb.cell (p := ⟨b8, 0, none⟩) z8).trans q8_0
        replace q8_1 := (hb.cell (p := ⟨b8, 1, none⟩) z8).trans q8_1
        replace q8_2 := (hb.cell (p := ⟨b8, 2, none⟩) z8).trans q8_2
        replace z8 := Nat.lt_of_lt_of_le z8 hb.size
        replace q9_0 := (hb.cell (p := ⟨b9, 0, none⟩) z9).trans q9_0
        replace q9_1 := (hb.cell (p := ⟨b9, 1, none⟩) z9).trans q9_1
        replace q9_2 := (hb.cell (p := ⟨b9, 2, none⟩) z9).trans q9_2
        replace z9 := Nat.lt_of_lt_of_le z9 hb.size
        replace HW := HW.trans (hb.mono HW.size)
        clear hb S2 S3 H4
        have fin : ¬ (0 < x.m ∧ 0 < y.m ∧ 9223372036854775807 < lcmI x.m y.m) → (∀ w, Calls Try.prog 44 #[.agg #[.bool c.s, .int .i64 c.m, .int .i64 c.r], .agg #[.bool a.s, .int .i64 a.m, .int .i64 a.r]] w fun e w' => e = .returned (.bool true) ∧ Below w.heap.size w w') ∧ (∀ w, Calls Try.prog 44 #[.agg #[.bool c.s, .int .i64 c.m, .int .i64 c.r], .agg #[.bool b.s, .int .i64 b.m, .int .i64 b.r]] w fun e w' => e = .returned (.bool true) ∧ Below w.heap.size w w') ∧ (∀ w, Calls Try.prog 43 #[.agg #[.bool c.s, .int .i64 c.m, .int .i64 c.r], .int .i64 n] w fun e w' => e = .returned (.bool inn) ∧ Below w.heap.size w w') := fun h => by
          obtain ⟨r1, r2⟩ := S5.out h
          have r3 := S5'.out h
          rw [r1] at h5
          rw [r2] at h6
          rw [r3] at h3
          exact ⟨h5, h6, h3⟩
        have FIN := Lib.hid fin
        clear fin h3 h5 h6 S5 S5' cn cx cy
        by_cases hx : 0 < x.m
        · by_cases hy : 0 < y.m
          · obtain ⟨g, b', e1, hg, g1, t1, pb, b1, el, l0, lB⟩ := lcm_parts ox.1 oy.1 hx hy
            have xm := ox.1.1
            have ym := oy.1.1
            unfold I64 at xm ym
            have HGC := r5_gcd' x.m y.m (by unfold U64 M64; omega) (by unfold U64 M64; omega)
            rw [e1] at HGC
            have HGCC := Lib.hid HGC
            have hmm := r_mul x.m b' (by unfold I64; omega) (by unfold I64; omega)
            rw [el] at hmm
            have HMM := Lib.hid hmm
            have hii := r_int (hiW (lcmI x.m y.m)) (loW (lcmI x.m y.m)) (I64_hi (by unfold I128; omega)) (U64.lo _)
            rw [wv_hilo] at hii
            have HII := Lib.hid hii
            have S4' := S4.out
            clear HGC hmm hii e1 el S4
            generalize lcmI x.m y.m = l at *
            generalize hiW l = lh at *
            generalize loW l = ll at *
            have g0 : (g == 0) = false := by simp; omega
            have g2 : ¬ g = 0 := by omega
            have w1 : IntKind.u64.wrap x.m = x.m := by rw [wrapu]; omega
            have w2 : IntKind.u64.wrap y.m = y.m := by rw [wrapu]; omega
            have w3 : wrap64 g = g := by unfold wrap64; omega
            have w4 : IntKind.i64.wrap g = g := IntWalk.i64_in _ (by omega)
            have w5 : IntKind.i64.wrap b' = b' := IntWalk.i64_in _ (by omega)
            have xs : x.s = true := by
              cases h : x.s
              · have := congrArg Cg.m (ox.2.2.1 h); unfold Cg.zero at this; dsimp only at this; omega
              · rfl
            have ys : y.s = true := by
              cases h : y.s
              · have := congrArg Cg.m (oy.2.2.1 h); unfold Cg.zero at this; dsimp only at this; omega
              · rfl
            go_wp2
            by_cases hl : 9223372036854775807 < l
            · have hi1 : isI l = false := by
                cases h : isI l
                · rfl
                · have := (isI_iff l).1 h; unfold I64 at this; omega
              rw [hi1] at HII
              clear FIN
              have S4'' := S4' ⟨hx, hy, hl⟩
              clear S4'
              refine region_seq (S := fun w' => Below wc.heap.size wc w') rfl (by kernel_rfl) (by kernel_rfl) (by repeat (first | (with_reducible assumption) | (with_reducible exact Below.refl _ _) | (with_reducible refine Below.alloc ?_ (by first | omega | (simp; omega) | (simp; done) | (dsimp only; omega)) _) | (with_reducible refine Below.setCell ?_ (by first | omega | (simp; omega) | (simp; done) | (dsimp only; omega)) _) | (with_reducible refine Below.drew ?_) | (with_reducible refine Below.trans ?_ (Below.mono (by assumption) (by first | omega | (simp; omega) | (simp; done) | (dsimp only; omega)))))) (fun fin hfin => ?_)
              iterate 20
                first
                  | (refine SeqL.yes (v := ?_) (A' := ?_) rfl (by rfl) ?_ ?_ ?_
                     rotate_left 2
                     · intro w' K hS hK
                       obtain ⟨hc, hf⟩ := bcell hS
                       have hz := hS.size
                       go_simp
                       first
                         | exact hK.out _ hS
                         | (go_at_call 40; (with_reducible refine (HGCC.out _).mono ?_); rintro e w1 ⟨rfl, hb1⟩; exact hK.out _ (hS.trans (hb1.mono hz)))
                         | (go_at_call 46; (with_reducible refine (HMM.out _).mono ?_); rintro e w1 ⟨rfl, hb1⟩; exact hK.out _ (hS.trans (hb1.mono hz)))
                         | (go_at_call 45; (with_reducible refine (HII.out _).mono ?_); rintro e w1 ⟨rfl, hb1⟩; exact hK.out _ (hS.trans (hb1.mono hz)))
                         | trace_state
                     · simp only [Act.put, List.setIfInBounds_toArray, List.set_cons_zero, List.set_cons_succ]; exact rfl)
                  | (refine SeqL.no (A' := ?_) rfl (by rfl) ?_ ?_
                     rotate_left
                     · simp only [Act.put, List.setIfInBounds_toArray, List.set_cons_zero, List.set_cons_succ]; exact rfl)
              refine SeqL.nil (hfin.out _ ?_)
              clear hfin fin
              intro w1 hS1
              replace q0_0 := (hS1.cell (p := ⟨w.heap.size, 0, none⟩) z0).trans q0_0
              replace q0_1 := (hS1.cell (p := ⟨w.heap.size, 1, none⟩) z0).trans q0_1
              replace q0_2 := (hS1.cell (p := ⟨w.heap.size, 2, none⟩) z0).trans q0_2
              replace q1_0 := (hS1.cell (p := ⟨w.heap.size + 1, 0, none⟩) z1).trans q1_0
              replace q1_1 := (hS1.cell (p := ⟨w.heap.size + 1, 1, none⟩) z1).trans q1_1
              replace q1_2 := (hS1.cell (p := ⟨w.heap.size + 1, 2, none⟩) z1).trans q1_2
              replace z0 := Nat.lt_of_lt_of_le z0 hS1.size
              replace z1 := Nat.lt_of_lt_of_le z1 hS1.size
              replace q7_0 := (hS1.cell (p := ⟨b7, 0, none⟩) z7).trans q7_0
              replace q7_1 := (hS1.cell (p := ⟨b7, 1, none⟩) z7).trans q7_1
              replace q7_2 := (hS1.cell (p := ⟨b7, 2, none⟩) z7).trans q7_2
              replace z7 := Nat.lt_of_lt_of_le z7 hS1.size
              replace q8_0 := (hS1.cell (p := ⟨b8, 0, none⟩) z8).trans q8_0
              replace q8_1 := (hS1.cell (p := ⟨b8, 1, none⟩) z8).trans q8_1
              replace q8_2 := (hS1.cell (p := ⟨b8, 2, none⟩) z8).trans q8_2
              replace z8 := Nat.lt_of_lt_of_le z8 hS1.size
              replace q9_0 := (hS1.cell (p := ⟨b9, 0, none⟩) z9).trans q9_0
              replace q9_1 := (hS1.cell (p := ⟨b9, 1, none⟩) z9).trans q9_1
              replace q9_2 := (hS1.cell (p := ⟨b9, 2, none⟩) z9).trans q9_2
              replace z9 := Nat.lt_of_lt_of_le z9 hS1.size
              replace HW := HW.trans (hS1.mono HW.size)
              clear hS1
              have sc : c = x ∨ (c ≠ x ∧ c = y) ∨ (c.s = false) := by
                by_cases hcx : c = x
                · exact Or.inl hcx
                · rcases S4'' with h | h | h
                  · exact Or.inl h
                  · exact Or.inr (Or.inl ⟨hcx, h⟩)
                  · exact Or.inr (Or.inr h)
              rw [xs] at q8_0
              rw [ys] at q9_0
              rcases sc with rfl | ⟨hne, rfl⟩ | hcs
              · rw [xs] at q7_0
                go_wp2_with (go_at_call 41; (with_reducible refine (HL.out _).mono ?_); rintro e w5 ⟨rfl, hb5⟩; obtain ⟨hc5, hf5⟩ := bcell hb5; have hz5 := hb5.size; (try simp at hz5); (try have hy5 := Nat.lt_of_succ_le hz5); (try have hv5 := Nat.lt_of_succ_lt hy5); (try have hw50 : w.heap.size < w5.heap.size := by omega); (try have hw51 : w.heap.size + 1 < w5.heap.size := by omega); (try have hw52 : w.heap.size + 1 + 1 < w5.heap.size := by omega); (try have hw53 : w.heap.size + 1 + 1 + 1 < w5.heap.size := by omega))
                go_ret
                exact ⟨rfl, (by repeat (first | (with_reducible assumption) | (with_reducible exact Below.refl _ _) | (with_reducible refine Below.alloc ?_ (by first | omega | (simp; omega) | (simp; done) | (dsimp only; omega)) _) | (with_reducible refine Below.setCell ?_ (by first | omega | (simp; omega) | (simp; done) | (dsimp only; omega)) _) | (with_reducible refine Below.drew ?_) | (with_reducible refine Below.trans ?_ (Below.mono (by assumption) (by first | omega | (simp; omega) | (simp; done) | (dsimp only; omega))))))⟩
              · have hw : ((c.m == x.m) = false) ∨ ((c.m == x.m) = true ∧ (c.r == x.r) = false) := by
                  by_cases k2 : c.m = x.m
                  · exact Or.inr ⟨by simp [k2], by simpa using fun k3 => hne (Cg.ext' (ys.trans xs.symm) k2 k3)⟩
                  · exact Or.inl (by simpa using k2)
                rw [ys] at q7_0
                rcases hw with k1 | ⟨k1, k2⟩
                all_goals
                  go_wp2_with (go_at_call 41; (with_reducible refine (HL.out _).mono ?_); rintro e w5 ⟨rfl, hb5⟩; obtain ⟨hc5, hf5⟩ := bcell hb5; have hz5 := hb5.size; (try simp at hz5); (try have hy5 := Nat.lt_of_succ_le hz5); (try have hv5 := Nat.lt_of_succ_lt hy5); (try have hw50 : w.heap.size < w5.heap.size := by omega); (try have hw51 : w.heap.size + 1 < w5.heap.size := by omega); (try have hw52 : w.heap.size + 1 + 1 < w5.heap.size := by omega); (try have hw53 : w.heap.size + 1 + 1 + 1 < w5.heap.size := by omega))
                  go_ret
                  exact ⟨rfl, (by repeat (first | (with_reducible assumption) | (with_reducible exact Below.refl _ _) | (with_reducible refine Below.alloc ?_ (by first | omega | (simp; omega) | (simp; done) | (dsimp only; omega)) _) | (with_reducible refine Below.setCell ?_ (by first | omega | (simp; omega) | (simp; done) | (dsimp only; omega)) _) | (with_reducible refine Below.drew ?_) | (with_reducible refine Below.trans ?_ (Below.mono (by assumption) (by first | omega | (simp; omega) | (simp; done) | (dsimp only; omega))))))⟩
              · rw [hcs] at q7_0
                go_wp2_with (go_at_call 41; (with_reducible refine (HL.out _).mono ?_); rintro e w5 ⟨rfl, hb5⟩; obtain ⟨hc5, hf5⟩ := bcell hb5; have hz5 := hb5.size; (try simp at hz5); (try have hy5 := Nat.lt_of_succ_le hz5); (try have hv5 := Nat.lt_of_succ_lt hy5); (try have hw50 : w.heap.size < w5.heap.size := by omega); (try have hw51 : w.heap.size + 1 < w5.heap.size := by omega); (try have hw52 : w.heap.size + 1 + 1 < w5.heap.size := by omega); (try have hw53 : w.heap.size + 1 + 1 + 1 < w5.heap.size := by omega))
                go_ret
                exact ⟨rfl, (by repeat (first | (with_reducible assumption) | (with_reducible exact Below.refl _ _) | (with_reducible refine Below.alloc ?_ (by first | omega | (simp; omega) | (simp; done) | (dsimp only; omega)) _) | (with_reducible refine Below.setCell ?_ (by first | omega | (simp; omega) | (simp; done) | (dsimp only; omega)) _) | (with_reducible refine Below.drew ?_) | (with_reducible refine Below.trans ?_ (Below.mono (by assumption) (by first | omega | (simp; omega) | (simp; done) | (dsimp only; omega))))))⟩
            · have hi1 : isI l = true := (isI_iff l).2 (by unfold I64; omega)
              rw [hi1] at HII
              obtain ⟨F1, F2, F3⟩ := FIN.out (fun h => by omega)
              have H5 := Lib.hid F1; have H6 := Lib.hid F2; have H3 := Lib.hid F3
              clear FIN F1 F2 F3 S4'
              refine region_seq (S := fun w' => Below wc.heap.size wc w') rfl (by kernel_rfl) (by kernel_rfl) (by repeat (first | (with_reducible assumption) | (with_reducible exact Below.refl _ _) | (with_reducible refine Below.alloc ?_ (by first | omega | (simp; omega) | (simp; done) | (dsimp only; omega)) _) | (with_reducible refine Below.setCell ?_ (by first | omega | (simp; omega) | (simp; done) | (dsimp only; omega)) _) | (with_reducible refine Below.drew ?_) | (with_reducible refine Below.trans ?_ (Below.mono (by assumption) (by first | omega | (simp; omega) | (simp; done) | (dsimp only; omega)))))) (fun fin hfin => ?_)
              iterate 20
                first
                  | (refine SeqL.yes (v := ?_) (A' := ?_) rfl (by rfl) ?_ ?_ ?_
                     rotate_left 2
                     · intro w' K hS hK
                       obtain ⟨hc, hf⟩ := bcell hS
                       have hz := hS.size
                       go_simp
                       first
                         | exact hK.out _ hS
                         | (go_at_call 40; (with_reducible refine (HGCC.out _).mono ?_); rintro e w1 ⟨rfl, hb1⟩; exact hK.out _ (hS.trans (hb1.mono hz)))
                         | (go_at_call 46; (with_reducible refine (HMM.out _).mono ?_); rintro e w1 ⟨rfl, hb1⟩; exact hK.out _ (hS.trans (hb1.mono hz)))
                         | (go_at_call 45; (with_reducible refine (HII.out _).mono ?_); rintro e w1 ⟨rfl, hb1⟩; exact hK.out _ (hS.trans (hb1.mono hz)))
                         | trace_state
                     · simp only [Act.put, List.setIfInBounds_toArray, List.set_cons_zero, List.set_cons_succ]; exact rfl)
                  | (refine SeqL.no (A' := ?_) rfl (by rfl) ?_ ?_
                     rotate_left
                     · simp only [Act.put, List.setIfInBounds_toArray, List.set_cons_zero, List.set_cons_succ]; exact rfl)
              refine SeqL.nil (hfin.out _ ?_)
              clear hfin fin
              intro w1 hS1
              replace q0_0 := (hS1.cell (p := ⟨w.heap.size, 0, none⟩) z0).trans q0_0
              replace q0_1 := (hS1.cell (p := ⟨w.heap.size, 1, none⟩) z0).trans q0_1
              replace q0_2 := (hS1.cell (p := ⟨w.heap.size, 2, none⟩) z0).trans q0_2
              replace q1_0 := (hS1.cell (p := ⟨w.heap.size + 1, 0, none⟩) z1).trans q1_0
              replace q1_1 := (hS1.cell (p := ⟨w.heap.size + 1, 1, none⟩) z1).trans q1_1
              replace q1_2 := (hS1.cell (p := ⟨w.heap.size + 1, 2, none⟩) z1).trans q1_2
              replace z0 := Nat.lt_of_lt_of_le z0 hS1.size
              replace z1 := Nat.lt_of_lt_of_le z1 hS1.size
              replace q7_0 := (hS1.cell (p := ⟨b7, 0, none⟩) z7).trans q7_0
              replace q7_1 := (hS1.cell (p := ⟨b7, 1, none⟩) z7).trans q7_1
              replace q7_2 := (hS1.cell (p := ⟨b7, 2, none⟩) z7).trans q7_2
              replace z7 := Nat.lt_of_lt_of_le z7 hS1.size
              replace q8_0 := (hS1.cell (p := ⟨b8, 0, none⟩) z8).trans q8_0
              replace q8_1 := (hS1.cell (p := ⟨b8, 1, none⟩) z8).trans q8_1
              replace q8_2 := (hS1.cell (p := ⟨b8, 2, none⟩) z8).trans q8_2
              replace z8 := Nat.lt_of_lt_of_le z8 hS1.size
              replace q9_0 := (hS1.cell (p := ⟨b9, 0, none⟩) z9).trans q9_0
              replace q9_1 := (hS1.cell (p := ⟨b9, 1, none⟩) z9).trans q9_1
              replace q9_2 := (hS1.cell (p := ⟨b9, 2, none⟩) z9).trans q9_2
              replace z9 := Nat.lt_of_lt_of_le z9 hS1.size
              replace HW := HW.trans (hS1.mono HW.size)
              clear hS1
              cases inn
              all_goals
                go_wp2_with (first | (go_at_call 44; (with_reducible refine (H5.out _).mono ?_); rintro e w2 ⟨rfl, hb2⟩; obtain ⟨hc2, hf2⟩ := bcell hb2; have hz2 := hb2.size; (try simp at hz2); (try have hy2 := Nat.lt_of_succ_le hz2); (try have hv2 := Nat.lt_of_succ_lt hy2); (try have hw20 : w.heap.size < w2.heap.size := by omega); (try have hw21 : w.heap.size + 1 < w2.heap.size := by omega); (try have hw22 : w.heap.size + 1 + 1 < w2.heap.size := by omega); (try have hw23 : w.heap.size + 1 + 1 + 1 < w2.heap.size := by omega); (try have hx2_0 : b7 < w2.heap.size := by omega); (try have hx2_1 : w.heap.size < w2.heap.size := by omega); (try have hx2_2 : w.heap.size + 1 < w2.heap.size := by omega)) | (go_at_call 44; (with_reducible refine (H6.out _).mono ?_); rintro e w3 ⟨rfl, hb3⟩; obtain ⟨hc3, hf3⟩ := bcell hb3; have hz3 := hb3.size; (try simp at hz3); (try have hy3 := Nat.lt_of_succ_le hz3); (try have hv3 := Nat.lt_of_succ_lt hy3); (try have hw30 : w.heap.size < w3.heap.size := by omega); (try have hw31 : w.heap.size + 1 < w3.heap.size := by omega); (try have hw32 : w.heap.size + 1 + 1 < w3.heap.size := by omega); (try have hw33 : w.heap.size + 1 + 1 + 1 < w3.heap.size := by omega); (try have hx3_0 : b7 < w3.heap.size := by omega); (try have hx3_1 : w.heap.size < w3.heap.size := by omega); (try have hx3_2 : w.heap.size + 1 < w3.heap.size := by omega)) | (go_at_call 43; (with_reducible refine (H3.out _).mono ?_); rintro e w4 ⟨rfl, hb4⟩; obtain ⟨hc4, hf4⟩ := bcell hb4; have hz4 := hb4.size; (try simp at hz4); (try have hy4 := Nat.lt_of_succ_le hz4); (try have hv4 := Nat.lt_of_succ_lt hy4); (try have hw40 : w.heap.size < w4.heap.size := by omega); (try have hw41 : w.heap.size + 1 < w4.heap.size := by omega); (try have hw42 : w.heap.size + 1 + 1 < w4.heap.size := by omega); (try have hw43 : w.heap.size + 1 + 1 + 1 < w4.heap.size := by omega); (try have hx4_0 : b7 < w4.heap.size := by omega); (try have hx4_1 : w.heap.size < w4.heap.size := by omega); (try have hx4_2 : w.heap.size + 1 < w4.heap.size := by omega)) | (go_at_call 41; (with_reducible refine (HL.out _).mono ?_); rintro e w5 ⟨rfl, hb5⟩; obtain ⟨hc5, hf5⟩ := bcell hb5; have hz5 := hb5.size; (try simp at hz5); (try have hy5 := Nat.lt_of_succ_le hz5); (try have hv5 := Nat.lt_of_succ_lt hy5); (try have hw50 : w.heap.size < w5.heap.size := by omega); (try have hw51 : w.heap.size + 1 < w5.heap.size := by omega); (try have hw52 : w.heap.size + 1 + 1 < w5.heap.size := by omega); (try have hw53 : w.heap.size + 1 + 1 + 1 < w5.heap.size := by omega)))
                go_ret
                exact ⟨rfl, (by repeat (first | (with_reducible assumption) | (with_reducible exact Below.refl _ _) | (with_reducible refine Below.alloc ?_ (by first | omega | (simp; omega) | (simp; done) | (dsimp only; omega)) _) | (with_reducible refine Below.setCell ?_ (by first | omega | (simp; omega) | (simp; done) | (dsimp only; omega)) _) | (with_reducible refine Below.drew ?_) | (with_reducible refine Below.trans ?_ (Below.mono (by assumption) (by first | omega | (simp; omega) | (simp; done) | (dsimp only; omega))))))⟩
          · obtain ⟨F1, F2, F3⟩ := FIN.out (fun h => hy h.2.1)
            have H5 := Lib.hid F1; have H6 := Lib.hid F2; have H3 := Lib.hid F3
            clear FIN F1 F2 F3 S4
            cases inn
            all_goals
              go_wp2_with (first | (go_at_call 44; (with_reducible refine (H5.out _).mono ?_); rintro e w2 ⟨rfl, hb2⟩; obtain ⟨hc2, hf2⟩ := bcell hb2; have hz2 := hb2.size; (try simp at hz2); (try have hy2 := Nat.lt_of_succ_le hz2); (try have hv2 := Nat.lt_of_succ_lt hy2); (try have hw20 : w.heap.size < w2.heap.size := by omega); (try have hw21 : w.heap.size + 1 < w2.heap.size := by omega); (try have hw22 : w.heap.size + 1 + 1 < w2.heap.size := by omega); (try have hw23 : w.heap.size + 1 + 1 + 1 < w2.heap.size := by omega); (try have hx2_0 : b7 < w2.heap.size := by omega); (try have hx2_1 : w.heap.size < w2.heap.size := by omega); (try have hx2_2 : w.heap.size + 1 < w2.heap.size := by omega)) | (go_at_call 44; (with_reducible refine (H6.out _).mono ?_); rintro e w3 ⟨rfl, hb3⟩; obtain ⟨hc3, hf3⟩ := bcell hb3; have hz3 := hb3.size; (try simp at hz3); (try have hy3 := Nat.lt_of_succ_le hz3); (try have hv3 := Nat.lt_of_succ_lt hy3); (try have hw30 : w.heap.size < w3.heap.size := by omega); (try have hw31 : w.heap.size + 1 < w3.heap.size := by omega); (try have hw32 : w.heap.size + 1 + 1 < w3.heap.size := by omega); (try have hw33 : w.heap.size + 1 + 1 + 1 < w3.heap.size := by omega); (try have hx3_0 : b7 < w3.heap.size := by omega); (try have hx3_1 : w.heap.size < w3.heap.size := by omega); (try have hx3_2 : w.heap.size + 1 < w3.heap.size := by omega)) | (go_at_call 43; (with_reducible refine (H3.out _).mono ?_); rintro e w4 ⟨rfl, hb4⟩; obtain ⟨hc4, hf4⟩ := bcell hb4; have hz4 := hb4.size; (try simp at hz4); (try have hy4 := Nat.lt_of_succ_le hz4); (try have hv4 := Nat.lt_of_succ_lt hy4); (try have hw40 : w.heap.size < w4.heap.size := by omega); (try have hw41 : w.heap.size + 1 < w4.heap.size := by omega); (try have hw42 : w.heap.size + 1 + 1 < w4.heap.size := by omega); (try have hw43 : w.heap.size + 1 + 1 + 1 < w4.heap.size := by omega); (try have hx4_0 : b7 < w4.heap.size := by omega); (try have hx4_1 : w.heap.size < w4.heap.size := by omega); (try have hx4_2 : w.heap.size + 1 < w4.heap.size := by omega)) | (go_at_call 41; (with_reducible refine (HL.out _).mono ?_); rintro e w5 ⟨rfl, hb5⟩; obtain ⟨hc5, hf5⟩ := bcell hb5; have hz5 := hb5.size; (try simp at hz5); (try have hy5 := Nat.lt_of_succ_le hz5); (try have hv5 := Nat.lt_of_succ_lt hy5); (try have hw50 : w.heap.size < w5.heap.size := by omega); (try have hw51 : w.heap.size + 1 < w5.heap.size := by omega); (try have hw52 : w.heap.size + 1 + 1 < w5.heap.size := by omega); (try have hw53 : w.heap.size + 1 + 1 + 1 < w5.heap.size := by omega)))
              go_ret
              exact ⟨rfl, (by repeat (first | (with_reducible assumption) | (with_reducible exact Below.refl _ _) | (with_reducible refine Below.alloc ?_ (by first | omega | (simp; omega) | (simp; done) | (dsimp only; omega)) _) | (with_reducible refine Below.setCell ?_ (by first | omega | (simp; omega) | (simp; done) | (dsimp only; omega)) _) | (with_reducible refine Below.drew ?_) | (with_reducible refine Below.trans ?_ (Below.mono (by assumption) (by first | omega | (simp; omega) | (simp; done) | (dsimp only; omega))))))⟩
        · obtain ⟨F1, F2, F3⟩ := FIN.out (fun h => hx h.1)
          have H5 := Lib.hid F1; have H6 := Lib.hid F2; have H3 := Lib.hid F3
          clear FIN F1 F2 F3 S4
          cases inn
          all_goals
            go_wp2_with (first | (go_at_call 44; (with_reducible refine (H5.out _).mono ?_); rintro e w2 ⟨rfl, hb2⟩; obtain ⟨hc2, hf2⟩ := bcell hb2; have hz2 := hb2.size; (try simp at hz2); (try have hy2 := Nat.lt_of_succ_le hz2); (try have hv2 := Nat.lt_of_succ_lt hy2); (try have hw20 : w.heap.size < w2.heap.size := by omega); (try have hw21 : w.heap.size + 1 < w2.heap.size := by omega); (try have hw22 : w.heap.size + 1 + 1 < w2.heap.size := by omega); (try have hw23 : w.heap.size + 1 + 1 + 1 < w2.heap.size := by omega); (try have hx2_0 : b7 < w2.heap.size := by omega); (try have hx2_1 : w.heap.size < w2.heap.size := by omega); (try have hx2_2 : w.heap.size + 1 < w2.heap.size := by omega)) | (go_at_call 44; (with_reducible refine (H6.out _).mono ?_); rintro e w3 ⟨rfl, hb3⟩; obtain ⟨hc3, hf3⟩ := bcell hb3; have hz3 := hb3.size; (try simp at hz3); (try have hy3 := Nat.lt_of_succ_le hz3); (try have hv3 := Nat.lt_of_succ_lt hy3); (try have hw30 : w.heap.size < w3.heap.size := by omega); (try have hw31 : w.heap.size + 1 < w3.heap.size := by omega); (try have hw32 : w.heap.size + 1 + 1 < w3.heap.size := by omega); (try have hw33 : w.heap.size + 1 + 1 + 1 < w3.heap.size := by omega); (try have hx3_0 : b7 < w3.heap.size := by omega); (try have hx3_1 : w.heap.size < w3.heap.size := by omega); (try have hx3_2 : w.heap.size + 1 < w3.heap.size := by omega)) | (go_at_call 43; (with_reducible refine (H3.out _).mono ?_); rintro e w4 ⟨rfl, hb4⟩; obtain ⟨hc4, hf4⟩ := bcell hb4; have hz4 := hb4.size; (try simp at hz4); (try have hy4 := Nat.lt_of_succ_le hz4); (try have hv4 := Nat.lt_of_succ_lt hy4); (try have hw40 : w.heap.size < w4.heap.size := by omega); (try have hw41 : w.heap.size + 1 < w4.heap.size := by omega); (try have hw42 : w.heap.size + 1 + 1 < w4.heap.size := by omega); (try have hw43 : w.heap.size + 1 + 1 + 1 < w4.heap.size := by omega); (try have hx4_0 : b7 < w4.heap.size := by omega); (try have hx4_1 : w.heap.size < w4.heap.size := by omega); (try have hx4_2 : w.heap.size + 1 < w4.heap.size := by omega)) | (go_at_call 41; (with_reducible refine (HL.out _).mono ?_); rintro e w5 ⟨rfl, hb5⟩; obtain ⟨hc5, hf5⟩ := bcell hb5; have hz5 := hb5.size; (try simp at hz5); (try have hy5 := Nat.lt_of_succ_le hz5); (try have hv5 := Nat.lt_of_succ_lt hy5); (try have hw50 : w.heap.size < w5.heap.size := by omega); (try have hw51 : w.heap.size + 1 < w5.heap.size := by omega); (try have hw52 : w.heap.size + 1 + 1 < w5.heap.size := by omega); (try have hw53 : w.heap.size + 1 + 1 + 1 < w5.heap.size := by omega)))
            go_ret
            exact ⟨rfl, (by repeat (first | (with_reducible assumption) | (with_reducible exact Below.refl _ _) | (with_reducible refine Below.alloc ?_ (by first | omega | (simp; omega) | (simp; done) | (dsimp only; omega)) _) | (with_reducible refine Below.setCell ?_ (by first | omega | (simp; omega) | (simp; done) | (dsimp only; omega)) _) | (with_reducible refine Below.drew ?_) | (with_reducible refine Below.trans ?_ (Below.mono (by assumption) (by first | omega | (simp; omega) | (simp; done) | (dsimp only; omega))))))⟩
end Go.Proofs.Ytbjdiaakhlgcgaa
