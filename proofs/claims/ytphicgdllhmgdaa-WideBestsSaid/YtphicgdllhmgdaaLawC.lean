/- The law of layer 1 that speaks of the least and the greatest, walked. -/
import Derived.Test.YtphicgdllhmgdaaWRow
import Derived.Test.YtphicgdllhmgdaaLawA
namespace Go.Proofs.Ytphicgdllhmgdaa
open Go.RowKit

def CutW2 (x y : Int) (W : World) (s5 s6 : Value) (wx : World) : Prop :=
  ∃ b5 b6 : Nat, s5 = .pointer (some ⟨b5, 0, none⟩) ∧ s6 = .pointer (some ⟨b6, 0, none⟩) ∧ wx.heap[b5]? = some (.cells #[.int .i64 (hiW x), .int .u64 (loW x)] 24) ∧ wx.heap[b6]? = some (.cells #[.int .i64 (hiW y), .int .u64 (loW y)] 24)
    ∧ b5 ≠ b6 ∧ W.heap.size ≤ b5 ∧ W.heap.size ≤ b6 ∧ Below W.heap.size W wx
def BestsRel (a x y : Int) (l : List Int) (W : World) (s7 s8 s9 : Value) (wx : World) : Prop :=
  ∃ (k : Nat) (p q : Bool), k ≤ l.length ∧ s9 = .int .i64 k ∧ s7 = .bool p ∧ s8 = .bool q ∧ (p = true ↔ x = a ∨ x ∈ l.take k) ∧ (q = true ↔ y = a ∨ y ∈ l.take k) ∧ Below W.heap.size W wx
theorem eq_hl {x y : Int} : x = y ↔ hiW x = hiW y ∧ loW x = loW y := ⟨fun h => by rw [h]; exact ⟨rfl, rfl⟩, fun h => eq_hilo h.1 h.2⟩

theorem eqW (u v : Int) : (u = v ∧ (hiW u == hiW v) = true ∧ (loW u == loW v) = true) ∨ (u ≠ v ∧ (hiW u == hiW v) = false) ∨ (u ≠ v ∧ (hiW u == hiW v) = true ∧ (loW u == loW v) = false) := by
  by_cases h1 : hiW u = hiW v
  · by_cases h2 : loW u = loW v
    · exact Or.inl ⟨eq_hilo h1 h2, by simpa using h1, by simpa using h2⟩
    · exact Or.inr (Or.inr ⟨fun h => h2 (by rw [h]), by simpa using h1, by simpa using h2⟩)
  · exact Or.inr (Or.inl ⟨fun h => h1 (by rw [h]), by simpa using h1⟩)
theorem cmpw_le {u v : Int} (h : u ≤ v) : cmpI u v = 0 ∨ cmpI u v = -1 := by unfold cmpI; split <;> (try split) <;> omega
theorem cmpw_ge {u v : Int} (h : v ≤ u) : cmpI u v = 0 ∨ cmpI u v = 1 := by unfold cmpI; split <;> (try split) <;> omega

set_option maxRecDepth 100000 in
set_option maxHeartbeats 8000000 in
theorem law_wideBests (a : Int) (l : List Int) (A : Option Addr) (c : Nat) (w : World) (ha : I128 a) (hl : ∀ x ∈ l, I128 x) (hm : l.length ≤ 9223372036854775807) (hr : WRow w A l) :
    Calls Try.prog 6 #[.agg #[.int .i64 (hiW a), .int .u64 (loW a)], .slice A l.length c] w fun e w' => e = .returned (.bool true) ∧ Below w.heap.size w w' := by
  have H1 : Hid (∀ w', WRow w' A l → Calls Try.prog 34 #[.agg #[.int .i64 (hiW a), .int .u64 (loW a)], .slice A l.length c] w' fun e w'' => e = .returned (.agg #[.int .i64 (hiW (minL l a)), .int .u64 (loW (minL l a))]) ∧ Below w'.heap.size w' w'') := Lib.hid (fun w' h => wide_min a l A c w' hm h)
  have H2 : Hid (∀ w', WRow w' A l → Calls Try.prog 35 #[.agg #[.int .i64 (hiW a), .int .u64 (loW a)], .slice A l.length c] w' fun e w'' => e = .returned (.agg #[.int .i64 (hiW (maxL l a)), .int .u64 (loW (maxL l a))]) ∧ Below w'.heap.size w' w'') := Lib.hid (fun w' h => wide_max a l A c w' hm h)
  have HR0 : Hid (∀ w', Below w.heap.size w w' → WRow w' A l) := Lib.hid (fun w' h => hr.mono h)
  have sx := minL_spec l a
  have sy := maxL_spec l a
  have ix : I128 (minL l a) := by
    rcases sx.1 with h | h
    · rw [h]; exact ha
    · exact hl _ h
  have iy : I128 (maxL l a) := by
    rcases sy.1 with h | h
    · rw [h]; exact ha
    · exact hl _ h
  generalize minL l a = x at *
  generalize maxL l a = y at *
  have SX := Lib.hid sx; have SY := Lib.hid sy
  have HI := Lib.hid hl
  clear sx sy hl
  have HC : Hid (∀ u v : Int, I128 u → I128 v → ∀ w, Calls Try.prog 29 #[.agg #[.int .i64 (hiW u), .int .u64 (loW u)], .agg #[.int .i64 (hiW v), .int .u64 (loW v)]] w fun e w' => e = .returned (.int .i64 (cmpI u v)) ∧ Below w.heap.size w w') := by
    refine Lib.hid (fun u v hu hv w => ?_)
    have h := r_cmp (hiW u) (loW u) (hiW v) (loW v) (I64_hi hu) (U64.lo _) (I64_hi hv) (U64.lo _) w
    rw [wv_hilo, wv_hilo] at h
    exact h
  have HL := Lib.hid law01_lives
  go_enter Try.func6, Try.ntmps6
  go_wp2
  generalize hW : (w.alloc (.cells #[.int .i64 (hiW a), .int .u64 (loW a)] 24)) = W
  have q0_0 : W.cell? ⟨w.heap.size, 0, none⟩ = some (.int .i64 (hiW a)) := by rw [← hW]; simp [go_sem]
  have q0_1 : W.cell? ⟨w.heap.size, 1, none⟩ = some (.int .u64 (loW a)) := by rw [← hW]; simp [go_sem]
  have z0 : w.heap.size < W.heap.size := by rw [← hW]; first | (simp; done) | (simp; omega)
  have HW : Below w.heap.size w W := by rw [← hW]; exact (by repeat (first | (with_reducible assumption) | (with_reducible exact Below.refl _ _) | (with_reducible refine Below.alloc ?_ (by first | omega | (simp; omega) | (simp; done) | (dsimp only; omega)) _) | (with_reducible refine Below.setCell ?_ (by first | omega | (simp; omega) | (simp; done) | (dsimp only; omega)) _) | (with_reducible refine Below.drew ?_) | (with_reducible refine Below.trans ?_ (Below.mono (by assumption) (by first | omega | (simp; omega) | (simp; done) | (dsimp only; omega))))))
  clear hW
  have HR : Hid (∀ w', Below W.heap.size W w' → WRow w' A l) := Lib.hid (fun w' h => HR0.out w' (HW.trans (h.mono HW.size)))
  have HRW := Lib.hid (HR.out W (Below.refl _ _))
  clear HR0 hr
  go_upto_region 1 with fail
  go_cut [5, 6] (fun s5 s6 wx => CutW2 x y W s5 s6 wx)
  case first =>
    refine region_seqg (W := W) [_, _, _, _, _, _, _, _] [_, _] rfl (by kernel_rfl) (by kernel_rfl) (by repeat (first | (with_reducible assumption) | (with_reducible exact Below.refl _ _) | (with_reducible refine Below.alloc ?_ (by first | omega | (simp; omega) | (simp; done) | (dsimp only; omega)) _) | (with_reducible refine Below.setCell ?_ (by first | omega | (simp; omega) | (simp; done) | (dsimp only; omega)) _) | (with_reducible refine Below.drew ?_) | (with_reducible refine Below.trans ?_ (Below.mono (by assumption) (by first | omega | (simp; omega) | (simp; done) | (dsimp only; omega)))))) (fun fin hfin => ?_)
    iterate 6
      first
        | (refine SeqG.yes (v := ?_) (A' := ?_) rfl (fun γ => by rfl) ?_ ?_ ?_
           rotate_left 2
           · intro γ w' K hS hK
             obtain ⟨hc, hf⟩ := bcell hS
             have hz := hS.size
             go_simp
             first
               | exact hK.out _ (Below.refl _ _)
               | (go_at_call 34; (with_reducible refine (H1.out _ (HR.out _ hS)).mono ?_); rintro e w1 ⟨rfl, hb1⟩; exact hK.out _ hb1)
               | (go_at_call 35; (with_reducible refine (H2.out _ (HR.out _ hS)).mono ?_); rintro e w1 ⟨rfl, hb1⟩; exact hK.out _ hb1)
               | trace_state
           · intro γ; simp only [Act.put, List.setIfInBounds_toArray, List.set_cons_zero, List.set_cons_succ]; exact rfl)
        | (refine SeqG.no (A' := ?_) rfl (fun γ => by rfl) ?_ ?_
           rotate_left
           · intro γ; simp only [Act.put, List.setIfInBounds_toArray, List.set_cons_zero, List.set_cons_succ]; exact rfl)
    refine SeqG.make (k := 6) (A' := ?_) (fun g => .pointer (some ⟨g 0, 0, none⟩)) (RCell #[.int .i64 0, .int .u64 0] 24) rfl (fun γ => by rfl) (RCell.stable _ _) ?_ ?_ ?_
    rotate_left
    · intro γ w' K hS _ hK
      have hm := RCell.made (#[.int .i64 0, .int .u64 0]) (24) w'
      have HK := Lib.hid (hK.out (fun _ => w'.heap.size) (w'.alloc (.cells #[.int .i64 0, .int .u64 0] 24)) ((Below.refl _ _).alloc (Nat.le_refl _) _) hm); clear hK hm
      go_simp
      exact HK.out
    · intro γ; simp only [Act.put, List.setIfInBounds_toArray, List.set_cons_zero, List.set_cons_succ]; exact rfl
    refine SeqG.make (k := 7) (A' := ?_) (fun g => .pointer (some ⟨g 0, 0, none⟩)) (RCell #[.int .i64 0, .int .u64 0] 24) rfl (fun γ => by rfl) (RCell.stable _ _) ?_ ?_ ?_
    rotate_left
    · intro γ w' K hS _ hK
      have hm := RCell.made (#[.int .i64 0, .int .u64 0]) (24) w'
      have HK := Lib.hid (hK.out (fun _ => w'.heap.size) (w'.alloc (.cells #[.int .i64 0, .int .u64 0] 24)) ((Below.refl _ _).alloc (Nat.le_refl _) _) hm); clear hK hm
      go_simp
      exact HK.out
    · intro γ; simp only [Act.put, List.setIfInBounds_toArray, List.set_cons_zero, List.set_cons_succ]; exact rfl
    refine SeqG.nil (hfin.out _ _ ?_)
    clear hfin fin
    intro γ lo hi w1 hB1 hF hD
    replace hF := listF2 hF
    dsimp only at hF
    replace hD := listD2 hD
    dsimp only at hD
    replace hD := hD (by decide)
    obtain ⟨⟨_, _, y7, o7, p7, h7⟩, ⟨_, _, y8, o8, p8, h8⟩⟩ := hF
    have n1 : γ 6 0 ≠ γ 7 0 := by omega
    have w7 : W.heap.size ≤ γ 6 0 := by omega
    have w8 : W.heap.size ≤ γ 7 0 := by omega
    have x7 : γ 6 0 < w1.heap.size := by omega
    have x8 : γ 7 0 < w1.heap.size := by omega
    clear hD o7 p7 o8 p8 y7 y8
    generalize γ 6 0 = b7 at *
    generalize γ 7 0 = b8 at *
    have g7 := blk_cell h7
    have g8 := blk_cell h8
    have f7 := blk_free h7
    have f8 := blk_free h8
    have n4 := Ne.symm n1
    have K7 := Lib.hid h7; have K8 := Lib.hid h8; clear h7 h8
    refine TailL.cons (fun K hK => ?_)
    go_simp
    refine hK.out _ _ ?_
    clear hK K
    refine TailL.cons (fun K hK => ?_)
    go_simp
    refine hK.out _ _ ?_
    clear hK K
    refine TailL.nil ?_
    go_wp2_with fail
    go_meet
    exact ⟨b7, b8, rfl, rfl,
      by (iterate 2 (refine (Below.heap_setCell _ _ _ _ (by dsimp only; omega)).trans ?_))
         exact blk_set2 K7.out,
      by refine blk_set2 (c0 := .int .i64 0) (c1 := .int .u64 0) ?_
         (iterate 2 (refine (Below.heap_setCell _ _ _ _ (by dsimp only; omega)).trans ?_))
         exact K8.out,
      n1, w7, w8, (by repeat (first | (with_reducible assumption) | (with_reducible exact Below.refl _ _) | (with_reducible refine Below.alloc ?_ (by first | omega | (simp; omega) | (simp; done) | (dsimp only; omega)) _) | (with_reducible refine Below.setCell ?_ (by first | omega | (simp; omega) | (simp; done) | (dsimp only; omega)) _) | (with_reducible refine Below.drew ?_) | (with_reducible refine Below.trans ?_ (Below.mono (by assumption) (by first | omega | (simp; omega) | (simp; done) | (dsimp only; omega))))))⟩
  case rest =>
    obtain ⟨b5, b6, rfl, rfl, h5, h6, n1, w5, w6, hb⟩ := hcut
    replace q0_0 := (hb.cell (p := ⟨w.heap.size, 0, none⟩) z0).trans q0_0
    replace q0_1 := (hb.cell (p := ⟨w.heap.size, 1, none⟩) z0).trans q0_1
    replace z0 := Nat.lt_of_lt_of_le z0 hb.size
    have q5_0 := blk_cell h5 0
    have q5_1 := blk_cell h5 1
    have q6_0 := blk_cell h6 0
    have q6_1 := blk_cell h6 1
    simp only [List.getElem?_toArray, List.getElem?_cons_zero, List.getElem?_cons_succ] at q5_0 q5_1 q6_0 q6_1
    have z5 := blk_lt h5
    have z6 := blk_lt h6
    replace HW : Below w.heap.size w wc := HW.trans (hb.mono HW.size)
    replace HR : Hid (WRow wc A l) := Lib.hid (HR.out wc hb)
    clear h5 h6 hb w5 w6 n1 HRW H1 H2
    go_wp2
    go_upto_region 2 with fail
    go_cut [7, 8] (fun s7 s8 wx => s7 = .bool (decide (x = a)) ∧ s8 = .bool (decide (y = a)) ∧ Below wc.heap.size wc wx)
    case first =>
      rcases eqW x a with ⟨h, k1, k2⟩ | ⟨h, k1⟩ | ⟨h, k1, k2⟩ <;> rcases eqW y a with ⟨h', l1, l2⟩ | ⟨h', l1⟩ | ⟨h', l1, l2⟩
      all_goals
        have G := Lib.hid h; have G' := Lib.hid h'; clear h h'
        refine region_seq (S := fun w' => Below wc.heap.size wc w') rfl (by kernel_rfl) (by kernel_rfl) (by repeat (first | (with_reducible assumption) | (with_reducible exact Below.refl _ _) | (with_reducible refine Below.alloc ?_ (by first | omega | (simp; omega) | (simp; done) | (dsimp only; omega)) _) | (with_reducible refine Below.setCell ?_ (by first | omega | (simp; omega) | (simp; done) | (dsimp only; omega)) _) | (with_reducible refine Below.drew ?_) | (with_reducible refine Below.trans ?_ (Below.mono (by assumption) (by first | omega | (simp; omega) | (simp; done) | (dsimp only; omega)))))) (fun fin hfin => ?_)
        iterate 8
          first
            | (refine SeqL.yes (v := ?_) (A' := ?_) rfl (by rfl) ?_ ?_ ?_
               rotate_left 2
               · intro w' K hS hK
                 obtain ⟨hc, hf⟩ := bcell hS
                 have hz := hS.size
                 go_simp
                 first
                   | exact hK.out _ hS
                   | trace_state
               · simp only [Act.put, List.setIfInBounds_toArray, List.set_cons_zero, List.set_cons_succ]; exact rfl)
            | (refine SeqL.no (A' := ?_) rfl (by rfl) ?_ ?_
               rotate_left
               · simp only [Act.put, List.setIfInBounds_toArray, List.set_cons_zero, List.set_cons_succ]; exact rfl)
        refine SeqL.nil (hfin.out _ ?_)
        clear hfin fin
        intro w1 hS1
        go_wp2_with fail
        go_meet
        exact ⟨by have := G.out; simp [this], by have := G'.out; simp [this], (by repeat (first | (with_reducible assumption) | (with_reducible exact Below.refl _ _) | (with_reducible refine Below.alloc ?_ (by first | omega | (simp; omega) | (simp; done) | (dsimp only; omega)) _) | (with_reducible refine Below.setCell ?_ (by first | omega | (simp; omega) | (simp; done) | (dsimp only; omega)) _) | (with_reducible refine Below.drew ?_) | (with_reducible refine Below.trans ?_ (Below.mono (by assumption) (by first | omega | (simp; omega) | (simp; done) | (dsimp only; omega))))))⟩
    case rest =>
      obtain ⟨rfl, rfl, hb⟩ := hcut
      replace q0_0 := (hb.cell (p := ⟨w.heap.size, 0, none⟩) z0).trans q0_0
      replace q0_1 := (hb.cell (p := ⟨w.heap.size, 1, none⟩) z0).trans q0_1
      replace z0 := Nat.lt_of_lt_of_le z0 hb.size
      replace q5_0 := (hb.cell (p := ⟨b5, 0, none⟩) z5).trans q5_0
      replace q5_1 := (hb.cell (p := ⟨b5, 1, none⟩) z5).trans q5_1
      replace z5 := Nat.lt_of_lt_of_le z5 hb.size
      replace q6_0 := (hb.cell (p := ⟨b6, 0, none⟩) z6).trans q6_0
      replace q6_1 := (hb.cell (p := ⟨b6, 1, none⟩) z6).trans q6_1
      replace z6 := Nat.lt_of_lt_of_le z6 hb.size
      replace HW := HW.trans (hb.mono HW.size)
      replace HR : Hid (WRow wc A l) := Lib.hid (HR.out.mono hb)
      clear hb
      go_upto_region 3 with fail
      go_cut [31] (fun s31 wx => s31 = .bool false ∧ Below wc.heap.size wc wx)
      case first =>
        have c1 := HC.out x a ix ha
        have c2 := HC.out y a iy ha
        have d1 := cmpw_le SX.out.2.1
        have d2 := cmpw_ge SY.out.2.1
        generalize cmpI x a = e1 at *
        generalize cmpI y a = e2 at *
        rcases d1 with rfl | rfl <;> rcases d2 with rfl | rfl
        all_goals
          have C1 := Lib.hid c1; have C2 := Lib.hid c2; clear c1 c2
          go_wp2_with (first | (go_at_call 29; (with_reducible refine (C1.out _).mono ?_); rintro e w1 ⟨rfl, hb1⟩; obtain ⟨hc1, hf1⟩ := bcell hb1; have hz1 := hb1.size; (try simp at hz1); (try have hy1 := Nat.lt_of_succ_le hz1); (try have hv1 := Nat.lt_of_succ_lt hy1); (try have hw10 : w.heap.size < w1.heap.size := by omega); (try have hw11 : w.heap.size + 1 < w1.heap.size := by omega); (try have hw12 : w.heap.size + 1 + 1 < w1.heap.size := by omega); (try have hw13 : w.heap.size + 1 + 1 + 1 < w1.heap.size := by omega); (try have hx1_0 : b5 < w1.heap.size := by omega); (try have hx1_1 : b6 < w1.heap.size := by omega); (try have hx1_2 : w.heap.size < w1.heap.size := by omega)) | (go_at_call 29; (with_reducible refine (C2.out _).mono ?_); rintro e w1 ⟨rfl, hb1⟩; obtain ⟨hc1, hf1⟩ := bcell hb1; have hz1 := hb1.size; (try simp at hz1); (try have hy1 := Nat.lt_of_succ_le hz1); (try have hv1 := Nat.lt_of_succ_lt hy1); (try have hw10 : w.heap.size < w1.heap.size := by omega); (try have hw11 : w.heap.size + 1 < w1.heap.size := by omega); (try have hw12 : w.heap.size + 1 + 1 < w1.heap.size := by omega); (try have hw13 : w.heap.size + 1 + 1 + 1 < w1.heap.size := by omega); (try have hx1_0 : b5 < w1.heap.size := by omega); (try have hx1_1 : b6 < w1.heap.size := by omega); (try have hx1_2 : w.heap.size < w1.heap.size := by omega)))
          go_meet
          exact ⟨rfl, (by repeat (first | (with_reducible assumption) | (with_reducible exact Below.refl _ _) | (with_reducible refine Below.alloc ?_ (by first | omega | (simp; omega) | (simp; done) | (dsimp only; omega)) _) | (with_reducible refine Below.setCell ?_ (by first | omega | (simp; omega) | (simp; done) | (dsimp only; omega)) _) | (with_reducible refine Below.drew ?_) | (with_reducible refine Below.trans ?_ (Below.mono (by assumption) (by first | omega | (simp; omega) | (simp; done) | (dsimp only; omega))))))⟩
      case rest =>
        obtain ⟨rfl, hb⟩ := hcut
        replace q0_0 := (hb.cell (p := ⟨w.heap.size, 0, none⟩) z0).trans q0_0
        replace q0_1 := (hb.cell (p := ⟨w.heap.size, 1, none⟩) z0).trans q0_1
        replace z0 := Nat.lt_of_lt_of_le z0 hb.size
        replace q5_0 := (hb.cell (p := ⟨b5, 0, none⟩) z5).trans q5_0
        replace q5_1 := (hb.cell (p := ⟨b5, 1, none⟩) z5).trans q5_1
        replace z5 := Nat.lt_of_lt_of_le z5 hb.size
        replace q6_0 := (hb.cell (p := ⟨b6, 0, none⟩) z6).trans q6_0
        replace q6_1 := (hb.cell (p := ⟨b6, 1, none⟩) z6).trans q6_1
        replace z6 := Nat.lt_of_lt_of_le z6 hb.size
        replace HW := HW.trans (hb.mono HW.size)
        replace HR : Hid (WRow wc A l) := Lib.hid (HR.out.mono hb)
        clear hb
        obtain ⟨W2, hW2⟩ : ∃ W2 : World, W2 = wc := ⟨_, rfl⟩
        go_wp2
        go_loopw [7, 8, 9] (fun s7 s8 s9 wx => BestsRel a x y l W2 s7 s8 s9 wx) (fun _ _ s9 _ => l.length - (intOf s9).toNat)
        case atStart => exact ⟨0, _, _, Nat.zero_le _, rfl, rfl, rfl, by simp, by simp, by rw [hW2]; exact (by repeat (first | (with_reducible assumption) | (with_reducible exact Below.refl _ _) | (with_reducible refine Below.alloc ?_ (by first | omega | (simp; omega) | (simp; done) | (dsimp only; omega)) _) | (with_reducible refine Below.setCell ?_ (by first | omega | (simp; omega) | (simp; done) | (dsimp only; omega)) _) | (with_reducible refine Below.drew ?_) | (with_reducible refine Below.trans ?_ (Below.mono (by assumption) (by first | omega | (simp; omega) | (simp; done) | (dsimp only; omega))))))⟩
        case round =>
          subst hW2
          obtain ⟨k, p, q, hk, rfl, rfl, rfl, hp, hq, hB⟩ := hrel
          have HP := Lib.hid hp; have HQ := Lib.hid hq; clear hp hq
          by_cases hlt : k < l.length
          · obtain ⟨bb, oo, hA, e0, e1, hbb⟩ := HR.out.cell hlt
            have iz := HI.out l[k] (List.getElem_mem hlt)
            have sx := SX.out.2.2 l[k] (List.getElem_mem hlt)
            have sy := SY.out.2.2 l[k] (List.getElem_mem hlt)
            have hs := take_snoc2 l k hlt
            have hp' : (decide (x = l[k]) || p) = true ↔ x = a ∨ x ∈ l.take (k + 1) := by
              rw [hs]; simp only [Bool.or_eq_true, decide_eq_true_eq, List.mem_append, List.mem_singleton, HP.out]; grind
            have hq' : (decide (y = l[k]) || q) = true ↔ y = a ∨ y ∈ l.take (k + 1) := by
              rw [hs]; simp only [Bool.or_eq_true, decide_eq_true_eq, List.mem_append, List.mem_singleton, HQ.out]; grind
            have HP' := Lib.hid hp'; have HQ' := Lib.hid hq'
            clear hs hp' hq'
            subst hA
            generalize l[k] = z at *
            have c1 := HC.out x z ix iz
            have c2 := HC.out y z iy iz
            have d1 : decide (0 < cmpI x z) = false := by rcases cmpw_le sx with h | h <;> rw [h] <;> rfl
            have d2 : decide (cmpI y z < 0) = false := by rcases cmpw_ge sy with h | h <;> rw [h] <;> rfl
            generalize cmpI x z = g1 at *
            generalize cmpI y z = g2 at *
            have C1 := Lib.hid c1; have C2 := Lib.hid c2; clear c1 c2 sx sy
            obtain ⟨hcx, _⟩ := bcell hB
            have hzx := hB.size
            have y5 : b5 < wr.heap.size := by omega
            have y6 : b6 < wr.heap.size := by omega
            have yb : bb < wr.heap.size := by omega
            go_wp2
            refine region_seq (S := fun w' => Below wr.heap.size wr w') rfl (by kernel_rfl) (by kernel_rfl) (by repeat (first | (with_reducible assumption) | (with_reducible exact Below.refl _ _) | (with_reducible refine Below.alloc ?_ (by first | omega | (simp; omega) | (simp; done) | (dsimp only; omega)) _) | (with_reducible refine Below.setCell ?_ (by first | omega | (simp; omega) | (simp; done) | (dsimp only; omega)) _) | (with_reducible refine Below.drew ?_) | (with_reducible refine Below.trans ?_ (Below.mono (by assumption) (by first | omega | (simp; omega) | (simp; done) | (dsimp only; omega)))))) (fun fin hfin => ?_)
            iterate 16
              first
                | (refine SeqL.yes (v := ?_) (A' := ?_) rfl (by rfl) ?_ ?_ ?_
                   rotate_left 2
                   · intro w' K hS hK
                     obtain ⟨hc, hf⟩ := bcell hS
                     have hz := hS.size
                     go_simp
                     first
                       | exact hK.out _ hS
                       | (go_at_call 29; (with_reducible refine (C1.out _).mono ?_); rintro e w1 ⟨rfl, hb1⟩; exact hK.out _ (hS.trans (hb1.mono hz)))
                       | (go_at_call 29; (with_reducible refine (C2.out _).mono ?_); rintro e w1 ⟨rfl, hb1⟩; exact hK.out _ (hS.trans (hb1.mono hz)))
                       | trace_state
                   · simp only [Act.put, List.setIfInBounds_toArray, List.set_cons_zero, List.set_cons_succ]; exact rfl)
                | (refine SeqL.no (A' := ?_) rfl (by rfl) ?_ ?_
                   rotate_left
                   · simp only [Act.put, List.setIfInBounds_toArray, List.set_cons_zero, List.set_cons_succ]; exact rfl)
            refine SeqL.nil (hfin.out _ ?_)
            clear hfin fin
            intro w1 hS1
            obtain ⟨hcy, _⟩ := bcell hS1
            have hzy := hS1.size
            have v5 : b5 < w1.heap.size := by omega
            have v6 : b6 < w1.heap.size := by omega
            have vb : bb < w1.heap.size := by omega
            go_wp2
            have Ex : (p = true ∧ (decide (x = z) || p) = true) ∨ (p = false ∧ x = z ∧ (hiW x == hiW z) = true ∧ (loW x == loW z) = true ∧ (decide (x = z) || p) = true) ∨ (p = false ∧ (hiW x == hiW z) = false ∧ (decide (x = z) || p) = false) ∨ (p = false ∧ (hiW x == hiW z) = true ∧ (loW x == loW z) = false ∧ (decide (x = z) || p) = false) := by
              cases p
              · rcases eqW x z with ⟨h, k1, k2⟩ | ⟨h, k1⟩ | ⟨h, k1, k2⟩
                · exact Or.inr (Or.inl ⟨rfl, h, k1, k2, by simp [h]⟩)
                · exact Or.inr (Or.inr (Or.inl ⟨rfl, k1, by simp [h]⟩))
                · exact Or.inr (Or.inr (Or.inr ⟨rfl, k1, k2, by simp [h]⟩))
              · exact Or.inl ⟨rfl, by simp⟩
            have Ey : (q = true ∧ (decide (y = z) || q) = true) ∨ (q = false ∧ y = z ∧ (hiW y == hiW z) = true ∧ (loW y == loW z) = true ∧ (decide (y = z) || q) = true) ∨ (q = false ∧ (hiW y == hiW z) = false ∧ (decide (y = z) || q) = false) ∨ (q = false ∧ (hiW y == hiW z) = true ∧ (loW y == loW z) = false ∧ (decide (y = z) || q) = false) := by
              cases q
              · rcases eqW y z with ⟨h, k1, k2⟩ | ⟨h, k1⟩ | ⟨h, k1, k2⟩
                · exact Or.inr (Or.inl ⟨rfl, h, k1, k2, by simp [h]⟩)
                · exact Or.inr (Or.inr (Or.inl ⟨rfl, k1, by simp [h]⟩))
                · exact Or.inr (Or.inr (Or.inr ⟨rfl, k1, k2, by simp [h]⟩))
              · exact Or.inl ⟨rfl, by simp⟩
            have EY := Lib.hid Ey; clear Ey
            rcases Ex with ⟨rfl, gx⟩ | ⟨rfl, rfl, k1, k2, gx⟩ | ⟨rfl, k1, gx⟩ | ⟨rfl, k1, k2, gx⟩
            all_goals
              have GX := Lib.hid gx; clear gx
              refine region_seq (S := fun w' => Below w1.heap.size w1 w') rfl (by kernel_rfl) (by kernel_rfl) (by repeat (first | (with_reducible assumption) | (with_reducible exact Below.refl _ _) | (with_reducible refine Below.alloc ?_ (by first | omega | (simp; omega) | (simp; done) | (dsimp only; omega)) _) | (with_reducible refine Below.setCell ?_ (by first | omega | (simp; omega) | (simp; done) | (dsimp only; omega)) _) | (with_reducible refine Below.drew ?_) | (with_reducible refine Below.trans ?_ (Below.mono (by assumption) (by first | omega | (simp; omega) | (simp; done) | (dsimp only; omega)))))) (fun fin hfin => ?_)
              iterate 10
                first
                  | (refine SeqL.yes (v := ?_) (A' := ?_) rfl (by rfl) ?_ ?_ ?_
                     rotate_left 2
                     · intro w' K hS hK
                       obtain ⟨hc, hf⟩ := bcell hS
                       have hz := hS.size
                       go_simp
                       first
                         | exact hK.out _ hS
                         | trace_state
                     · simp only [Act.put, List.setIfInBounds_toArray, List.set_cons_zero, List.set_cons_succ]; exact rfl)
                  | (refine SeqL.no (A' := ?_) rfl (by rfl) ?_ ?_
                     rotate_left
                     · simp only [Act.put, List.setIfInBounds_toArray, List.set_cons_zero, List.set_cons_succ]; exact rfl)
              refine SeqL.nil (hfin.out _ ?_)
              clear hfin fin
              intro w1 hS1
              have hzy2 := hS1.size
              obtain ⟨hcy2, _⟩ := bcell hS1
              have t5 := Nat.lt_of_lt_of_le v5 hzy2
              have t6 := Nat.lt_of_lt_of_le v6 hzy2
              have tb := Nat.lt_of_lt_of_le vb hzy2
              go_wp2
              rcases EY.out with ⟨rfl, gy⟩ | ⟨rfl, rfl, l1, l2, gy⟩ | ⟨rfl, l1, gy⟩ | ⟨rfl, l1, l2, gy⟩
              all_goals
                have GY := Lib.hid gy; clear gy
                refine region_seq (S := fun w' => Below w1.heap.size w1 w') rfl (by kernel_rfl) (by kernel_rfl) (by repeat (first | (with_reducible assumption) | (with_reducible exact Below.refl _ _) | (with_reducible refine Below.alloc ?_ (by first | omega | (simp; omega) | (simp; done) | (dsimp only; omega)) _) | (with_reducible refine Below.setCell ?_ (by first | omega | (simp; omega) | (simp; done) | (dsimp only; omega)) _) | (with_reducible refine Below.drew ?_) | (with_reducible refine Below.trans ?_ (Below.mono (by assumption) (by first | omega | (simp; omega) | (simp; done) | (dsimp only; omega)))))) (fun fin hfin => ?_)
                iterate 10
                  first
                    | (refine SeqL.yes (v := ?_) (A' := ?_) rfl (by rfl) ?_ ?_ ?_
                       rotate_left 2
                       · intro w' K hS hK
                         obtain ⟨hc, hf⟩ := bcell hS
                         have hz := hS.size
                         go_simp
                         first
                           | exact hK.out _ hS
                           | trace_state
                       · simp only [Act.put, List.setIfInBounds_toArray, List.set_cons_zero, List.set_cons_succ]; exact rfl)
                    | (refine SeqL.no (A' := ?_) rfl (by rfl) ?_ ?_
                       rotate_left
                       · simp only [Act.put, List.setIfInBounds_toArray, List.set_cons_zero, List.set_cons_succ]; exact rfl)
                refine SeqL.nil (hfin.out _ ?_)
                clear hfin fin
                intro w1 hS1
                go_wp2
                go_roundw
                case rel => exact ⟨k + 1, _, _, by omega, by go_num, rfl, rfl, by have := HP'.out; rw [GX.out] at this; exact this, by have := HQ'.out; rw [GY.out] at this; exact this, (by repeat (first | (with_reducible assumption) | (with_reducible exact Below.refl _ _) | (with_reducible refine Below.alloc ?_ (by first | omega | (simp; omega) | (simp; done) | (dsimp only; omega)) _) | (with_reducible refine Below.setCell ?_ (by first | omega | (simp; omega) | (simp; done) | (dsimp only; omega)) _) | (with_reducible refine Below.drew ?_) | (with_reducible refine Below.trans ?_ (Below.mono (by assumption) (by first | omega | (simp; omega) | (simp; done) | (dsimp only; omega))))))⟩
                case measure => simp [intOf]; omega
          · have hp : p = true := by
              rw [HP.out, List.take_of_length_le (by omega)]
              exact SX.out.1
            have hq : q = true := by
              rw [HQ.out, List.take_of_length_le (by omega)]
              exact SY.out.1
            subst hp hq
            have hzx := hB.size
            go_wp2_with (go_at_call 21; (with_reducible refine (HL.out _).mono ?_); rintro e w1 ⟨rfl, hb1⟩; obtain ⟨hc1, hf1⟩ := bcell hb1; have hz1 := hb1.size; (try simp at hz1); (try have hy1 := Nat.lt_of_succ_le hz1); (try have hv1 := Nat.lt_of_succ_lt hy1); (try have hw10 : w.heap.size < w1.heap.size := by omega); (try have hw11 : w.heap.size + 1 < w1.heap.size := by omega); (try have hw12 : w.heap.size + 1 + 1 < w1.heap.size := by omega); (try have hw13 : w.heap.size + 1 + 1 + 1 < w1.heap.size := by omega))
            go_ret
            exact ⟨rfl, (by repeat (first | (with_reducible assumption) | (with_reducible exact Below.refl _ _) | (with_reducible refine Below.alloc ?_ (by first | omega | (simp; omega) | (simp; done) | (dsimp only; omega)) _) | (with_reducible refine Below.setCell ?_ (by first | omega | (simp; omega) | (simp; done) | (dsimp only; omega)) _) | (with_reducible refine Below.drew ?_) | (with_reducible refine Below.trans ?_ (Below.mono (by assumption) (by first | omega | (simp; omega) | (simp; done) | (dsimp only; omega))))))⟩
end Go.Proofs.Ytphicgdllhmgdaa
