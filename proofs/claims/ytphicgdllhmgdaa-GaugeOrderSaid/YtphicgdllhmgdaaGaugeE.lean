/- The law of layer 35 that counts, walked. -/
import Derived.Test.YtphicgdllhmgdaaTRow
import Derived.Test.YtphicgdllhmgdaaAlloc
namespace Go.Proofs.Ytphicgdllhmgdaa
open Go.RowKit

/-- From 0 to a most. -/
def cutI (n m : Int) : Int := if n < 0 then 0 else if m < n then m else n
set_option maxHeartbeats 400000 in
theorem r35_cut (n m : Int) (w : World) : Calls Try.prog 46 #[.int .i64 n, .int .i64 m] w fun e w' => e = .returned (.int .i64 (cutI n m)) ∧ w = w' := by
  unfold cutI
  by_cases h : n < 0
  · rw [if_pos h]
    go_enter Try.func46, Try.ntmps46
    go_wp2
    go_ret
    exact ⟨rfl, rfl⟩
  · rw [if_neg h]
    by_cases h' : m < n
    · rw [if_pos h']
      go_enter Try.func46, Try.ntmps46
      go_wp2
      go_ret
      exact ⟨rfl, rfl⟩
    · rw [if_neg h']
      go_enter Try.func46, Try.ntmps46
      go_wp2
      go_ret
      exact ⟨rfl, rfl⟩
theorem cutI_cap (n : Nat) : cutI (n : Int) 4503599627370496 = (capN n : Nat) := by unfold cutI capN; split <;> (try split) <;> (try split) <;> omega
theorem cutI_part (n : Int) : cutI n 2147483647 = (partN n : Nat) := by unfold cutI partN; split <;> (try split) <;> (try split) <;> (try split) <;> omega

set_option maxHeartbeats 400000 in
theorem r35_add (a : Nat) (ha : a ≤ 4503599627370496) (n : Int) (w : World) : Calls Try.prog 48 #[.int .i64 a, .int .i64 n] w fun e w' => e = .returned (.int .i64 (capN (a + partN n) : Nat)) ∧ w = w' := by
  have h1 := r35_cut n 2147483647
  rw [cutI_part] at h1
  have h2 := r35_cut ((a + partN n : Nat) : Int) 4503599627370496
  rw [cutI_cap] at h2
  rw [Int.natCast_add] at h2
  have h3 := partN_lt n
  have H1 := Lib.hid h1; have H2 := Lib.hid h2
  clear h1 h2
  generalize capN (a + partN n) = c at *
  generalize partN n = p at *
  go_enter Try.func48, Try.ntmps48
  go_wp2_with (first | (go_at_call 46; (with_reducible refine (H1.out _).mono ?_); rintro e w1 ⟨rfl, rfl⟩) | (go_at_call 46; (with_reducible refine (H2.out _).mono ?_); rintro e w1 ⟨rfl, rfl⟩))
  go_ret
  exact ⟨rfl, rfl⟩

set_option maxHeartbeats 400000 in
theorem r35_share (a b : Nat) (ha : a ≤ 4503599627370496) (hb : b ≤ 4503599627370496) (w : World) :
    Calls Try.prog 51 #[.int .i64 a, .int .i64 b] w fun e w' => e = .returned (.int .i64 (shareN a b)) ∧ w = w' := by
  by_cases h0 : a + b = 0
  · rw [show shareN a b = 0 from if_pos h0]
    obtain rfl : a = 0 := by omega
    obtain rfl : b = 0 := by omega
    go_enter Try.func51, Try.ntmps51
    go_wp2
    go_ret
    exact ⟨rfl, rfl⟩
  · have e : shareN a b = b * 1000 / (a + b) := if_neg h0
    have h1 : (((a : Nat) : Int) + ((b : Nat) : Int) == 0) = false := by simp; omega
    have h2 : ¬ ((a : Nat) : Int) + ((b : Nat) : Int) = 0 := by omega
    have h3 : 1000 * ((b : Nat) : Int) / (((a : Nat) : Int) + ((b : Nat) : Int)) = ((shareN a b : Nat) : Int) := by
      rw [e, ← Int.natCast_add, show 1000 * ((b : Nat) : Int) = ((b * 1000 : Nat) : Int) by omega]; exact (Int.natCast_ediv _ _).symm
    have h4 := shareN_le a b
    generalize shareN a b = s at *
    go_enter Try.func51, Try.ntmps51
    go_wp2
    go_ret
    exact ⟨ret_int (by rw [h3]), rfl⟩

theorem blk_set1 {w : World} {b : Nat} {c0 v0 : Value} {t : TypeId} (h : w.heap[b]? = some (.cells #[c0] t)) :
    (w.setCell ⟨b, 0, none⟩ v0).heap[b]? = some (.cells #[v0] t) := by
  simp [World.setCell, Array.getElem?_modify, h]
theorem gauge_parts' (p a b : Nat) (ha : a ≤ 4503599627370496) (hb : b ≤ 4503599627370496) (w : World) (hc : w.cell? ⟨p, 0, none⟩ = some (.complex .f64 (FL a) (FL b))) :
    Calls Try.prog 49 #[.pointer (some ⟨p, 0, none⟩)] w fun e w' => e = .returned (.tuple #[.int .i64 a, .int .i64 b]) ∧ Below w.heap.size w w' :=
  (gauge_parts p a b ha hb w hc).mono fun _ _ ⟨h, h'⟩ => ⟨h, by rw [h']; exact (by repeat (first | (with_reducible assumption) | (with_reducible exact Below.refl _ _) | (with_reducible refine Below.alloc ?_ (by first | omega | (simp; omega) | (simp; done) | (dsimp only; omega)) _) | (with_reducible refine Below.setCell ?_ (by first | omega | (simp; omega) | (simp; done) | (dsimp only; omega)) _) | (with_reducible refine Below.drew ?_) | (with_reducible refine Below.trans ?_ (Below.mono (by assumption) (by first | omega | (simp; omega) | (simp; done) | (dsimp only; omega))))))⟩
theorem gauge_share' (p a b : Nat) (ha : a ≤ 4503599627370496) (hb : b ≤ 4503599627370496) (w : World) (hc : w.cell? ⟨p, 0, none⟩ = some (.complex .f64 (FL a) (FL b))) :
    Calls Try.prog 50 #[.pointer (some ⟨p, 0, none⟩)] w fun e w' => e = .returned (.int .i64 (shareN a b)) ∧ Below w.heap.size w w' :=
  (gauge_share p a b ha hb w hc).mono fun _ _ ⟨h, h'⟩ => ⟨h, by rw [h']; exact (by repeat (first | (with_reducible assumption) | (with_reducible exact Below.refl _ _) | (with_reducible refine Below.alloc ?_ (by first | omega | (simp; omega) | (simp; done) | (dsimp only; omega)) _) | (with_reducible refine Below.setCell ?_ (by first | omega | (simp; omega) | (simp; done) | (dsimp only; omega)) _) | (with_reducible refine Below.drew ?_) | (with_reducible refine Below.trans ?_ (Below.mono (by assumption) (by first | omega | (simp; omega) | (simp; done) | (dsimp only; omega))))))⟩

def CountRel (l : List St) (N : Nat) (w : World) (va vb vi : Value) (wx : World) : Prop :=
  ∃ (k a b : Nat), k ≤ l.length ∧ va = .int .i64 a ∧ vb = .int .i64 b ∧ vi = .int .i64 k ∧ a ≤ 4503599627370496 ∧ b ≤ 4503599627370496 ∧ wx.heap[N]? = some (.cells #[.complex .f64 (FL a) (FL b)] 74) ∧ Below N w wx

set_option maxRecDepth 100000 in
set_option maxHeartbeats 4000000 in
theorem law_gaugeCounts (l : List St) (A : Option Addr) (c : Nat) (w : World) (hm : l.length ≤ 9223372036854775807) (hr : TRow w A l) :
    Calls Try.prog 12 #[.slice A l.length c] w fun e w' => e = .returned (.bool true) ∧ Below w.heap.size w w' := by
  have HL := Lib.hid law35_lives
  go_enter Try.func12, Try.ntmps12
  go_wp2_with (go_at_call 44; (with_reducible refine (gauge_new _).mono ?_); rintro e w1 ⟨rfl, rfl⟩)
  go_loopw [4, 5, 6] (fun va vb vi wx => CountRel l w.heap.size w va vb vi wx) (fun _ _ vi _ => l.length - (intOf vi).toNat)
  case atStart =>
    refine ⟨0, 0, 0, Nat.zero_le _, rfl, rfl, rfl, by omega, by omega, ?_, (by repeat (first | (with_reducible assumption) | (with_reducible exact Below.refl _ _) | (with_reducible refine Below.alloc ?_ (by first | omega | (simp; omega) | (simp; done) | (dsimp only; omega)) _) | (with_reducible refine Below.setCell ?_ (by first | omega | (simp; omega) | (simp; done) | (dsimp only; omega)) _) | (with_reducible refine Below.drew ?_) | (with_reducible refine Below.trans ?_ (Below.mono (by assumption) (by first | omega | (simp; omega) | (simp; done) | (dsimp only; omega))))))⟩
    rw [show FL 0 = 0 from if_pos rfl]
    exact al_new w _ rfl
  case round =>
    obtain ⟨k, a, b, hk, rfl, rfl, rfl, ha, hb, hs, hB⟩ := hrel
    have q0 := blk_cell hs 0
    simp only [List.getElem?_toArray, List.getElem?_cons_zero] at q0
    have f0 := blk_free hs
    have z0 := blk_lt hs
    have HS := Lib.hid hs
    clear hs
    by_cases hlt : k < l.length
    · obtain ⟨bb, oo, rfl, e0, e1, e2, hbb⟩ := hr.cell hlt
      generalize l[k] = x at *
      have y0 := (hB.cell (p := ⟨bb, oo + k * 3, none⟩) hbb).trans e0
      have y1 := (hB.cell (p := ⟨bb, oo + k * 3 + 1, none⟩) hbb).trans e1
      have y2 := (hB.cell (p := ⟨bb, oo + k * 3 + 2, none⟩) hbb).trans e2
      have zb : bb < wr.heap.size := Nat.lt_trans hbb z0
      clear e0 e1 e2
      cases ht : x.t
      · rw [ht] at y2
        go_wp2
        refine region_seqg (W := wr) [_, _, _, _, _, _, _, _, _, _, _] [_] rfl (by kernel_rfl) (by kernel_rfl) (by repeat (first | (with_reducible assumption) | (with_reducible exact Below.refl _ _) | (with_reducible refine Below.alloc ?_ (by first | omega | (simp; omega) | (simp; done) | (dsimp only; omega)) _) | (with_reducible refine Below.setCell ?_ (by first | omega | (simp; omega) | (simp; done) | (dsimp only; omega)) _) | (with_reducible refine Below.drew ?_) | (with_reducible refine Below.trans ?_ (Below.mono (by assumption) (by first | omega | (simp; omega) | (simp; done) | (dsimp only; omega)))))) (fun fin hfin => ?_)
        iterate 11
          first
            | (refine SeqG.yes (v := ?_) (A' := ?_) rfl (fun γ => by rfl) ?_ ?_ ?_
               rotate_left 2
               · intro γ w' K hS hK
                 obtain ⟨hc, hf⟩ := bcell hS
                 have hz := hS.size
                 go_simp
                 first
                   | exact hK.out _ (Below.refl _ _)
                   | trace_state
               · intro γ; simp only [Act.put, List.setIfInBounds_toArray, List.set_cons_zero, List.set_cons_succ]; exact rfl)
            | (refine SeqG.no (A' := ?_) rfl (fun γ => by rfl) ?_ ?_
               rotate_left
               · intro γ; simp only [Act.put, List.setIfInBounds_toArray, List.set_cons_zero, List.set_cons_succ]; exact rfl)
        refine SeqG.nil (hfin.out _ _ ?_)
        clear hfin fin
        intro γ lo hi w1 hB1 hF hD
        clear hD
        obtain ⟨hc1, hf1⟩ := bcell hB1
        have hz1 := hB1.size
        have HT := Lib.hid (gauge_add w.heap.size a b x.e x.k ha hb w1 ((hc1 _ _ z0).trans q0) ((hf1 _ _ z0).trans (f0 _)))
        have HA := Lib.hid (r35_add a ha x.e)
        have HBB := Lib.hid (r35_add b hb x.k)
        have ca := capN_le (a + partN x.e)
        have cb := capN_le (b + partN x.k)
        generalize capN (a + partN x.e) = a1 at *
        generalize capN (b + partN x.k) = b1 at *
        refine TailL.cons (fun K hK => ?_)
        go_simp
        go_at_call 47
        with_reducible refine (HT.out).mono ?_
        rintro e w2 ⟨rfl, rfl⟩
        refine hK.out _ _ ?_
        clear hK K
        refine TailL.nil ?_
        generalize hX : w1.setCell ⟨w.heap.size, 0, none⟩ (.complex .f64 (FL a1) (FL b1)) = X
        have HX : Below w.heap.size wr X := by rw [← hX]; exact (by repeat (first | (with_reducible assumption) | (with_reducible exact Below.refl _ _) | (with_reducible refine Below.alloc ?_ (by first | omega | (simp; omega) | (simp; done) | (dsimp only; omega)) _) | (with_reducible refine Below.setCell ?_ (by first | omega | (simp; omega) | (simp; done) | (dsimp only; omega)) _) | (with_reducible refine Below.drew ?_) | (with_reducible refine Below.trans ?_ (Below.mono (by assumption) (by first | omega | (simp; omega) | (simp; done) | (dsimp only; omega))))))
        have p0 : X.heap[w.heap.size]? = some (.cells #[.complex .f64 (FL a1) (FL b1)] 74) := by
          rw [← hX]; refine blk_set1 (c0 := .complex .f64 (FL a) (FL b)) ?_; rw [hB1.block _ z0]; exact HS.out
        clear hX HT hF hc1 hf1 hB1
        replace y0 := (HX.cell (p := ⟨bb, oo + k * 3, none⟩) hbb).trans y0
        replace y1 := (HX.cell (p := ⟨bb, oo + k * 3 + 1, none⟩) hbb).trans y1
        replace y2 := (HX.cell (p := ⟨bb, oo + k * 3 + 2, none⟩) hbb).trans y2
        replace q0 := blk_cell p0 0
        replace f0 := blk_free p0
        replace z0 := blk_lt p0
        simp only [List.getElem?_toArray, List.getElem?_cons_zero] at q0
        replace zb : bb < X.heap.size := Nat.lt_trans hbb z0
        replace hB := hB.trans HX
        have P0 := Lib.hid p0
        clear p0 HS HX hz1 w1
        go_wp2
        refine region_seq (S := fun w' => Below X.heap.size X w') rfl (by kernel_rfl) (by kernel_rfl) (by repeat (first | (with_reducible assumption) | (with_reducible exact Below.refl _ _) | (with_reducible refine Below.alloc ?_ (by first | omega | (simp; omega) | (simp; done) | (dsimp only; omega)) _) | (with_reducible refine Below.setCell ?_ (by first | omega | (simp; omega) | (simp; done) | (dsimp only; omega)) _) | (with_reducible refine Below.drew ?_) | (with_reducible refine Below.trans ?_ (Below.mono (by assumption) (by first | omega | (simp; omega) | (simp; done) | (dsimp only; omega)))))) (fun fin hfin => ?_)
        iterate 16
          first
            | (refine SeqL.yes (v := ?_) (A' := ?_) rfl (by rfl) ?_ ?_ ?_
               rotate_left 2
               · intro w' K hS hK
                 obtain ⟨hc, hf⟩ := bcell hS
                 have hz := hS.size
                 go_simp
                 first
                   | exact hK.out _ hS
                   | (go_at_call 48; (with_reducible refine (HA.out _).mono ?_); rintro e w1 ⟨rfl, rfl⟩; exact hK.out _ hS)
                   | (go_at_call 48; (with_reducible refine (HBB.out _).mono ?_); rintro e w1 ⟨rfl, rfl⟩; exact hK.out _ hS)
                   | trace_state
               · simp only [Act.put, List.setIfInBounds_toArray, List.set_cons_zero, List.set_cons_succ]; exact rfl)
            | (refine SeqL.no (A' := ?_) rfl (by rfl) ?_ ?_
               rotate_left
               · simp only [Act.put, List.setIfInBounds_toArray, List.set_cons_zero, List.set_cons_succ]; exact rfl)
        refine SeqL.nil (hfin.out _ ?_)
        clear hfin fin
        intro w1 hS1
        obtain ⟨hc1, hf1⟩ := bcell hS1
        have HP := Lib.hid (gauge_parts' w.heap.size a1 b1 ca cb w1 ((hc1 _ _ z0).trans q0))
        have HSH := Lib.hid (r35_share a1 b1 ca cb)
        have z1 : w.heap.size < w1.heap.size := Nat.lt_of_lt_of_le z0 hS1.size
        have q1 := (hc1 _ 0 z0).trans q0
        have HG : Hid (∀ w2, Below w1.heap.size w1 w2 → Calls Try.prog 50 #[.pointer (some ⟨w.heap.size, 0, none⟩)] w2 fun e w' => e = .returned (.int .i64 (shareN a1 b1)) ∧ Below w2.heap.size w2 w') :=
          Lib.hid (fun w2 h2 => gauge_share' w.heap.size a1 b1 ca cb w2 ((h2.cell (p := ⟨w.heap.size, 0, none⟩) z1).trans q1))
        generalize shareN a1 b1 = sh at *
        go_wp2_with (first | (go_at_call 49; (with_reducible refine (HP.out).mono ?_); rintro e w2 ⟨rfl, hb2⟩; obtain ⟨hc2, hf2⟩ := bcell hb2; have hz2 := hb2.size; (try simp at hz2); (try have hy2 := Nat.lt_of_succ_le hz2); (try have hv2 := Nat.lt_of_succ_lt hy2); (try have hw20 : w.heap.size < w2.heap.size := by omega); (try have hw21 : w.heap.size + 1 < w2.heap.size := by omega); (try have hw22 : w.heap.size + 1 + 1 < w2.heap.size := by omega); (try have hw23 : w.heap.size + 1 + 1 + 1 < w2.heap.size := by omega)) | (go_at_call 50; (with_reducible refine (HG.out _ hb2).mono ?_); rintro e w3 ⟨rfl, hb3⟩; obtain ⟨hc3, hf3⟩ := bcell hb3; have hz3 := hb3.size; (try simp at hz3); (try have hy3 := Nat.lt_of_succ_le hz3); (try have hv3 := Nat.lt_of_succ_lt hy3); (try have hw30 : w.heap.size < w3.heap.size := by omega); (try have hw31 : w.heap.size + 1 < w3.heap.size := by omega); (try have hw32 : w.heap.size + 1 + 1 < w3.heap.size := by omega); (try have hw33 : w.heap.size + 1 + 1 + 1 < w3.heap.size := by omega)) | (go_at_call 51; (with_reducible refine (HSH.out _).mono ?_); rintro e w4 ⟨rfl, rfl⟩))
        go_roundw
        case rel =>
          refine ⟨k + 1, a1, b1, by omega, rfl, rfl, by go_num, ca, cb, ?_, (by repeat (first | (with_reducible assumption) | (with_reducible exact Below.refl _ _) | (with_reducible refine Below.alloc ?_ (by first | omega | (simp; omega) | (simp; done) | (dsimp only; omega)) _) | (with_reducible refine Below.setCell ?_ (by first | omega | (simp; omega) | (simp; done) | (dsimp only; omega)) _) | (with_reducible refine Below.drew ?_) | (with_reducible refine Below.trans ?_ (Below.mono (by assumption) (by first | omega | (simp; omega) | (simp; done) | (dsimp only; omega))))))⟩
          rw [hb3.block _ (by omega), hb2.block _ (by omega), hS1.block _ z0]; exact P0.out
        case measure => simp [intOf]; omega
      · rw [ht] at y2
        have HT := Lib.hid (gauge_join w.heap.size w.heap.size a b a b ha hb ha hb wr q0 q0 (f0 _))
        have ha2 := r35_cut ((a + a : Nat) : Int) 4503599627370496
        have hb2 := r35_cut ((b + b : Nat) : Int) 4503599627370496
        rw [cutI_cap, Int.natCast_add] at ha2 hb2
        have HA := Lib.hid ha2
        have HBB := Lib.hid hb2
        clear ha2 hb2
        have ca := capN_le (a + a)
        have cb := capN_le (b + b)
        generalize capN (a + a) = a1 at *
        generalize capN (b + b) = b1 at *
        go_wp2_with (go_at_call 45; (with_reducible refine (HT.out).mono ?_); rintro e w2 ⟨rfl, rfl⟩)
        generalize hX : wr.setCell ⟨w.heap.size, 0, none⟩ (.complex .f64 (FL a1) (FL b1)) = X
        have HX : Below w.heap.size wr X := by rw [← hX]; exact (by repeat (first | (with_reducible assumption) | (with_reducible exact Below.refl _ _) | (with_reducible refine Below.alloc ?_ (by first | omega | (simp; omega) | (simp; done) | (dsimp only; omega)) _) | (with_reducible refine Below.setCell ?_ (by first | omega | (simp; omega) | (simp; done) | (dsimp only; omega)) _) | (with_reducible refine Below.drew ?_) | (with_reducible refine Below.trans ?_ (Below.mono (by assumption) (by first | omega | (simp; omega) | (simp; done) | (dsimp only; omega))))))
        have p0 : X.heap[w.heap.size]? = some (.cells #[.complex .f64 (FL a1) (FL b1)] 74) := by
          rw [← hX]; refine blk_set1 (c0 := .complex .f64 (FL a) (FL b)) ?_; exact HS.out
        clear hX HT
        replace y0 := (HX.cell (p := ⟨bb, oo + k * 3, none⟩) hbb).trans y0
        replace y1 := (HX.cell (p := ⟨bb, oo + k * 3 + 1, none⟩) hbb).trans y1
        replace y2 := (HX.cell (p := ⟨bb, oo + k * 3 + 2, none⟩) hbb).trans y2
        replace q0 := blk_cell p0 0
        replace f0 := blk_free p0
        replace z0 := blk_lt p0
        simp only [List.getElem?_toArray, List.getElem?_cons_zero] at q0
        replace zb : bb < X.heap.size := Nat.lt_trans hbb z0
        replace hB := hB.trans HX
        have P0 := Lib.hid p0
        clear p0 HS HX
        have HP := Lib.hid (gauge_parts' w.heap.size a1 b1 ca cb X q0)
        have HSH := Lib.hid (r35_share a1 b1 ca cb)
        have HG : Hid (∀ w2, Below X.heap.size X w2 → Calls Try.prog 50 #[.pointer (some ⟨w.heap.size, 0, none⟩)] w2 fun e w' => e = .returned (.int .i64 (shareN a1 b1)) ∧ Below w2.heap.size w2 w') :=
          Lib.hid (fun w2 h2 => gauge_share' w.heap.size a1 b1 ca cb w2 ((h2.cell (p := ⟨w.heap.size, 0, none⟩) z0).trans q0))
        generalize shareN a1 b1 = sh at *
        go_wp2_with (first | (go_at_call 46; (with_reducible refine (HA.out _).mono ?_); rintro e w4 ⟨rfl, rfl⟩) | (go_at_call 46; (with_reducible refine (HBB.out _).mono ?_); rintro e w4 ⟨rfl, rfl⟩) | (go_at_call 49; (with_reducible refine (HP.out).mono ?_); rintro e w2 ⟨rfl, hb2⟩; obtain ⟨hc2, hf2⟩ := bcell hb2; have hz2 := hb2.size; (try simp at hz2); (try have hy2 := Nat.lt_of_succ_le hz2); (try have hv2 := Nat.lt_of_succ_lt hy2); (try have hw20 : w.heap.size < w2.heap.size := by omega); (try have hw21 : w.heap.size + 1 < w2.heap.size := by omega); (try have hw22 : w.heap.size + 1 + 1 < w2.heap.size := by omega); (try have hw23 : w.heap.size + 1 + 1 + 1 < w2.heap.size := by omega)) | (go_at_call 50; (with_reducible refine (HG.out _ hb2).mono ?_); rintro e w3 ⟨rfl, hb3⟩; obtain ⟨hc3, hf3⟩ := bcell hb3; have hz3 := hb3.size; (try simp at hz3); (try have hy3 := Nat.lt_of_succ_le hz3); (try have hv3 := Nat.lt_of_succ_lt hy3); (try have hw30 : w.heap.size < w3.heap.size := by omega); (try have hw31 : w.heap.size + 1 < w3.heap.size := by omega); (try have hw32 : w.heap.size + 1 + 1 < w3.heap.size := by omega); (try have hw33 : w.heap.size + 1 + 1 + 1 < w3.heap.size := by omega)) | (go_at_call 51; (with_reducible refine (HSH.out _).mono ?_); rintro e w4 ⟨rfl, rfl⟩))
        go_roundw
        case rel =>
          refine ⟨k + 1, a1, b1, by omega, rfl, rfl, by go_num, ca, cb, ?_, (by repeat (first | (with_reducible assumption) | (with_reducible exact Below.refl _ _) | (with_reducible refine Below.alloc ?_ (by first | omega | (simp; omega) | (simp; done) | (dsimp only; omega)) _) | (with_reducible refine Below.setCell ?_ (by first | omega | (simp; omega) | (simp; done) | (dsimp only; omega)) _) | (with_reducible refine Below.drew ?_) | (with_reducible refine Below.trans ?_ (Below.mono (by assumption) (by first | omega | (simp; omega) | (simp; done) | (dsimp only; omega))))))⟩
          rw [hb3.block _ (by omega), hb2.block _ z0]; exact P0.out
        case measure => simp [intOf]; omega
    · go_wp2_with (go_at_call 52; (with_reducible refine (HL.out _).mono ?_); rintro e w1 ⟨rfl, hb1⟩; obtain ⟨hc1, hf1⟩ := bcell hb1; have hz1 := hb1.size; (try simp at hz1); (try have hy1 := Nat.lt_of_succ_le hz1); (try have hv1 := Nat.lt_of_succ_lt hy1); (try have hw10 : w.heap.size < w1.heap.size := by omega); (try have hw11 : w.heap.size + 1 < w1.heap.size := by omega); (try have hw12 : w.heap.size + 1 + 1 < w1.heap.size := by omega); (try have hw13 : w.heap.size + 1 + 1 + 1 < w1.heap.size := by omega))
      go_ret
      exact ⟨rfl, (by repeat (first | (with_reducible assumption) | (with_reducible exact Below.refl _ _) | (with_reducible refine Below.alloc ?_ (by first | omega | (simp; omega) | (simp; done) | (dsimp only; omega)) _) | (with_reducible refine Below.setCell ?_ (by first | omega | (simp; omega) | (simp; done) | (dsimp only; omega)) _) | (with_reducible refine Below.drew ?_) | (with_reducible refine Below.trans ?_ (Below.mono (by assumption) (by first | omega | (simp; omega) | (simp; done) | (dsimp only; omega))))))⟩
end Go.Proofs.Ytphicgdllhmgdaa
