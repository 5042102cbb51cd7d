/- X-PARTIAL Numbers as tokens: layer 10. -/
import Derived.Test.YtgaecojdebpcgaaDoorTokH
namespace Go.Proofs.YtgaecojdebpcgaaDoor
open Go.RowKit Go.Lib

/-- The variable that strconv.Atoi's error holds. -/
def RV (w : World) : Prop := ∃ tp p, w.var? Tryd.prog "strconv.ErrRange" = some #[.iface tp p]
theorem RV.mono {w w' : World} (h : RV w) (hb : Below w.heap.size w w') : RV w' := by
  obtain ⟨tp, p, h⟩ := h
  exact ⟨tp, p, Go.Joins.var_stays (g := 2) (by kernel_rfl) h hb (Nat.le_refl _)⟩

theorem atoi_low (d : Str) (w : World) (hd : Digits d) (hn : d ≠ []) (hm : d.length ≤ 281474976710656) (h : numV 0 d ≤ 9223372036854775807) :
    Calls Tryd.prog 33 #[encStr d] w fun e w' => e = .returned (.tuple #[.int .i64 (numV 0 d), .nilIface]) ∧ Below w.heap.size w w' :=
  strconv_Atoi_ok ⟨d.toArray⟩ w _ (by rw [mk_size]; omega) (by rw [show (⟨d.toArray⟩ : ByteArray).data.toList = d by simp, atoi_is hd hn, if_pos h])
theorem atoi_high (d : Str) (w : World) (hd : Digits d) (hn : d ≠ []) (hm : d.length ≤ 281474976710656) (h : ¬ numV 0 d ≤ 9223372036854775807) (hv : RV w) :
    Calls Tryd.prog 33 #[encStr d] w fun e w' => (∃ x t q, e = .returned (.tuple #[.int .i64 x, .iface t q])) ∧ Below w.heap.size w w' := by
  obtain ⟨tp, p, hv⟩ := hv
  exact strconv_Atoi_range ⟨d.toArray⟩ w (by rw [mk_size]; omega) (by rw [show (⟨d.toArray⟩ : ByteArray).data.toList = d by simp, atoi_is hd hn, if_neg h]) tp p hv

/-- What digits d are as a token, with which a text begins that has q letters and digits; and what is wrong. -/
def numT (q : Nat) (d : Str) : Value :=
  if (d.head? = some 48 ∧ 1 < d.length) ∨ d.length < q then .tuple #[.agg #[.int .i64 0, encStr [], .int .i64 0, .int .i64 0], .int .i64 3]
  else if numV 0 d ≤ 9223372036854775807 then .tuple #[.agg #[.int .i64 2, encStr d, .int .i64 (numV 0 d), .int .i64 0], .int .i64 0]
  else .tuple #[.agg #[.int .i64 0, encStr [], .int .i64 0, .int .i64 0], .int .i64 4]

set_option maxHeartbeats 2000000 in
theorem token_number (t d : Str) (w : World) (hd : Digits d) (hn : d ≠ []) (hm : d.length ≤ 281474976710656) (hv : RV w) :
    Calls Tryd.prog 26 #[encStr t, encStr d] w fun e w' => e = .returned (numT (pre 2 3 t).length d) ∧ Below w.heap.size w w' := by
  have HP := Lib.hid (token_prefix t 2 3 · (by decide) (by decide))
  have hpos : 0 < d.length := List.length_pos_iff.2 hn
  have hg0 := mk_get d 0 hpos
  have hh : d.head? = some d[0] := by cases d with | nil => exact absurd rfl hn | cons x l => rfl
  have hT : numT (pre 2 3 t).length d = if (((d[0].toNat : Int) == 48) = true ∧ 1 < d.length) ∨ d.length < (pre 2 3 t).length then .tuple #[.agg #[.int .i64 0, encStr [], .int .i64 0, .int .i64 0], .int .i64 3]
      else if numV 0 d ≤ 9223372036854775807 then .tuple #[.agg #[.int .i64 2, encStr d, .int .i64 (numV 0 d), .int .i64 0], .int .i64 0]
      else .tuple #[.agg #[.int .i64 0, encStr [], .int .i64 0, .int .i64 0], .int .i64 4] := by
    unfold numT
    congr 3
    rw [hh, beq_iff_eq, Option.some.injEq, eq_iff_iff]
    constructor
    · intro e; rw [e]; rfl
    · intro e; exact UInt8.toNat_inj.1 (show d[0].toNat = 48 by omega)
  rw [hT]
  clear hT hh
  have HL := Lib.hid (fun w' => atoi_low d w' hd hn hm)
  have HH := Lib.hid (fun w' => atoi_high d w' hd hn hm)
  clear hd hn hm
  generalize pre 2 3 t = q at *
  generalize numV 0 d = v at *
  generalize d[0] = c at *
  generalize hb : ((c.toNat : Int) == 48) = b at *
  have hv1 : RV (w.alloc (.cells #[.int .i64 0, encStr [], .int .i64 0, .int .i64 0] 37)) := hv.mono ((Below.refl _ _).alloc (Nat.le_refl _) _)
  by_cases h1 : b = true ∧ 1 < d.length
  · rw [if_pos (Or.inl h1)]
    obtain ⟨rfl, h1⟩ := h1
    have i1 : decide ((1 : Int) < d.length) = true := decide_eq_true (by omega)
    go_enter Tryd.func26, Tryd.ntmps26
    go_wp2_with fail
    refine bodyPost_ret (by simp [results, Tryd.results26, go_sem, *] <;> rfl) rfl ⟨rfl, (by repeat (first | (with_reducible assumption) | (with_reducible exact Below.refl _ _) | (with_reducible refine Below.alloc ?_ (by first | omega | (simp; omega) | (simp; done) | (dsimp only; omega)) _) | (with_reducible refine Below.setCell ?_ (by first | omega | (simp; omega) | (simp; done) | (dsimp only; omega)) _) | (with_reducible refine Below.drew ?_) | (with_reducible refine Below.trans ?_ (Below.mono (by assumption) (by first | omega | (simp; omega) | (simp; done) | (dsimp only; omega))))))⟩
  · have hi : decide ((1 : Int) < d.length) = false ∨ decide ((1 : Int) < d.length) = true ∧ b = false := by
      by_cases h : 1 < d.length
      · right; exact ⟨decide_eq_true (by omega), by cases b; rfl; exact absurd ⟨rfl, h⟩ h1⟩
      · left; exact decide_eq_false (by omega)
    by_cases h2 : d.length < q.length
    · rw [if_pos (Or.inr h2)]
      clear h1
      have i2 : decide ((d.length : Int) < q.length) = true := decide_eq_true (by omega)
      rcases hi with hi | ⟨hi, rfl⟩
      all_goals
        go_enter Tryd.func26, Tryd.ntmps26
        go_wp2_with fail
        go_at_call 19
        refine (HP.out _).mono ?_
        rintro e w1 ⟨rfl, hb1⟩
        have k1 := (hb1.block w.heap.size (by simp)).trans (al_new w _ rfl)
        have g1 := blk_cell k1
        have f1 := blk_free k1
        have hbw : Below w.heap.size w w1 := ((Below.refl _ w).alloc (Nat.le_refl _) _).trans (hb1.mono (by simp))
        clear hb1 k1
        go_wp2_with fail
        refine bodyPost_ret (by simp [results, Tryd.results26, go_sem, *] <;> rfl) rfl ⟨rfl, (by repeat (first | (with_reducible assumption) | (with_reducible exact Below.refl _ _) | (with_reducible refine Below.alloc ?_ (by first | omega | (simp; omega) | (simp; done) | (dsimp only; omega)) _) | (with_reducible refine Below.setCell ?_ (by first | omega | (simp; omega) | (simp; done) | (dsimp only; omega)) _) | (with_reducible refine Below.drew ?_) | (with_reducible refine Below.trans ?_ (Below.mono (by assumption) (by first | omega | (simp; omega) | (simp; done) | (dsimp only; omega))))))⟩
    · rw [if_neg (by rintro (h | h); exact h1 h; exact h2 h)]
      have i2 : decide ((d.length : Int) < q.length) = false := decide_eq_false (by omega)
      clear h1
      by_cases h3 : v ≤ 9223372036854775807
      · rw [if_pos h3]
        have HL2 := Lib.hid (fun w' => HL.out w' h3)
        clear HL HH
        rcases hi with hi | ⟨hi, rfl⟩
        all_goals
          go_enter Tryd.func26, Tryd.ntmps26
          go_wp2_with fail
          go_at_call 19
          refine (HP.out _).mono ?_
          rintro e w1 ⟨rfl, hb1⟩
          have k1 := (hb1.block w.heap.size (by simp)).trans (al_new w _ rfl)
          have hbw : Below w.heap.size w w1 := ((Below.refl _ w).alloc (Nat.le_refl _) _).trans (hb1.mono (by simp))
          clear hb1
          go_wp2_with fail
          go_at_call 33
          refine (HL2.out _).mono ?_
          rintro e w2 ⟨rfl, hb2⟩
          have k2 := (hb2.block w.heap.size (blk_lt k1)).trans k1
          have g2 := blk_cell k2
          have f2 := blk_free k2
          have hbw2 := hbw.trans (hb2.mono hbw.size)
          clear hb2 k1 k2 hbw
          go_wp2_with fail
          refine bodyPost_ret (by simp [results, Tryd.results26, go_sem, *] <;> rfl) rfl ⟨rfl, (by repeat (first | (with_reducible assumption) | (with_reducible exact Below.refl _ _) | (with_reducible refine Below.alloc ?_ (by first | omega | (simp; omega) | (simp; done) | (dsimp only; omega)) _) | (with_reducible refine Below.setCell ?_ (by first | omega | (simp; omega) | (simp; done) | (dsimp only; omega)) _) | (with_reducible refine Below.drew ?_) | (with_reducible refine Below.trans ?_ (Below.mono (by assumption) (by first | omega | (simp; omega) | (simp; done) | (dsimp only; omega))))))⟩
      · rw [if_neg h3]
        have HH2 := Lib.hid (fun w' => HH.out w' h3)
        clear HL HH
        rcases hi with hi | ⟨hi, rfl⟩
        all_goals
          go_enter Tryd.func26, Tryd.ntmps26
          go_wp2_with fail
          go_at_call 19
          refine (HP.out _).mono ?_
          rintro e w1 ⟨rfl, hb1⟩
          have k1 := (hb1.block w.heap.size (by simp)).trans (al_new w _ rfl)
          have hbw : Below w.heap.size w w1 := ((Below.refl _ w).alloc (Nat.le_refl _) _).trans (hb1.mono (by simp))
          have hv2 := hv1.mono hb1
          clear hb1
          go_wp2_with fail
          go_at_call 33
          refine (HH2.out _ hv2).mono ?_
          rintro e w2 ⟨⟨x0, t0, q0, rfl⟩, hb2⟩
          have k2 := (hb2.block w.heap.size (blk_lt k1)).trans k1
          have g2 := blk_cell k2
          have f2 := blk_free k2
          have hbw2 := hbw.trans (hb2.mono hbw.size)
          clear hb2 k1 k2 hbw
          go_wp2_with fail
          refine bodyPost_ret (by simp [results, Tryd.results26, go_sem, *] <;> rfl) rfl ⟨rfl, (by repeat (first | (with_reducible assumption) | (with_reducible exact Below.refl _ _) | (with_reducible refine Below.alloc ?_ (by first | omega | (simp; omega) | (simp; done) | (dsimp only; omega)) _) | (with_reducible refine Below.setCell ?_ (by first | omega | (simp; omega) | (simp; done) | (dsimp only; omega)) _) | (with_reducible refine Below.drew ?_) | (with_reducible refine Below.trans ?_ (Below.mono (by assumption) (by first | omega | (simp; omega) | (simp; done) | (dsimp only; omega))))))⟩
end Go.Proofs.YtgaecojdebpcgaaDoor
