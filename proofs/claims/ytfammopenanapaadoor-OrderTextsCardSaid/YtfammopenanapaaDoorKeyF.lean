/- X-PARTIAL Reading keys: layer 26. -/
import Derived.Test.YtfammopenanapaaDoorKeyE
import Derived.Test.YtfammopenanapaaDoorTokI
namespace Go.Proofs.YtfammopenanapaaDoor
open Go.RowKit Go.Lib

theorem isNum_digits {s : Str} (h : isNum s = true) : Digits s ∧ s ≠ [] := by
  unfold isNum at h
  rw [Bool.and_eq_true] at h
  refine ⟨fun c hc => isDg_nat.1 ((List.all_eq_true.1 h.1) c hc), fun e => ?_⟩
  subst e
  exact absurd h.2 (by decide)
theorem behind_len (s : Str) : (behind s).length ≤ s.length := by unfold behind; rw [List.length_drop]; omega
theorem dotted_false {s : Str} (h : dotted s = false) : (ahead s).length = s.length ∧ ahead s = s := by
  have e : (ahead s).length = s.length := by
    unfold dotted at h
    rw [Bool.not_eq_false'] at h
    exact of_decide_eq_true h
  exact ⟨e, by rw [← ahead_take, e, List.take_length]⟩
theorem dotted_true {s : Str} (h : dotted s = true) : ¬ (ahead s).length = s.length := by
  unfold dotted at h
  rw [Bool.not_eq_true'] at h
  exact of_decide_eq_false h

set_option maxRecDepth 1000000 in
set_option maxHeartbeats 4000000 in
theorem key_Read (s : Str) (w : World) (hm : s.length ≤ 281474976710656) (hv : RV w) :
    Calls Tryd.prog 38 #[encStr s] w fun e w' => e = .returned (.tuple #[.agg #[encStr (readK s).1.n, .int .i64 (readK s).1.d], .int .i64 (readK s).2]) ∧ Below w.heap.size w w' := by
  have HC := Lib.hid (fun w' => strings_CutDot s w' (by omega))
  have HN := Lib.hid (token_Name (ahead s))
  have k0 : (w.alloc (.cells #[encStr [], .int .i64 0] 52)).heap[w.heap.size]? = some (.cells #[encStr [], .int .i64 0] 52) := al_new w _ rfl
  have hb0 : Below w.heap.size w (w.alloc (.cells #[encStr [], .int .i64 0] 52)) := (Below.refl _ w).alloc (Nat.le_refl _) _
  have hv0 := hv.mono hb0
  cases hN : isName (ahead s) with
  | false =>
    have hF : readK s = (⟨[], 0⟩, 3) := by unfold readK; rw [if_pos hN]
    rw [hF]
    rw [hN] at HN
    clear hF hN hv hv0
    generalize ahead s = a at *
    generalize behind s = b at *
    generalize dotted s = dt at *
    go_enter Tryd.func38, Tryd.ntmps38
    go_wp2_with fail
    go_at_call 13
    refine (HC.out _).mono ?_
    rintro e w1 ⟨rfl, hb1⟩
    have k1 := (hb1.block w.heap.size (blk_lt k0)).trans k0
    have hc1 := hb0.trans (hb1.mono hb0.size)
    clear hb1 k0 hb0 HC
    go_wp2_with fail
    go_at_call 37
    refine (HN.out _).mono ?_
    rintro e w2 ⟨rfl, hb2⟩
    have k2 := (hb2.block w.heap.size (blk_lt k1)).trans k1
    have hc2 := hc1.trans (hb2.mono hc1.size)
    have g2 := blk_cell k2
    have f2 := blk_free k2
    clear hb2 k1 k2 hc1 HN
    go_wp2_with fail
    refine bodyPost_ret (by simp [results, Tryd.results38, go_sem, *] <;> rfl) rfl ⟨rfl, (by repeat (first | (with_reducible assumption) | (with_reducible exact Below.refl _ _) | (with_reducible refine Below.alloc ?_ (by first | omega | (simp; omega) | (simp; done) | (dsimp only; omega)) _) | (with_reducible refine Below.setCell ?_ (by first | omega | (simp; omega) | (simp; done) | (dsimp only; omega)) _) | (with_reducible refine Below.drew ?_) | (with_reducible refine Below.trans ?_ (Below.mono (by assumption) (by first | omega | (simp; omega) | (simp; done) | (dsimp only; omega))))))⟩
  | true =>
    rw [hN] at HN
    cases hd : dotted s with
    | false =>
      obtain ⟨e1, e2⟩ := dotted_false hd
      have hF : readK s = (⟨s, -1⟩, 0) := by unfold readK; rw [if_neg (by rw [hN]; decide), if_pos e1]
      rw [hF]
      rw [e2, hd] at HC
      rw [e2] at HN
      have HOf := Lib.hid (key_Of s)
      clear hF hN hv hv0 e1 e2 hd
      generalize behind s = b at *
      go_enter Tryd.func38, Tryd.ntmps38
      go_wp2_with fail
      go_at_call 13
      refine (HC.out _).mono ?_
      rintro e w1 ⟨rfl, hb1⟩
      have k1 := (hb1.block w.heap.size (blk_lt k0)).trans k0
      have hc1 := hb0.trans (hb1.mono hb0.size)
      clear hb1 k0 hb0 HC
      go_wp2_with fail
      go_at_call 37
      refine (HN.out _).mono ?_
      rintro e w2 ⟨rfl, hb2⟩
      have k2 := (hb2.block w.heap.size (blk_lt k1)).trans k1
      have hc2 := hc1.trans (hb2.mono hc1.size)
      clear hb2 k1 hc1 HN
      go_wp2_with fail
      go_at_call 51
      refine (HOf.out _).mono ?_
      rintro e w3 ⟨rfl, hb3⟩
      have k3 := (hb3.block w.heap.size (blk_lt k2)).trans k2
      have hc3 := hc2.trans (hb3.mono hc2.size)
      have g3 := blk_cell k3
      have f3 := blk_free k3
      clear hb3 k2 k3 hc2 HOf
      go_wp2_with fail
      refine bodyPost_ret (by simp [results, Tryd.results38, go_sem, *] <;> rfl) rfl ⟨rfl, (by repeat (first | (with_reducible assumption) | (with_reducible exact Below.refl _ _) | (with_reducible refine Below.alloc ?_ (by first | omega | (simp; omega) | (simp; done) | (dsimp only; omega)) _) | (with_reducible refine Below.setCell ?_ (by first | omega | (simp; omega) | (simp; done) | (dsimp only; omega)) _) | (with_reducible refine Below.drew ?_) | (with_reducible refine Below.trans ?_ (Below.mono (by assumption) (by first | omega | (simp; omega) | (simp; done) | (dsimp only; omega))))))⟩
    | true =>
      have e1 := dotted_true hd
      rw [hd] at HC
      have hR : readK s = if isNum (behind s) = false then (⟨[], 0⟩, 3) else if numV 0 (behind s) ≤ 9223372036854775807 then (⟨ahead s, numV 0 (behind s)⟩, 0) else (⟨[], 0⟩, 4) := by
        unfold readK behind
        rw [if_neg (by rw [hN]; decide), if_neg e1]
      have hbl := behind_len s
      have HM := Lib.hid (fun w' => key_number (behind s) w' (by omega))
      rw [hR]
      clear hR e1 hd hN hv
      cases hn : isNum (behind s) with
      | false =>
        rw [if_pos rfl]
        rw [hn] at HM
        clear hn hbl hm hv0
        generalize ahead s = a at *
        generalize behind s = b at *
        go_enter Tryd.func38, Tryd.ntmps38
        go_wp2_with fail
        go_at_call 13
        refine (HC.out _).mono ?_
        rintro e w1 ⟨rfl, hb1⟩
        have k1 := (hb1.block w.heap.size (blk_lt k0)).trans k0
        have hc1 := hb0.trans (hb1.mono hb0.size)
        clear hb1 k0 hb0 HC
        go_wp2_with fail
        go_at_call 37
        refine (HN.out _).mono ?_
        rintro e w2 ⟨rfl, hb2⟩
        have k2 := (hb2.block w.heap.size (blk_lt k1)).trans k1
        have hc2 := hc1.trans (hb2.mono hc1.size)
        clear hb2 k1 hc1 HN
        go_wp2_with fail
        go_at_call 52
        refine (HM.out _).mono ?_
        rintro e w3 ⟨rfl, rfl⟩
        have g3 := blk_cell k2
        have f3 := blk_free k2
        clear k2 HM
        go_wp2_with fail
        refine bodyPost_ret (by simp [results, Tryd.results38, go_sem, *] <;> rfl) rfl ⟨rfl, (by repeat (first | (with_reducible assumption) | (with_reducible exact Below.refl _ _) | (with_reducible refine Below.alloc ?_ (by first | omega | (simp; omega) | (simp; done) | (dsimp only; omega)) _) | (with_reducible refine Below.setCell ?_ (by first | omega | (simp; omega) | (simp; done) | (dsimp only; omega)) _) | (with_reducible refine Below.drew ?_) | (with_reducible refine Below.trans ?_ (Below.mono (by assumption) (by first | omega | (simp; omega) | (simp; done) | (dsimp only; omega))))))⟩
      | true =>
        rw [if_neg (by decide)]
        rw [hn] at HM
        obtain ⟨hdg, hne⟩ := isNum_digits hn
        by_cases hV : numV 0 (behind s) ≤ 9223372036854775807
        · rw [if_pos hV]
          have HA := Lib.hid (fun w' => atoi_low (behind s) w' hdg hne (by omega) hV)
          clear hn hbl hm hv0 hdg hne hV
          generalize numV 0 (behind s) = v at *
          generalize ahead s = a at *
          generalize behind s = b at *
          go_enter Tryd.func38, Tryd.ntmps38
          go_wp2_with fail
          go_at_call 13
          refine (HC.out _).mono ?_
          rintro e w1 ⟨rfl, hb1⟩
          have k1 := (hb1.block w.heap.size (blk_lt k0)).trans k0
          have hc1 := hb0.trans (hb1.mono hb0.size)
          clear hb1 k0 hb0 HC
          go_wp2_with fail
          go_at_call 37
          refine (HN.out _).mono ?_
          rintro e w2 ⟨rfl, hb2⟩
          have k2 := (hb2.block w.heap.size (blk_lt k1)).trans k1
          have hc2 := hc1.trans (hb2.mono hc1.size)
          clear hb2 k1 hc1 HN
          go_wp2_with fail
          go_at_call 52
          refine (HM.out _).mono ?_
          rintro e w3 ⟨rfl, rfl⟩
          clear HM
          go_wp2_with fail
          go_at_call 53
          refine (HA.out _).mono ?_
          rintro e w4 ⟨rfl, hb4⟩
          have k4 := (hb4.block w.heap.size (blk_lt k2)).trans k2
          have hc4 := hc2.trans (hb4.mono hc2.size)
          have g3 := blk_cell k4
          have f3 := blk_free k4
          clear k2 k4 hb4 hc2 HA
          go_wp2_with fail
          refine bodyPost_ret (by simp [results, Tryd.results38, go_sem, *] <;> rfl) rfl ⟨rfl, (by repeat (first | (with_reducible assumption) | (with_reducible exact Below.refl _ _) | (with_reducible refine Below.alloc ?_ (by first | omega | (simp; omega) | (simp; done) | (dsimp only; omega)) _) | (with_reducible refine Below.setCell ?_ (by first | omega | (simp; omega) | (simp; done) | (dsimp only; omega)) _) | (with_reducible refine Below.drew ?_) | (with_reducible refine Below.trans ?_ (Below.mono (by assumption) (by first | omega | (simp; omega) | (simp; done) | (dsimp only; omega))))))⟩
        · rw [if_neg hV]
          have HA := Lib.hid (fun w' hv' => atoi_high (behind s) w' hdg hne (by omega) hV hv')
          clear hn hbl hm hdg hne hV
          generalize ahead s = a at *
          generalize behind s = b at *
          go_enter Tryd.func38, Tryd.ntmps38
          go_wp2_with fail
          go_at_call 13
          refine (HC.out _).mono ?_
          rintro e w1 ⟨rfl, hb1⟩
          have k1 := (hb1.block w.heap.size (blk_lt k0)).trans k0
          have hc1 := hb0.trans (hb1.mono hb0.size)
          have hv1 := hv0.mono hb1
          clear hb1 k0 hb0 HC hv0
          go_wp2_with fail
          go_at_call 37
          refine (HN.out _).mono ?_
          rintro e w2 ⟨rfl, hb2⟩
          have k2 := (hb2.block w.heap.size (blk_lt k1)).trans k1
          have hc2 := hc1.trans (hb2.mono hc1.size)
          have hv2 := hv1.mono hb2
          clear hb2 k1 hc1 HN hv1
          go_wp2_with fail
          go_at_call 52
          refine (HM.out _).mono ?_
          rintro e w3 ⟨rfl, rfl⟩
          clear HM
          go_wp2_with fail
          go_at_call 53
          refine (HA.out _ hv2).mono ?_
          rintro e w4 ⟨⟨x, t, q, rfl⟩, hb4⟩
          have k4 := (hb4.block w.heap.size (blk_lt k2)).trans k2
          have hc4 := hc2.trans (hb4.mono hc2.size)
          have g3 := blk_cell k4
          have f3 := blk_free k4
          clear k2 k4 hb4 hc2 HA hv2
          go_wp2_with fail
          refine bodyPost_ret (by simp [results, Tryd.results38, go_sem, *] <;> rfl) rfl ⟨rfl, (by repeat (first | (with_reducible assumption) | (with_reducible exact Below.refl _ _) | (with_reducible refine Below.alloc ?_ (by first | omega | (simp; omega) | (simp; done) | (dsimp only; omega)) _) | (with_reducible refine Below.setCell ?_ (by first | omega | (simp; omega) | (simp; done) | (dsimp only; omega)) _) | (with_reducible refine Below.drew ?_) | (with_reducible refine Below.trans ?_ (Below.mono (by assumption) (by first | omega | (simp; omega) | (simp; done) | (dsimp only; omega))))))⟩
end Go.Proofs.YtfammopenanapaaDoor
