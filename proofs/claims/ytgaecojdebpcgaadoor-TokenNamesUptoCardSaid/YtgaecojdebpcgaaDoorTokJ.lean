/- X-PARTIAL The token with which a text begins: layer 10. -/
import Derived.Test.YtgaecojdebpcgaaDoorTokI
namespace Go.Proofs.YtgaecojdebpcgaaDoor
open Go.RowKit Go.Lib

/-- A token without its place, and what is wrong. -/
structure TR where
  k : Int
  t : Str
  n : Int
  e : Int
def TR.bad (e : Int) : TR := ⟨0, [], 0, e⟩
def nameF (l : Str) : TR := if 20 < l.length then .bad 6 else ⟨nameK l, l, 0, 0⟩
def numF (q : Nat) (d : Str) : TR :=
  if (d.head? = some 48 ∧ 1 < d.length) ∨ d.length < q then .bad 3
  else if numV 0 d ≤ 9223372036854775807 then ⟨2, d, numV 0 d, 0⟩ else .bad 4
/-- What token.first says of a text that begins with kind k. -/
def firstF (t : Str) (k : Int) : TR :=
  if k = 2 then nameF (pre 2 3 t) else if k = 3 then numF (pre 2 3 t).length (pre 3 3 t) else if k = 4 then ⟨3, mark t, 0, 0⟩ else ⟨0, [], 0, 0⟩

theorem token_nameF (l : Str) (w : World) :
    Calls Tryd.prog 25 #[encStr l] w fun e w' => e = .returned (.tuple #[.agg #[.int .i64 (nameF l).k, encStr (nameF l).t, .int .i64 (nameF l).n, .int .i64 0], .int .i64 (nameF l).e]) ∧ Below w.heap.size w w' := by
  refine (token_name l w).mono ?_
  rintro e w' ⟨rfl, hb⟩
  refine ⟨?_, hb⟩
  unfold nameF
  split <;> rfl

theorem token_numF (t d : Str) (w : World) (hd : Digits d) (hn : d ≠ []) (hm : d.length ≤ 281474976710656) (hv : RV w) :
    Calls Tryd.prog 26 #[encStr t, encStr d] w fun e w' => e = .returned (.tuple #[.agg #[.int .i64 (numF (pre 2 3 t).length d).k, encStr (numF (pre 2 3 t).length d).t, .int .i64 (numF (pre 2 3 t).length d).n, .int .i64 0], .int .i64 (numF (pre 2 3 t).length d).e]) ∧ Below w.heap.size w w' := by
  refine (token_number t d w hd hn hm hv).mono ?_
  rintro e w' ⟨rfl, hb⟩
  refine ⟨?_, hb⟩
  unfold numF numT
  split
  · rfl
  · split <;> rfl

theorem pre_digits (t : Str) : Digits (pre 3 3 t) := by
  intro c hc
  have h : (kB c == 3 || kB c == 3) = true := by
    unfold pre at hc
    exact (List.all_eq_true.1 (List.all_takeWhile (p := fun c => kB c == 3 || kB c == 3) (l := t))) c hc
  rw [Bool.or_self, beq_iff_eq] at h
  exact kB_digit.1 h
theorem pre_len (a b : Int) (t : Str) : (pre a b t).length ≤ t.length := List.Sublist.length_le (List.takeWhile_sublist _)

set_option maxHeartbeats 2000000 in
theorem token_first (t : Str) (k : Int) (w : World) (hn : t ≠ []) (hk : k = 3 → pre 3 3 t ≠ []) (hm : t.length ≤ 281474976710656) (hv : RV w) :
    Calls Tryd.prog 17 #[encStr t, .int .i64 k] w fun e w' => e = .returned (.tuple #[.agg #[.int .i64 (firstF t k).k, encStr (firstF t k).t, .int .i64 (firstF t k).n, .int .i64 0], .int .i64 (firstF t k).e]) ∧ Below w.heap.size w w' := by
  have k0 : (w.alloc (.cells #[.int .i64 0, encStr [], .int .i64 0, .int .i64 0] 37)).heap[w.heap.size]? = some (.cells #[.int .i64 0, encStr [], .int .i64 0, .int .i64 0] 37) := al_new w _ rfl
  have hb0 : Below w.heap.size w (w.alloc (.cells #[.int .i64 0, encStr [], .int .i64 0, .int .i64 0] 37)) := (Below.refl _ w).alloc (Nat.le_refl _) _
  have hv0 := hv.mono hb0
  have HP := Lib.hid (fun w' => token_prefix t 2 3 w' (by decide) (by decide))
  have HD := Lib.hid (fun w' => token_prefix t 3 3 w' (by decide) (by decide))
  by_cases h2 : k = 2
  · subst h2
    have hF : firstF t 2 = nameF (pre 2 3 t) := if_pos rfl
    rw [hF]
    generalize pre 2 3 t = q at *
    have HN := Lib.hid (token_nameF q)
    clear hF hk
    generalize nameF q = r at *
    go_enter Tryd.func17, Tryd.ntmps17
    go_wp2_with fail
    go_at_call 19
    refine (HP.out _).mono ?_
    rintro e w1 ⟨rfl, hb1⟩
    have k1 := (hb1.block w.heap.size (blk_lt k0)).trans k0
    have hc1 := hb0.trans (hb1.mono hb0.size)
    clear hb1 k0 hb0
    go_wp2_with fail
    go_at_call 25
    refine (HN.out _).mono ?_
    rintro e w2 ⟨rfl, hb2⟩
    have k2 := (hb2.block w.heap.size (blk_lt k1)).trans k1
    have hc2 := hc1.trans (hb2.mono hc1.size)
    have g2 := blk_cell k2
    have f2 := blk_free k2
    clear hb2 k1 k2 hc1
    go_wp2_with fail
    refine bodyPost_ret (by simp [results, Tryd.results17, go_sem, *] <;> rfl) rfl ⟨rfl, (by repeat (first | (with_reducible assumption) | (with_reducible exact Below.refl _ _) | (with_reducible refine Below.alloc ?_ (by first | omega | (simp; omega) | (simp; done) | (dsimp only; omega)) _) | (with_reducible refine Below.setCell ?_ (by first | omega | (simp; omega) | (simp; done) | (dsimp only; omega)) _) | (with_reducible refine Below.drew ?_) | (with_reducible refine Below.trans ?_ (Below.mono (by assumption) (by first | omega | (simp; omega) | (simp; done) | (dsimp only; omega))))))⟩
  · by_cases h3 : k = 3
    · subst h3
      have hF : firstF t 3 = numF (pre 2 3 t).length (pre 3 3 t) := rfl
      rw [hF]
      have hd := pre_digits t
      have hne := hk rfl
      have hl := Nat.le_trans (pre_len 3 3 t) hm
      have HN0 := fun w' hv' => token_numF t (pre 3 3 t) w' hd hne hl hv'
      clear hF hk hd hne hl
      generalize numF (pre 2 3 t).length (pre 3 3 t) = r at *
      have HN := Lib.hid HN0
      clear HN0
      generalize pre 3 3 t = q at *
      go_enter Tryd.func17, Tryd.ntmps17
      go_wp2_with fail
      go_at_call 19
      refine (HD.out _).mono ?_
      rintro e w1 ⟨rfl, hb1⟩
      have k1 := (hb1.block w.heap.size (blk_lt k0)).trans k0
      have hc1 := hb0.trans (hb1.mono hb0.size)
      have hv1 := hv0.mono hb1
      clear hb1 k0 hb0
      go_wp2_with fail
      go_at_call 26
      refine (HN.out _ hv1).mono ?_
      rintro e w2 ⟨rfl, hb2⟩
      have k2 := (hb2.block w.heap.size (blk_lt k1)).trans k1
      have hc2 := hc1.trans (hb2.mono hc1.size)
      have g2 := blk_cell k2
      have f2 := blk_free k2
      clear hb2 k1 k2 hc1
      go_wp2_with fail
      refine bodyPost_ret (by simp [results, Tryd.results17, go_sem, *] <;> rfl) rfl ⟨rfl, (by repeat (first | (with_reducible assumption) | (with_reducible exact Below.refl _ _) | (with_reducible refine Below.alloc ?_ (by first | omega | (simp; omega) | (simp; done) | (dsimp only; omega)) _) | (with_reducible refine Below.setCell ?_ (by first | omega | (simp; omega) | (simp; done) | (dsimp only; omega)) _) | (with_reducible refine Below.drew ?_) | (with_reducible refine Below.trans ?_ (Below.mono (by assumption) (by first | omega | (simp; omega) | (simp; done) | (dsimp only; omega))))))⟩
    · have e2 : (k == 2) = false := by simpa using h2
      have e3 : (k == 3) = false := by simpa using h3
      by_cases h4 : k = 4
      · have hF : firstF t k = ⟨3, mark t, 0, 0⟩ := by unfold firstF; rw [if_neg h2, if_neg h3, if_pos h4]
        rw [hF]
        have HM := Lib.hid (fun w' => token_mark t w' hn)
        clear hF hk h2 h3 e2 e3
        subst h4
        generalize mark t = m at *
        go_enter Tryd.func17, Tryd.ntmps17
        go_wp2_with fail
        go_at_call 27
        refine (HM.out _).mono ?_
        rintro e w1 ⟨rfl, rfl⟩
        go_wp2_with fail
        refine bodyPost_ret (by simp [results, Tryd.results17, go_sem, *] <;> rfl) rfl ⟨rfl, (by repeat (first | (with_reducible assumption) | (with_reducible exact Below.refl _ _) | (with_reducible refine Below.alloc ?_ (by first | omega | (simp; omega) | (simp; done) | (dsimp only; omega)) _) | (with_reducible refine Below.setCell ?_ (by first | omega | (simp; omega) | (simp; done) | (dsimp only; omega)) _) | (with_reducible refine Below.drew ?_) | (with_reducible refine Below.trans ?_ (Below.mono (by assumption) (by first | omega | (simp; omega) | (simp; done) | (dsimp only; omega))))))⟩
      · have e4 : (k == 4) = false := by simpa using h4
        have hF : firstF t k = ⟨0, [], 0, 0⟩ := by unfold firstF; rw [if_neg h2, if_neg h3, if_neg h4]
        rw [hF]
        clear hF hk h2 h3 h4
        go_enter Tryd.func17, Tryd.ntmps17
        go_wp2_with fail
        refine bodyPost_ret (by simp [results, Tryd.results17, go_sem, *] <;> rfl) rfl ⟨rfl, (by repeat (first | (with_reducible assumption) | (with_reducible exact Below.refl _ _) | (with_reducible refine Below.alloc ?_ (by first | omega | (simp; omega) | (simp; done) | (dsimp only; omega)) _) | (with_reducible refine Below.setCell ?_ (by first | omega | (simp; omega) | (simp; done) | (dsimp only; omega)) _) | (with_reducible refine Below.drew ?_) | (with_reducible refine Below.trans ?_ (Below.mono (by assumption) (by first | omega | (simp; omega) | (simp; done) | (dsimp only; omega))))))⟩
end Go.Proofs.YtgaecojdebpcgaaDoor
