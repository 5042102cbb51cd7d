/- X-PARTIAL What value.Int, Num, Ints, Ptr return: layer 8. -/
import Derived.Test.YtdpnphnafidpiaaValE
import Derived.Deep.MidRow
namespace Go.Proofs.Ytdpnphnafidpiaa
open Go.RowKit

/-- Eight cells stored one after another. -/
def st8 (w : World) (b : Nat) (v0 v1 v2 v3 v4 v5 v6 v7 : Value) : World :=
  (((((((w.setCell ⟨b, 0, none⟩ v0).setCell ⟨b, 1, none⟩ v1).setCell ⟨b, 2, none⟩ v2).setCell ⟨b, 3, none⟩ v3).setCell ⟨b, 4, none⟩ v4).setCell ⟨b, 5, none⟩ v5).setCell ⟨b, 6, none⟩ v6).setCell ⟨b, 7, none⟩ v7
theorem st8_fold (w : World) (b : Nat) (v0 v1 v2 v3 v4 v5 v6 v7 : Value) :
  (((((((w.setCell ⟨b, 0, none⟩ v0).setCell ⟨b, 1, none⟩ v1).setCell ⟨b, 2, none⟩ v2).setCell ⟨b, 3, none⟩ v3).setCell ⟨b, 4, none⟩ v4).setCell ⟨b, 5, none⟩ v5).setCell ⟨b, 6, none⟩ v6).setCell ⟨b, 7, none⟩ v7 = st8 w b v0 v1 v2 v3 v4 v5 v6 v7 := rfl
theorem st8_blk {w : World} {b : Nat} {c0 c1 c2 c3 c4 c5 c6 c7 v0 v1 v2 v3 v4 v5 v6 v7 : Value} {t : TypeId} (h : w.heap[b]? = some (.cells #[c0, c1, c2, c3, c4, c5, c6, c7] t)) :
    (st8 w b v0 v1 v2 v3 v4 v5 v6 v7).heap[b]? = some (.cells #[v0, v1, v2, v3, v4, v5, v6, v7] t) := by
  unfold st8
  simp [World.setCell, Array.getElem?_modify, h]
theorem st8_far (w : World) (b : Nat) {v0 v1 v2 v3 v4 v5 v6 v7 : Value} {k : Nat} (h : k ≠ b) : (st8 w b v0 v1 v2 v3 v4 v5 v6 v7).heap[k]? = w.heap[k]? := by
  unfold st8
  iterate 8 (refine (Below.heap_setCell _ _ _ _ (fun e => h e)).trans ?_)
  rfl
theorem st8_cell (w : World) (b : Nat) {v0 v1 v2 v3 v4 v5 v6 v7 : Value} {p : Addr} (h : p.block ≠ b) : (st8 w b v0 v1 v2 v3 v4 v5 v6 v7).cell? p = w.cell? p := by
  unfold st8
  iterate 8 rw [World.cell?_setCell_far _ _ _ _ (fun e => h e.symm)]
theorem st8_below {W w : World} {b n : Nat} {v0 v1 v2 v3 v4 v5 v6 v7 : Value} (h : Below n W w) (hb : n ≤ b) : Below n W (st8 w b v0 v1 v2 v3 v4 v5 v6 v7) := by
  unfold st8
  iterate 8 (refine Below.setCell ?_ (by dsimp only; omega) _)
  exact h
theorem st8_there {w : World} {b : Nat} {c0 c1 c2 c3 c4 c5 c6 c7 : Value} {t : TypeId} (hb : w.heap[b]? = some (.cells #[c0, c1, c2, c3, c4, c5, c6, c7] t)) : w.there b 0 8 := fun j hj => by
  rw [Nat.zero_add]
  refine ⟨?_, blk_free hb j⟩
  rw [blk_cell hb j, Array.getElem?_eq_getElem (show j < 8 from hj)]
  rfl
theorem st8_set (w : World) (b : Nat) (v0 v1 v2 v3 v4 v5 v6 v7 : Value) : w.setCells b 0 (#[v0, v1, v2, v3, v4, v5, v6, v7] : Array Value).toList = st8 w b v0 v1 v2 v3 v4 v5 v6 v7 := rfl

theorem leqS_srt (na nb : Bool) (la lb : List Str) : leqS na (srt la) nb (srt lb) = leqS na la nb lb := by
  rw [Bool.eq_iff_iff, leq_iff, leq_iff]
  simp only [mem_srt]
theorem In.lit (s : Sp) (c : Cg) : (In.mk s c).s = s ∧ (In.mk s c).c = c := ⟨rfl, rfl⟩

set_option maxRecDepth 100000 in
set_option maxHeartbeats 4000000 in
theorem value_Int (s : Sp) (c : Cg) (hs : s.ok) (hc : c.ok) (w : World) :
    Calls Try.prog 12 #[.agg #[.bool s.s, .int .i64 s.lo, .int .i64 s.hi], .agg #[.bool c.s, .int .i64 c.m, .int .i64 c.r]] w fun e w' => (∃ A' c', e = .returned (.agg #[.bool ((In.mk s c).red).s.s, .int .i64 ((In.mk s c).red).s.lo, .int .i64 ((In.mk s c).red).s.hi, .bool ((In.mk s c).red).c.s, .int .i64 ((In.mk s c).red).c.m, .int .i64 ((In.mk s c).red).c.r, .bool false, .slice A' (([] : List Str)).length c']) ∧ MadeV w.heap.size w' A' c' []) ∧ Below w.heap.size w w' := by
  have h1 := fun w' => value_Reduce ⟨s, c⟩ ⟨hs, hc⟩ false [] none 0 w' (by simp) (fun _ => rfl) rfl
  dsimp only at h1
  rw [show srt [] = [] from rfl] at h1
  simp only [List.length_nil] at h1 ⊢
  have H1 := Lib.hid h1
  clear h1 hs hc
  generalize (In.mk s c).red = x at *
  go_enter Try.func12, Try.ntmps12
  go_upto_region 1 with fail
  generalize hW : (((w.alloc (.cells #[.bool s.s, .int .i64 s.lo, .int .i64 s.hi] 23)).alloc (.cells #[.bool c.s, .int .i64 c.m, .int .i64 c.r] 25)).alloc (.cells #[.bool false, .int .i64 0, .int .i64 0, .bool false, .int .i64 0, .int .i64 0, .bool false, .slice none 0 0] 30)) = W
  have q0_0 : W.cell? ⟨w.heap.size, 0, none⟩ = some (.bool s.s) := by rw [← hW]; simp [go_sem]
  have q0_1 : W.cell? ⟨w.heap.size, 1, none⟩ = some (.int .i64 s.lo) := by rw [← hW]; simp [go_sem]
  have q0_2 : W.cell? ⟨w.heap.size, 2, none⟩ = some (.int .i64 s.hi) := by rw [← hW]; simp [go_sem]
  have q1_0 : W.cell? ⟨w.heap.size + 1, 0, none⟩ = some (.bool c.s) := by rw [← hW]; simp [go_sem]
  have q1_1 : W.cell? ⟨w.heap.size + 1, 1, none⟩ = some (.int .i64 c.m) := by rw [← hW]; simp [go_sem]
  have q1_2 : W.cell? ⟨w.heap.size + 1, 2, none⟩ = some (.int .i64 c.r) := by rw [← hW]; simp [go_sem]
  have q2_0 : W.cell? ⟨w.heap.size + 1 + 1, 0, none⟩ = some (.bool false) := by rw [← hW]; simp [go_sem]
  have q2_1 : W.cell? ⟨w.heap.size + 1 + 1, 1, none⟩ = some (.int .i64 0) := by rw [← hW]; simp [go_sem]
  have q2_2 : W.cell? ⟨w.heap.size + 1 + 1, 2, none⟩ = some (.int .i64 0) := by rw [← hW]; simp [go_sem]
  have q2_3 : W.cell? ⟨w.heap.size + 1 + 1, 3, none⟩ = some (.bool false) := by rw [← hW]; simp [go_sem]
  have q2_4 : W.cell? ⟨w.heap.size + 1 + 1, 4, none⟩ = some (.int .i64 0) := by rw [← hW]; simp [go_sem]
  have q2_5 : W.cell? ⟨w.heap.size + 1 + 1, 5, none⟩ = some (.int .i64 0) := by rw [← hW]; simp [go_sem]
  have q2_6 : W.cell? ⟨w.heap.size + 1 + 1, 6, none⟩ = some (.bool false) := by rw [← hW]; simp [go_sem]
  have q2_7 : W.cell? ⟨w.heap.size + 1 + 1, 7, none⟩ = some (.slice none 0 0) := by rw [← hW]; simp [go_sem]
  have f0 : ∀ o, W.frozen? ⟨w.heap.size, o, none⟩ = false := by intro o; rw [← hW]; simp [go_sem]
  have f1 : ∀ o, W.frozen? ⟨w.heap.size + 1, o, none⟩ = false := by intro o; rw [← hW]; simp [go_sem]
  have f2 : ∀ o, W.frozen? ⟨w.heap.size + 1 + 1, o, none⟩ = false := by intro o; rw [← hW]; simp [go_sem]
  have z0 : w.heap.size < W.heap.size := by rw [← hW]; first | (simp; done) | (simp; omega)
  have z1 : w.heap.size + 1 < W.heap.size := by rw [← hW]; first | (simp; done) | (simp; omega)
  have z2 : w.heap.size + 1 + 1 < W.heap.size := by rw [← hW]; first | (simp; done) | (simp; omega)
  have HW : Below w.heap.size w W := by rw [← hW]; exact (by repeat (first | (with_reducible assumption) | (with_reducible exact Below.refl _ _) | (with_reducible refine Below.alloc ?_ (by first | omega | (simp; omega) | (simp; done) | (dsimp only; omega)) _) | (with_reducible refine Below.setCell ?_ (by first | omega | (simp; omega) | (simp; done) | (dsimp only; omega)) _) | (with_reducible refine Below.drew ?_) | (with_reducible refine Below.trans ?_ (Below.mono (by assumption) (by first | omega | (simp; omega) | (simp; done) | (dsimp only; omega))))))
  clear hW
  go_wp2_with fail
  go_at_call 5
  refine (H1.out _).mono ?_
  rintro e w2 ⟨⟨A2, c2, rfl, hM⟩, hb2⟩
  replace f2 := fun o => (hb2.frozen (p := ⟨w.heap.size + 1 + 1, o, none⟩) z2).trans (f2 o)
  have HB := HW.trans (hb2.mono HW.size)
  have zz := z2
  replace q0_0 := (hb2.cell (p := ⟨w.heap.size, 0, none⟩) z0).trans q0_0
  replace q0_1 := (hb2.cell (p := ⟨w.heap.size, 1, none⟩) z0).trans q0_1
  replace q0_2 := (hb2.cell (p := ⟨w.heap.size, 2, none⟩) z0).trans q0_2
  replace q1_0 := (hb2.cell (p := ⟨w.heap.size + 1, 0, none⟩) z1).trans q1_0
  replace q1_1 := (hb2.cell (p := ⟨w.heap.size + 1, 1, none⟩) z1).trans q1_1
  replace q1_2 := (hb2.cell (p := ⟨w.heap.size + 1, 2, none⟩) z1).trans q1_2
  replace q2_0 := (hb2.cell (p := ⟨w.heap.size + 1 + 1, 0, none⟩) z2).trans q2_0
  replace q2_1 := (hb2.cell (p := ⟨w.heap.size + 1 + 1, 1, none⟩) z2).trans q2_1
  replace q2_2 := (hb2.cell (p := ⟨w.heap.size + 1 + 1, 2, none⟩) z2).trans q2_2
  replace q2_3 := (hb2.cell (p := ⟨w.heap.size + 1 + 1, 3, none⟩) z2).trans q2_3
  replace q2_4 := (hb2.cell (p := ⟨w.heap.size + 1 + 1, 4, none⟩) z2).trans q2_4
  replace q2_5 := (hb2.cell (p := ⟨w.heap.size + 1 + 1, 5, none⟩) z2).trans q2_5
  replace q2_6 := (hb2.cell (p := ⟨w.heap.size + 1 + 1, 6, none⟩) z2).trans q2_6
  replace q2_7 := (hb2.cell (p := ⟨w.heap.size + 1 + 1, 7, none⟩) z2).trans q2_7
  replace z0 := Nat.lt_of_lt_of_le z0 hb2.size
  replace z1 := Nat.lt_of_lt_of_le z1 hb2.size
  replace z2 := Nat.lt_of_lt_of_le z2 hb2.size
  clear hb2 f0 f1
  go_wp2
  refine bodyPost_ret (by simp [results, Try.results12, go_sem, *] <;> rfl) rfl ⟨⟨A2, c2, rfl, (by (refine MadeV.base (b := w.heap.size + 3) ?_ (by omega)); (repeat refine MadeV.setCell ?_ (by first | omega | (simp; omega)) _); first | exact hM | exact hM.base (by omega))⟩, (by repeat (first | (with_reducible assumption) | (with_reducible exact Below.refl _ _) | (with_reducible refine Below.alloc ?_ (by first | omega | (simp; omega) | (simp; done) | (dsimp only; omega)) _) | (with_reducible refine Below.setCell ?_ (by first | omega | (simp; omega) | (simp; done) | (dsimp only; omega)) _) | (with_reducible refine Below.drew ?_) | (with_reducible refine Below.trans ?_ (Below.mono (by assumption) (by first | omega | (simp; omega) | (simp; done) | (dsimp only; omega))))))⟩

set_option maxRecDepth 100000 in
set_option maxHeartbeats 4000000 in
theorem value_Num (n : Int) (hn : I64 n) (w : World) :
    Calls Try.prog 6 #[.int .i64 n] w fun e w' => (∃ A' c', e = .returned (.agg #[.bool ((In.mk (Sp.of n n) (Cg.of 0 n)).red).s.s, .int .i64 ((In.mk (Sp.of n n) (Cg.of 0 n)).red).s.lo, .int .i64 ((In.mk (Sp.of n n) (Cg.of 0 n)).red).s.hi, .bool ((In.mk (Sp.of n n) (Cg.of 0 n)).red).c.s, .int .i64 ((In.mk (Sp.of n n) (Cg.of 0 n)).red).c.m, .int .i64 ((In.mk (Sp.of n n) (Cg.of 0 n)).red).c.r, .bool false, .slice A' (([] : List Str)).length c']) ∧ MadeV w.heap.size w' A' c' []) ∧ Below w.heap.size w w' := by
  have H1 := Lib.hid (fun w' => value_Int (Sp.of n n) (Cg.of 0 n) (Sp.of_ok hn hn) (by rw [Cg.of_nil]; exact ⟨I64_0, hn⟩) w')
  have H2 := Lib.hid (span_one n)
  have H3 := Lib.hid (cong_one n)
  generalize (In.mk (Sp.of n n) (Cg.of 0 n)).red = x at *
  generalize Sp.of n n = s at *
  generalize Cg.of 0 n = c at *
  simp only [List.length_nil] at *
  go_enter Try.func6, Try.ntmps6
  go_upto_region 1 with fail
  generalize hW : (w.alloc (.cells #[.bool false, .int .i64 0, .int .i64 0, .bool false, .int .i64 0, .int .i64 0, .bool false, .slice none 0 0] 30)) = W
  have q0_0 : W.cell? ⟨w.heap.size, 0, none⟩ = some (.bool false) := by rw [← hW]; simp [go_sem]
  have q0_1 : W.cell? ⟨w.heap.size, 1, none⟩ = some (.int .i64 0) := by rw [← hW]; simp [go_sem]
  have q0_2 : W.cell? ⟨w.heap.size, 2, none⟩ = some (.int .i64 0) := by rw [← hW]; simp [go_sem]
  have q0_3 : W.cell? ⟨w.heap.size, 3, none⟩ = some (.bool false) := by rw [← hW]; simp [go_sem]
  have q0_4 : W.cell? ⟨w.heap.size, 4, none⟩ = some (.int .i64 0) := by rw [← hW]; simp [go_sem]
  have q0_5 : W.cell? ⟨w.heap.size, 5, none⟩ = some (.int .i64 0) := by rw [← hW]; simp [go_sem]
  have q0_6 : W.cell? ⟨w.heap.size, 6, none⟩ = some (.bool false) := by rw [← hW]; simp [go_sem]
  have q0_7 : W.cell? ⟨w.heap.size, 7, none⟩ = some (.slice none 0 0) := by rw [← hW]; simp [go_sem]
  have f0 : ∀ o, W.frozen? ⟨w.heap.size, o, none⟩ = false := by intro o; rw [← hW]; simp [go_sem]
  have z0 : w.heap.size < W.heap.size := by rw [← hW]; first | (simp; done) | (simp; omega)
  have HW : Below w.heap.size w W := by rw [← hW]; exact (by repeat (first | (with_reducible assumption) | (with_reducible exact Below.refl _ _) | (with_reducible refine Below.alloc ?_ (by first | omega | (simp; omega) | (simp; done) | (dsimp only; omega)) _) | (with_reducible refine Below.setCell ?_ (by first | omega | (simp; omega) | (simp; done) | (dsimp only; omega)) _) | (with_reducible refine Below.drew ?_) | (with_reducible refine Below.trans ?_ (Below.mono (by assumption) (by first | omega | (simp; omega) | (simp; done) | (dsimp only; omega))))))
  clear hW
  go_wp2_with (first | (go_at_call 25; (with_reducible refine (H2.out _).mono ?_); rintro e w3 ⟨rfl, hb3⟩; obtain ⟨hc3, hf3⟩ := bcell hb3; have hz3 := hb3.size; (try simp at hz3); (try have hy3 := Nat.lt_of_succ_le hz3); (try have hv3 := Nat.lt_of_succ_lt hy3); (try have hw30 : w.heap.size < w3.heap.size := by omega); (try have hw31 : w.heap.size + 1 < w3.heap.size := by omega); (try have hw32 : w.heap.size + 1 + 1 < w3.heap.size := by omega); (try have hw33 : w.heap.size + 1 + 1 + 1 < w3.heap.size := by omega)) | (go_at_call 22; (with_reducible refine (H3.out _).mono ?_); rintro e w4 ⟨rfl, hb4⟩; obtain ⟨hc4, hf4⟩ := bcell hb4; have hz4 := hb4.size; (try simp at hz4); (try have hy4 := Nat.lt_of_succ_le hz4); (try have hv4 := Nat.lt_of_succ_lt hy4); (try have hw40 : w.heap.size < w4.heap.size := by omega); (try have hw41 : w.heap.size + 1 < w4.heap.size := by omega); (try have hw42 : w.heap.size + 1 + 1 < w4.heap.size := by omega); (try have hw43 : w.heap.size + 1 + 1 + 1 < w4.heap.size := by omega)))
  go_at_call 12
  refine (H1.out _).mono ?_
  rintro e w2 ⟨⟨A2, c2, rfl, hM⟩, hb2⟩
  have hbb : Below W.heap.size W w2 := (by repeat (first | (with_reducible assumption) | (with_reducible exact Below.refl _ _) | (with_reducible refine Below.alloc ?_ (by first | omega | (simp; omega) | (simp; done) | (dsimp only; omega)) _) | (with_reducible refine Below.setCell ?_ (by first | omega | (simp; omega) | (simp; done) | (dsimp only; omega)) _) | (with_reducible refine Below.drew ?_) | (with_reducible refine Below.trans ?_ (Below.mono (by assumption) (by first | omega | (simp; omega) | (simp; done) | (dsimp only; omega))))))
  have hM2 := hM.base (show W.heap.size ≤ w4.heap.size by omega)
  replace f0 := fun o => (hbb.frozen (p := ⟨w.heap.size, o, none⟩) z0).trans (f0 o)
  have HB := HW.trans (hbb.mono HW.size)
  have zz := z0
  replace q0_0 := (hbb.cell (p := ⟨w.heap.size, 0, none⟩) z0).trans q0_0
  replace q0_1 := (hbb.cell (p := ⟨w.heap.size, 1, none⟩) z0).trans q0_1
  replace q0_2 := (hbb.cell (p := ⟨w.heap.size, 2, none⟩) z0).trans q0_2
  replace q0_3 := (hbb.cell (p := ⟨w.heap.size, 3, none⟩) z0).trans q0_3
  replace q0_4 := (hbb.cell (p := ⟨w.heap.size, 4, none⟩) z0).trans q0_4
  replace q0_5 := (hbb.cell (p := ⟨w.heap.size, 5, none⟩) z0).trans q0_5
  replace q0_6 := (hbb.cell (p := ⟨w.heap.size, 6, none⟩) z0).trans q0_6
  replace q0_7 := (hbb.cell (p := ⟨w.heap.size, 7, none⟩) z0).trans q0_7
  replace z0 := Nat.lt_of_lt_of_le z0 hbb.size
  clear hb2 hb3 hb4 hc3 hc4 hf3 hf4 hbb hM
  go_wp2
  refine bodyPost_ret (by simp [results, Try.results6, go_sem, *] <;> rfl) rfl ⟨⟨A2, c2, rfl, (by (refine MadeV.base (b := w.heap.size + 1) ?_ (by omega)); (repeat refine MadeV.setCell ?_ (by first | omega | (simp; omega)) _); first | exact hM2 | exact hM2.base (by omega))⟩, (by repeat (first | (with_reducible assumption) | (with_reducible exact Below.refl _ _) | (with_reducible refine Below.alloc ?_ (by first | omega | (simp; omega) | (simp; done) | (dsimp only; omega)) _) | (with_reducible refine Below.setCell ?_ (by first | omega | (simp; omega) | (simp; done) | (dsimp only; omega)) _) | (with_reducible refine Below.drew ?_) | (with_reducible refine Below.trans ?_ (Below.mono (by assumption) (by first | omega | (simp; omega) | (simp; done) | (dsimp only; omega))))))⟩

set_option maxRecDepth 100000 in
set_option maxHeartbeats 4000000 in
theorem value_Ints (w : World) :
    Calls Try.prog 15 #[] w fun e w' => (∃ A' c', e = .returned (.agg #[.bool ((In.mk (Sp.of (-9223372036854775808) 9223372036854775807) (Cg.of 1 0)).red).s.s, .int .i64 ((In.mk (Sp.of (-9223372036854775808) 9223372036854775807) (Cg.of 1 0)).red).s.lo, .int .i64 ((In.mk (Sp.of (-9223372036854775808) 9223372036854775807) (Cg.of 1 0)).red).s.hi, .bool ((In.mk (Sp.of (-9223372036854775808) 9223372036854775807) (Cg.of 1 0)).red).c.s, .int .i64 ((In.mk (Sp.of (-9223372036854775808) 9223372036854775807) (Cg.of 1 0)).red).c.m, .int .i64 ((In.mk (Sp.of (-9223372036854775808) 9223372036854775807) (Cg.of 1 0)).red).c.r, .bool false, .slice A' (([] : List Str)).length c']) ∧ MadeV w.heap.size w' A' c' []) ∧ Below w.heap.size w w' := by
  have H1 := Lib.hid (fun w' => value_Int (Sp.of (-9223372036854775808) 9223372036854775807) (Cg.of 1 0) (Sp.of_ok ⟨by decide, by decide⟩ ⟨by decide, by decide⟩) (Cg.of_std I64_1 I64_0).1 w')
  have H2 := Lib.hid span_all
  have H3 := Lib.hid cong_all
  generalize (In.mk (Sp.of (-9223372036854775808) 9223372036854775807) (Cg.of 1 0)).red = x at *
  generalize Sp.of (-9223372036854775808) 9223372036854775807 = s at *
  generalize Cg.of 1 0 = c at *
  simp only [List.length_nil] at *
  go_enter Try.func15, Try.ntmps15
  go_upto_region 1 with fail
  generalize hW : (w.alloc (.cells #[.bool false, .int .i64 0, .int .i64 0, .bool false, .int .i64 0, .int .i64 0, .bool false, .slice none 0 0] 30)) = W
  have q0_0 : W.cell? ⟨w.heap.size, 0, none⟩ = some (.bool false) := by rw [← hW]; simp [go_sem]
  have q0_1 : W.cell? ⟨w.heap.size, 1, none⟩ = some (.int .i64 0) := by rw [← hW]; simp [go_sem]
  have q0_2 : W.cell? ⟨w.heap.size, 2, none⟩ = some (.int .i64 0) := by rw [← hW]; simp [go_sem]
  have q0_3 : W.cell? ⟨w.heap.size, 3, none⟩ = some (.bool false) := by rw [← hW]; simp [go_sem]
  have q0_4 : W.cell? ⟨w.heap.size, 4, none⟩ = some (.int .i64 0) := by rw [← hW]; simp [go_sem]
  have q0_5 : W.cell? ⟨w.heap.size, 5, none⟩ = some (.int .i64 0) := by rw [← hW]; simp [go_sem]
  have q0_6 : W.cell? ⟨w.heap.size, 6, none⟩ = some (.bool false) := by rw [← hW]; simp [go_sem]
  have q0_7 : W.cell? ⟨w.heap.size, 7, none⟩ = some (.slice none 0 0) := by rw [← hW]; simp [go_sem]
  have f0 : ∀ o, W.frozen? ⟨w.heap.size, o, none⟩ = false := by intro o; rw [← hW]; simp [go_sem]
  have z0 : w.heap.size < W.heap.size := by rw [← hW]; first | (simp; done) | (simp; omega)
  have HW : Below w.heap.size w W := by rw [← hW]; exact (by repeat (first | (with_reducible assumption) | (with_reducible exact Below.refl _ _) | (with_reducible refine Below.alloc ?_ (by first | omega | (simp; omega) | (simp; done) | (dsimp only; omega)) _) | (with_reducible refine Below.setCell ?_ (by first | omega | (simp; omega) | (simp; done) | (dsimp only; omega)) _) | (with_reducible refine Below.drew ?_) | (with_reducible refine Below.trans ?_ (Below.mono (by assumption) (by first | omega | (simp; omega) | (simp; done) | (dsimp only; omega))))))
  clear hW
  go_wp2_with (first | (go_at_call 42; (with_reducible refine (H2.out _).mono ?_); rintro e w3 ⟨rfl, hb3⟩; obtain ⟨hc3, hf3⟩ := bcell hb3; have hz3 := hb3.size; (try simp at hz3); (try have hy3 := Nat.lt_of_succ_le hz3); (try have hv3 := Nat.lt_of_succ_lt hy3); (try have hw30 : w.heap.size < w3.heap.size := by omega); (try have hw31 : w.heap.size + 1 < w3.heap.size := by omega); (try have hw32 : w.heap.size + 1 + 1 < w3.heap.size := by omega); (try have hw33 : w.heap.size + 1 + 1 + 1 < w3.heap.size := by omega)) | (go_at_call 43; (with_reducible refine (H3.out _).mono ?_); rintro e w4 ⟨rfl, hb4⟩; obtain ⟨hc4, hf4⟩ := bcell hb4; have hz4 := hb4.size; (try simp at hz4); (try have hy4 := Nat.lt_of_succ_le hz4); (try have hv4 := Nat.lt_of_succ_lt hy4); (try have hw40 : w.heap.size < w4.heap.size := by omega); (try have hw41 : w.heap.size + 1 < w4.heap.size := by omega); (try have hw42 : w.heap.size + 1 + 1 < w4.heap.size := by omega); (try have hw43 : w.heap.size + 1 + 1 + 1 < w4.heap.size := by omega)))
  go_at_call 12
  refine (H1.out _).mono ?_
  rintro e w2 ⟨⟨A2, c2, rfl, hM⟩, hb2⟩
  have hbb : Below W.heap.size W w2 := (by repeat (first | (with_reducible assumption) | (with_reducible exact Below.refl _ _) | (with_reducible refine Below.alloc ?_ (by first | omega | (simp; omega) | (simp; done) | (dsimp only; omega)) _) | (with_reducible refine Below.setCell ?_ (by first | omega | (simp; omega) | (simp; done) | (dsimp only; omega)) _) | (with_reducible refine Below.drew ?_) | (with_reducible refine Below.trans ?_ (Below.mono (by assumption) (by first | omega | (simp; omega) | (simp; done) | (dsimp only; omega))))))
  have hM2 := hM.base (show W.heap.size ≤ w4.heap.size by omega)
  replace f0 := fun o => (hbb.frozen (p := ⟨w.heap.size, o, none⟩) z0).trans (f0 o)
  have HB := HW.trans (hbb.mono HW.size)
  have zz := z0
  replace q0_0 := (hbb.cell (p := ⟨w.heap.size, 0, none⟩) z0).trans q0_0
  replace q0_1 := (hbb.cell (p := ⟨w.heap.size, 1, none⟩) z0).trans q0_1
  replace q0_2 := (hbb.cell (p := ⟨w.heap.size, 2, none⟩) z0).trans q0_2
  replace q0_3 := (hbb.cell (p := ⟨w.heap.size, 3, none⟩) z0).trans q0_3
  replace q0_4 := (hbb.cell (p := ⟨w.heap.size, 4, none⟩) z0).trans q0_4
  replace q0_5 := (hbb.cell (p := ⟨w.heap.size, 5, none⟩) z0).trans q0_5
  replace q0_6 := (hbb.cell (p := ⟨w.heap.size, 6, none⟩) z0).trans q0_6
  replace q0_7 := (hbb.cell (p := ⟨w.heap.size, 7, none⟩) z0).trans q0_7
  replace z0 := Nat.lt_of_lt_of_le z0 hbb.size
  clear hb2 hb3 hb4 hc3 hc4 hf3 hf4 hbb hM
  go_wp2
  refine bodyPost_ret (by simp [results, Try.results15, go_sem, *] <;> rfl) rfl ⟨⟨A2, c2, rfl, (by (refine MadeV.base (b := w.heap.size + 1) ?_ (by omega)); (repeat refine MadeV.setCell ?_ (by first | omega | (simp; omega)) _); first | exact hM2 | exact hM2.base (by omega))⟩, (by repeat (first | (with_reducible assumption) | (with_reducible exact Below.refl _ _) | (with_reducible refine Below.alloc ?_ (by first | omega | (simp; omega) | (simp; done) | (dsimp only; omega)) _) | (with_reducible refine Below.setCell ?_ (by first | omega | (simp; omega) | (simp; done) | (dsimp only; omega)) _) | (with_reducible refine Below.drew ?_) | (with_reducible refine Below.trans ?_ (Below.mono (by assumption) (by first | omega | (simp; omega) | (simp; done) | (dsimp only; omega))))))⟩

set_option maxRecDepth 100000 in
set_option maxHeartbeats 4000000 in
theorem value_Ptr (n : Bool) (l : List Str) (A : Option Addr) (c : Nat) (w : World) (hm : l.length * 16 ≤ 140737488355328) (hz : A = none → c = 0) (hr : SRow w A l) :
    Calls Try.prog 13 #[.agg #[.bool n, .slice A l.length c]] w fun e w' => (∃ A' c', e = .returned (.agg #[.bool (In.zero).s.s, .int .i64 (In.zero).s.lo, .int .i64 (In.zero).s.hi, .bool (In.zero).c.s, .int .i64 (In.zero).c.m, .int .i64 (In.zero).c.r, .bool n, .slice A' (srt l).length c']) ∧ MadeV w.heap.size w' A' c' (srt l)) ∧ Below w.heap.size w w' := by
  have HC : Hid (∀ w', Below w.heap.size w w' → _) := Lib.hid (fun w' h => value_Clean ⟨⟨false, 0, 0⟩, ⟨false, 0, 0⟩⟩ ⟨Sp.zero_ok, ⟨I64_0, I64_0⟩⟩ n l A c w' hm hz (hr.mono h))
  rw [show In.clean ⟨⟨false, 0, 0⟩, ⟨false, 0, 0⟩⟩ = In.zero from rfl] at HC
  dsimp only at HC
  generalize In.zero = x at *
  clear hr
  go_enter Try.func13, Try.ntmps13
  go_upto_region 1 with fail
  generalize hW : ((w.alloc (.cells #[.bool n, .slice A l.length c] 28)).alloc (.cells #[.bool false, .int .i64 0, .int .i64 0, .bool false, .int .i64 0, .int .i64 0, .bool false, .slice none 0 0] 30)) = W
  have q0_0 : W.cell? ⟨w.heap.size, 0, none⟩ = some (.bool n) := by rw [← hW]; simp [go_sem]
  have q0_1 : W.cell? ⟨w.heap.size, 1, none⟩ = some (.slice A l.length c) := by rw [← hW]; simp [go_sem]
  have q1_0 : W.cell? ⟨w.heap.size + 1, 0, none⟩ = some (.bool false) := by rw [← hW]; simp [go_sem]
  have q1_1 : W.cell? ⟨w.heap.size + 1, 1, none⟩ = some (.int .i64 0) := by rw [← hW]; simp [go_sem]
  have q1_2 : W.cell? ⟨w.heap.size + 1, 2, none⟩ = some (.int .i64 0) := by rw [← hW]; simp [go_sem]
  have q1_3 : W.cell? ⟨w.heap.size + 1, 3, none⟩ = some (.bool false) := by rw [← hW]; simp [go_sem]
  have q1_4 : W.cell? ⟨w.heap.size + 1, 4, none⟩ = some (.int .i64 0) := by rw [← hW]; simp [go_sem]
  have q1_5 : W.cell? ⟨w.heap.size + 1, 5, none⟩ = some (.int .i64 0) := by rw [← hW]; simp [go_sem]
  have q1_6 : W.cell? ⟨w.heap.size + 1, 6, none⟩ = some (.bool false) := by rw [← hW]; simp [go_sem]
  have q1_7 : W.cell? ⟨w.heap.size + 1, 7, none⟩ = some (.slice none 0 0) := by rw [← hW]; simp [go_sem]
  have f0 : ∀ o, W.frozen? ⟨w.heap.size, o, none⟩ = false := by intro o; rw [← hW]; simp [go_sem]
  have f1 : ∀ o, W.frozen? ⟨w.heap.size + 1, o, none⟩ = false := by intro o; rw [← hW]; simp [go_sem]
  have z0 : w.heap.size < W.heap.size := by rw [← hW]; first | (simp; done) | (simp; omega)
  have z1 : w.heap.size + 1 < W.heap.size := by rw [← hW]; first | (simp; done) | (simp; omega)
  have HW : Below w.heap.size w W := by rw [← hW]; exact (by repeat (first | (with_reducible assumption) | (with_reducible exact Below.refl _ _) | (with_reducible refine Below.alloc ?_ (by first | omega | (simp; omega) | (simp; done) | (dsimp only; omega)) _) | (with_reducible refine Below.setCell ?_ (by first | omega | (simp; omega) | (simp; done) | (dsimp only; omega)) _) | (with_reducible refine Below.drew ?_) | (with_reducible refine Below.trans ?_ (Below.mono (by assumption) (by first | omega | (simp; omega) | (simp; done) | (dsimp only; omega))))))
  clear hW
  go_wp2_with fail
  go_at_call 40
  refine (HC.out _ HW).mono ?_
  rintro e w2 ⟨⟨A2, c2, rfl, hM⟩, hb2⟩
  replace f1 := fun o => (hb2.frozen (p := ⟨w.heap.size + 1, o, none⟩) z1).trans (f1 o)
  have HB := HW.trans (hb2.mono HW.size)
  have zz := z1
  replace q0_0 := (hb2.cell (p := ⟨w.heap.size, 0, none⟩) z0).trans q0_0
  replace q0_1 := (hb2.cell (p := ⟨w.heap.size, 1, none⟩) z0).trans q0_1
  replace q1_0 := (hb2.cell (p := ⟨w.heap.size + 1, 0, none⟩) z1).trans q1_0
  replace q1_1 := (hb2.cell (p := ⟨w.heap.size + 1, 1, none⟩) z1).trans q1_1
  replace q1_2 := (hb2.cell (p := ⟨w.heap.size + 1, 2, none⟩) z1).trans q1_2
  replace q1_3 := (hb2.cell (p := ⟨w.heap.size + 1, 3, none⟩) z1).trans q1_3
  replace q1_4 := (hb2.cell (p := ⟨w.heap.size + 1, 4, none⟩) z1).trans q1_4
  replace q1_5 := (hb2.cell (p := ⟨w.heap.size + 1, 5, none⟩) z1).trans q1_5
  replace q1_6 := (hb2.cell (p := ⟨w.heap.size + 1, 6, none⟩) z1).trans q1_6
  replace q1_7 := (hb2.cell (p := ⟨w.heap.size + 1, 7, none⟩) z1).trans q1_7
  replace z0 := Nat.lt_of_lt_of_le z0 hb2.size
  replace z1 := Nat.lt_of_lt_of_le z1 hb2.size
  clear hb2 f0
  go_wp2
  refine bodyPost_ret (by simp [results, Try.results13, go_sem, *] <;> rfl) rfl ⟨⟨A2, c2, rfl, (by (refine MadeV.base (b := w.heap.size + 2) ?_ (by omega)); (repeat refine MadeV.setCell ?_ (by first | omega | (simp; omega)) _); first | exact hM | exact hM.base (by omega))⟩, (by repeat (first | (with_reducible assumption) | (with_reducible exact Below.refl _ _) | (with_reducible refine Below.alloc ?_ (by first | omega | (simp; omega) | (simp; done) | (dsimp only; omega)) _) | (with_reducible refine Below.setCell ?_ (by first | omega | (simp; omega) | (simp; done) | (dsimp only; omega)) _) | (with_reducible refine Below.drew ?_) | (with_reducible refine Below.trans ?_ (Below.mono (by assumption) (by first | omega | (simp; omega) | (simp; done) | (dsimp only; omega))))))⟩

end Go.Proofs.Ytdpnphnafidpiaa
