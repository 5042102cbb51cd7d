/- Texts ValD, ValE. -/
import Derived.Test.YtdpnphnafidpiaaGreatValAC
/- X-PARTIAL What value.split, Clean, HasInt, tight return: layer 8. -/
namespace Go.Proofs.YtdpnphnafidpiaaGreat
open Go.RowKit

set_option maxRecDepth 100000 in
set_option maxHeartbeats 4000000 in
theorem value_split (i : In) (hi : i.ok) (n : Bool) (l : List Str) (A : Option Addr) (c : Nat) (w : World) (hm : l.length * 16 ≤ 140737488355328) (hz : A = none → c = 0) (hr : SRow w A l) :
    Calls Tryz.prog 23 #[.agg #[.bool i.s.s, .int .i64 i.s.lo, .int .i64 i.s.hi, .bool i.c.s, .int .i64 i.c.m, .int .i64 i.c.r, .bool n, .slice A l.length c]] w fun e w' => (∃ A' c', e = .returned (.agg #[.bool (i.clean).s.s, .int .i64 (i.clean).s.lo, .int .i64 (i.clean).s.hi, .bool (i.clean).c.s, .int .i64 (i.clean).c.m, .int .i64 (i.clean).c.r, .bool n, .slice A' (srt l).length c']) ∧ MadeV w.heap.size w' A' c' (srt l)) ∧ Below w.heap.size w w' := by
  have HC : Hid (∀ w', Below w.heap.size w w' → _) := Lib.hid (fun w' h => value_clean i hi n l A c w' hm hz (hr.mono h))
  clear hi hr
  generalize i.clean = x at *
  go_enter Tryz.func23, Tryz.ntmps23
  go_upto_region 1 with fail
  generalize hW : ((w.alloc (.cells #[.bool i.s.s, .int .i64 i.s.lo, .int .i64 i.s.hi, .bool i.c.s, .int .i64 i.c.m, .int .i64 i.c.r, .bool n, .slice A l.length c] 30)).alloc (.cells #[.bool false, .int .i64 0, .int .i64 0, .bool false, .int .i64 0, .int .i64 0, .bool false, .slice none 0 0] 55)) = W
  have q0_0 : W.cell? ⟨w.heap.size, 0, none⟩ = some (.bool i.s.s) := by rw [← hW]; simp [go_sem]
  have q0_1 : W.cell? ⟨w.heap.size, 1, none⟩ = some (.int .i64 i.s.lo) := by rw [← hW]; simp [go_sem]
  have q0_2 : W.cell? ⟨w.heap.size, 2, none⟩ = some (.int .i64 i.s.hi) := by rw [← hW]; simp [go_sem]
  have q0_3 : W.cell? ⟨w.heap.size, 3, none⟩ = some (.bool i.c.s) := by rw [← hW]; simp [go_sem]
  have q0_4 : W.cell? ⟨w.heap.size, 4, none⟩ = some (.int .i64 i.c.m) := by rw [← hW]; simp [go_sem]
  have q0_5 : W.cell? ⟨w.heap.size, 5, none⟩ = some (.int .i64 i.c.r) := by rw [← hW]; simp [go_sem]
  have q0_6 : W.cell? ⟨w.heap.size, 6, none⟩ = some (.bool n) := by rw [← hW]; simp [go_sem]
  have q0_7 : W.cell? ⟨w.heap.size, 7, none⟩ = some (.slice A l.length c) := by rw [← hW]; simp [go_sem]
  have q1_0 : W.cell? ⟨w.heap.size + 1, 0, none⟩ = some (.bool false) := by rw [← hW]; simp [go_sem]
  have q1_1 : W.cell? ⟨w.heap.size + 1, 1, none⟩ = some (.int .i64 0) := by rw [← hW]; simp [go_sem]
  have q1_2 : W.cell? ⟨w.heap.size + 1, 2, none⟩ = some (.int .i64 0) := by rw [← hW]; simp [go_sem]
  have q1_3 : W.cell? ⟨w.heap.size + 1, 3, none⟩ = some (.bool false) := by rw [← hW]; simp [go_sem]
  have q1_4 : W.cell? ⟨w.heap.size + 1, 4, none⟩ = some (.int .i64 0) := by rw [← hW]; simp [go_sem]
  have q1_5 : W.cell? ⟨w.heap.size + 1, 5, none⟩ = some (.int .i64 0) := by rw [← hW]; simp [go_sem]
  have q1_6 : W.cell? ⟨w.heap.size + 1, 6, none⟩ = some (.bool false) := by rw [← hW]; simp [go_sem]
  have q1_7 : W.cell? ⟨w.heap.size + 1, 7, none⟩ = some (.slice none 0 0) := by rw [← hW]; simp [go_sem]
  have f0 : ∀ o, W.frozen? ⟨w.heap.size, o, none⟩ = false := by intro o; rw [← hW]; simp [go_sem]
  have f1 : ∀ o, W.frozen? ⟨w.heap.size + 1, o, none⟩ = false := by intro o; rw [← hW]; simp [go_sem]
  have z0 : w.heap.size < W.heap.size := by rw [← hW]; first | (simp; done) | (simp; omega)
  have z1 : w.heap.size + 1 < W.heap.size := by rw [← hW]; first | (simp; done) | (simp; omega)
  have HW : Below w.heap.size w W := by rw [← hW]; exact (by repeat (first | (with_reducible assumption) | (with_reducible exact Below.refl _ _) | (with_reducible refine Below.alloc ?_ (by first | omega | (simp; omega) | (simp; done) | (dsimp only; omega)) _) | (with_reducible refine Below.setCell ?_ (by first | omega | (simp; omega) | (simp; done) | (dsimp only; omega)) _) | (with_reducible refine Below.drew ?_) | (with_reducible refine Below.trans ?_ (Below.mono (by assumption) (by first | omega | (simp; omega) | (simp; done) | (dsimp only; omega))))))
  clear hW
  go_wp2_with fail
  go_at_call 24
  refine (HC.out _ HW).mono ?_
  rintro e w2 ⟨⟨A2, c2, rfl, hM⟩, hb2⟩
  replace f1 := fun o => (hb2.frozen (p := ⟨w.heap.size + 1, o, none⟩) z1).trans (f1 o)
  have HB := HW.trans (hb2.mono HW.size)
  have zz := z1
  replace q0_0 := (hb2.cell (p := ⟨w.heap.size, 0, none⟩) z0).trans q0_0
  replace q0_1 := (hb2.cell (p := ⟨w.heap.size, 1, none⟩) z0).trans q0_1
  replace q0_2 := (hb2.cell (p := ⟨w.heap.size, 2, none⟩) z0).trans q0_2
  replace q0_3 := (hb2.cell (p := ⟨w.heap.size, 3, none⟩) z0).trans q0_3
  replace q0_4 := (hb2.cell (p := ⟨w.heap.size, 4, none⟩) z0).trans q0_4
  replace q0_5 := (hb2.cell (p := ⟨w.heap.size, 5, none⟩) z0).trans q0_5
  replace q0_6 := (hb2.cell (p := ⟨w.heap.size, 6, none⟩) z0).trans q0_6
  replace q0_7 := (hb2.cell (p := ⟨w.heap.size, 7, none⟩) z0).trans q0_7
  replace q1_0 := (hb2.cell (p := ⟨w.heap.size + 1, 0, none⟩) z1).trans q1_0
  replace q1_1 := (hb2.cell (p := ⟨w.heap.size + 1, 1, none⟩) z1).trans q1_1
  replace q1_2 := (hb2.cell (p := ⟨w.heap.size + 1, 2, none⟩) z1).trans q1_2
  replace q1_3 := (hb2.cell (p := ⟨w.heap.size + 1, 3, none⟩) z1).trans q1_3
  replace q1_4 := (hb2.cell (p := ⟨w.heap.size + 1, 4, none⟩) z1).trans q1_4
  replace q1_5 := (hb2.cell (p := ⟨w.heap.size + 1, 5, none⟩) z1).trans q1_5
  replace q1_6 := (hb2.cell (p := ⟨w.heap.size + 1, 6, none⟩) z1).trans q1_6
  replace q1_7 := (hb2.cell (p := ⟨w.heap.size + 1, 7, none⟩) z1).trans q1_7
  replace z0 := Nat.lt_of_lt_of_le z0 hb2.size
  replace z1 := Nat.lt_of_lt_of_le z1 hb2.size
  clear hb2 f0
  go_wp2
  refine bodyPost_ret (by simp [results, Tryz.results23, go_sem, *] <;> rfl) rfl ⟨⟨A2, c2, rfl, (by (refine MadeV.base (b := w.heap.size + 2) ?_ (by omega)); (repeat refine MadeV.setCell ?_ (by first | omega | (simp; omega)) _); first | exact hM | exact hM.base (by omega))⟩, (by repeat (first | (with_reducible assumption) | (with_reducible exact Below.refl _ _) | (with_reducible refine Below.alloc ?_ (by first | omega | (simp; omega) | (simp; done) | (dsimp only; omega)) _) | (with_reducible refine Below.setCell ?_ (by first | omega | (simp; omega) | (simp; done) | (dsimp only; omega)) _) | (with_reducible refine Below.drew ?_) | (with_reducible refine Below.trans ?_ (Below.mono (by assumption) (by first | omega | (simp; omega) | (simp; done) | (dsimp only; omega))))))⟩

set_option maxRecDepth 100000 in
set_option maxHeartbeats 4000000 in
theorem parts_value (i : In) (n : Bool) (l : List Str) (A : Option Addr) (c : Nat) (w : World) :
    Calls Tryz.prog 28 #[.agg #[.bool i.s.s, .int .i64 i.s.lo, .int .i64 i.s.hi, .bool i.c.s, .int .i64 i.c.m, .int .i64 i.c.r, .bool n, .slice A l.length c]] w fun e w' => e = .returned (.agg #[.bool i.s.s, .int .i64 i.s.lo, .int .i64 i.s.hi, .bool i.c.s, .int .i64 i.c.m, .int .i64 i.c.r, .bool n, .slice A l.length c]) ∧ Below w.heap.size w w' := by
  go_enter Tryz.func28, Tryz.ntmps28
  go_upto_region 1 with fail
  generalize hW : ((w.alloc (.cells #[.bool i.s.s, .int .i64 i.s.lo, .int .i64 i.s.hi, .bool i.c.s, .int .i64 i.c.m, .int .i64 i.c.r, .bool n, .slice A l.length c] 55)).alloc (.cells #[.bool false, .int .i64 0, .int .i64 0, .bool false, .int .i64 0, .int .i64 0, .bool false, .slice none 0 0] 30)) = W
  have q0_0 : W.cell? ⟨w.heap.size, 0, none⟩ = some (.bool i.s.s) := by rw [← hW]; simp [go_sem]
  have q0_1 : W.cell? ⟨w.heap.size, 1, none⟩ = some (.int .i64 i.s.lo) := by rw [← hW]; simp [go_sem]
  have q0_2 : W.cell? ⟨w.heap.size, 2, none⟩ = some (.int .i64 i.s.hi) := by rw [← hW]; simp [go_sem]
  have q0_3 : W.cell? ⟨w.heap.size, 3, none⟩ = some (.bool i.c.s) := by rw [← hW]; simp [go_sem]
  have q0_4 : W.cell? ⟨w.heap.size, 4, none⟩ = some (.int .i64 i.c.m) := by rw [← hW]; simp [go_sem]
  have q0_5 : W.cell? ⟨w.heap.size, 5, none⟩ = some (.int .i64 i.c.r) := by rw [← hW]; simp [go_sem]
  have q0_6 : W.cell? ⟨w.heap.size, 6, none⟩ = some (.bool n) := by rw [← hW]; simp [go_sem]
  have q0_7 : W.cell? ⟨w.heap.size, 7, none⟩ = some (.slice A l.length c) := by rw [← hW]; simp [go_sem]
  have q1_0 : W.cell? ⟨w.heap.size + 1, 0, none⟩ = some (.bool false) := by rw [← hW]; simp [go_sem]
  have q1_1 : W.cell? ⟨w.heap.size + 1, 1, none⟩ = some (.int .i64 0) := by rw [← hW]; simp [go_sem]
  have q1_2 : W.cell? ⟨w.heap.size + 1, 2, none⟩ = some (.int .i64 0) := by rw [← hW]; simp [go_sem]
  have q1_3 : W.cell? ⟨w.heap.size + 1, 3, none⟩ = some (.bool false) := by rw [← hW]; simp [go_sem]
  have q1_4 : W.cell? ⟨w.heap.size + 1, 4, none⟩ = some (.int .i64 0) := by rw [← hW]; simp [go_sem]
  have q1_5 : W.cell? ⟨w.heap.size + 1, 5, none⟩ = some (.int .i64 0) := by rw [← hW]; simp [go_sem]
  have q1_6 : W.cell? ⟨w.heap.size + 1, 6, none⟩ = some (.bool false) := by rw [← hW]; simp [go_sem]
  have q1_7 : W.cell? ⟨w.heap.size + 1, 7, none⟩ = some (.slice none 0 0) := by rw [← hW]; simp [go_sem]
  have f0 : ∀ o, W.frozen? ⟨w.heap.size, o, none⟩ = false := by intro o; rw [← hW]; simp [go_sem]
  have f1 : ∀ o, W.frozen? ⟨w.heap.size + 1, o, none⟩ = false := by intro o; rw [← hW]; simp [go_sem]
  have z0 : w.heap.size < W.heap.size := by rw [← hW]; first | (simp; done) | (simp; omega)
  have z1 : w.heap.size + 1 < W.heap.size := by rw [← hW]; first | (simp; done) | (simp; omega)
  have HW : Below w.heap.size w W := by rw [← hW]; exact (by repeat (first | (with_reducible assumption) | (with_reducible exact Below.refl _ _) | (with_reducible refine Below.alloc ?_ (by first | omega | (simp; omega) | (simp; done) | (dsimp only; omega)) _) | (with_reducible refine Below.setCell ?_ (by first | omega | (simp; omega) | (simp; done) | (dsimp only; omega)) _) | (with_reducible refine Below.drew ?_) | (with_reducible refine Below.trans ?_ (Below.mono (by assumption) (by first | omega | (simp; omega) | (simp; done) | (dsimp only; omega))))))
  clear hW
  clear f0
  go_wp2
  refine bodyPost_ret (by simp [results, Tryz.results28, go_sem, *] <;> rfl) rfl ⟨rfl, (by repeat (first | (with_reducible assumption) | (with_reducible exact Below.refl _ _) | (with_reducible refine Below.alloc ?_ (by first | omega | (simp; omega) | (simp; done) | (dsimp only; omega)) _) | (with_reducible refine Below.setCell ?_ (by first | omega | (simp; omega) | (simp; done) | (dsimp only; omega)) _) | (with_reducible refine Below.drew ?_) | (with_reducible refine Below.trans ?_ (Below.mono (by assumption) (by first | omega | (simp; omega) | (simp; done) | (dsimp only; omega))))))⟩

set_option maxRecDepth 100000 in
set_option maxHeartbeats 4000000 in
theorem value_Clean (i : In) (hi : i.ok) (n : Bool) (l : List Str) (A : Option Addr) (c : Nat) (w : World) (hm : l.length * 16 ≤ 140737488355328) (hz : A = none → c = 0) (hr : SRow w A l) :
    Calls Tryz.prog 32 #[.agg #[.bool i.s.s, .int .i64 i.s.lo, .int .i64 i.s.hi, .bool i.c.s, .int .i64 i.c.m, .int .i64 i.c.r, .bool n, .slice A l.length c]] w fun e w' => (∃ A' c', e = .returned (.agg #[.bool (i.clean).s.s, .int .i64 (i.clean).s.lo, .int .i64 (i.clean).s.hi, .bool (i.clean).c.s, .int .i64 (i.clean).c.m, .int .i64 (i.clean).c.r, .bool n, .slice A' (srt l).length c']) ∧ MadeV w.heap.size w' A' c' (srt l)) ∧ Below w.heap.size w w' := by
  have HC : Hid (∀ w', Below w.heap.size w w' → _) := Lib.hid (fun w' h => value_split i hi n l A c w' hm hz (hr.mono h))
  clear hi hr
  generalize i.clean = x at *
  go_enter Tryz.func32, Tryz.ntmps32
  go_upto_region 1 with fail
  generalize hW : ((w.alloc (.cells #[.bool i.s.s, .int .i64 i.s.lo, .int .i64 i.s.hi, .bool i.c.s, .int .i64 i.c.m, .int .i64 i.c.r, .bool n, .slice A l.length c] 30)).alloc (.cells #[.bool false, .int .i64 0, .int .i64 0, .bool false, .int .i64 0, .int .i64 0, .bool false, .slice none 0 0] 30)) = W
  have q0_0 : W.cell? ⟨w.heap.size, 0, none⟩ = some (.bool i.s.s) := by rw [← hW]; simp [go_sem]
  have q0_1 : W.cell? ⟨w.heap.size, 1, none⟩ = some (.int .i64 i.s.lo) := by rw [← hW]; simp [go_sem]
  have q0_2 : W.cell? ⟨w.heap.size, 2, none⟩ = some (.int .i64 i.s.hi) := by rw [← hW]; simp [go_sem]
  have q0_3 : W.cell? ⟨w.heap.size, 3, none⟩ = some (.bool i.c.s) := by rw [← hW]; simp [go_sem]
  have q0_4 : W.cell? ⟨w.heap.size, 4, none⟩ = some (.int .i64 i.c.m) := by rw [← hW]; simp [go_sem]
  have q0_5 : W.cell? ⟨w.heap.size, 5, none⟩ = some (.int .i64 i.c.r) := by rw [← hW]; simp [go_sem]
  have q0_6 : W.cell? ⟨w.heap.size, 6, none⟩ = some (.bool n) := by rw [← hW]; simp [go_sem]
  have q0_7 : W.cell? ⟨w.heap.size, 7, none⟩ = some (.slice A l.length c) := by rw [← hW]; simp [go_sem]
  have q1_0 : W.cell? ⟨w.heap.size + 1, 0, none⟩ = some (.bool false) := by rw [← hW]; simp [go_sem]
  have q1_1 : W.cell? ⟨w.heap.size + 1, 1, none⟩ = some (.int .i64 0) := by rw [← hW]; simp [go_sem]
  have q1_2 : W.cell? ⟨w.heap.size + 1, 2, none⟩ = some (.int .i64 0) := by rw [← hW]; simp [go_sem]
  have q1_3 : W.cell? ⟨w.heap.size + 1, 3, none⟩ = some (.bool false) := by rw [← hW]; simp [go_sem]
  have q1_4 : W.cell? ⟨w.heap.size + 1, 4, none⟩ = some (.int .i64 0) := by rw [← hW]; simp [go_sem]
  have q1_5 : W.cell? ⟨w.heap.size + 1, 5, none⟩ = some (.int .i64 0) := by rw [← hW]; simp [go_sem]
  have q1_6 : W.cell? ⟨w.heap.size + 1, 6, none⟩ = some (.bool false) := by rw [← hW]; simp [go_sem]
  have q1_7 : W.cell? ⟨w.heap.size + 1, 7, none⟩ = some (.slice none 0 0) := by rw [← hW]; simp [go_sem]
  have f0 : ∀ o, W.frozen? ⟨w.heap.size, o, none⟩ = false := by intro o; rw [← hW]; simp [go_sem]
  have f1 : ∀ o, W.frozen? ⟨w.heap.size + 1, o, none⟩ = false := by intro o; rw [← hW]; simp [go_sem]
  have z0 : w.heap.size < W.heap.size := by rw [← hW]; first | (simp; done) | (simp; omega)
  have z1 : w.heap.size + 1 < W.heap.size := by rw [← hW]; first | (simp; done) | (simp; omega)
  have HW : Below w.heap.size w W := by rw [← hW]; exact (by repeat (first | (with_reducible assumption) | (with_reducible exact Below.refl _ _) | (with_reducible refine Below.alloc ?_ (by first | omega | (simp; omega) | (simp; done) | (dsimp only; omega)) _) | (with_reducible refine Below.setCell ?_ (by first | omega | (simp; omega) | (simp; done) | (dsimp only; omega)) _) | (with_reducible refine Below.drew ?_) | (with_reducible refine Below.trans ?_ (Below.mono (by assumption) (by first | omega | (simp; omega) | (simp; done) | (dsimp only; omega))))))
  clear hW
  go_wp2_with fail
  go_at_call 23
  refine (HC.out _ HW).mono ?_
  rintro e w2 ⟨⟨A2, c2, rfl, hM⟩, hb2⟩
  replace f1 := fun o => (hb2.frozen (p := ⟨w.heap.size + 1, o, none⟩) z1).trans (f1 o)
  have HB := HW.trans (hb2.mono HW.size)
  have zz := z1
  replace q0_0 := (hb2.cell (p := ⟨w.heap.size, 0, none⟩) z0).trans q0_0
  replace q0_1 := (hb2.cell (p := ⟨w.heap.size, 1, none⟩) z0).trans q0_1
  replace q0_2 := (hb2.cell (p := ⟨w.heap.size, 2, none⟩) z0).trans q0_2
  replace q0_3 := (hb2.cell (p := ⟨w.heap.size, 3, none⟩) z0).trans q0_3
  replace q0_4 := (hb2.cell (p := ⟨w.heap.size, 4, none⟩) z0).trans q0_4
  replace q0_5 := (hb2.cell (p := ⟨w.heap.size, 5, none⟩) z0).trans q0_5
  replace q0_6 := (hb2.cell (p := ⟨w.heap.size, 6, none⟩) z0).trans q0_6
  replace q0_7 := (hb2.cell (p := ⟨w.heap.size, 7, none⟩) z0).trans q0_7
  replace q1_0 := (hb2.cell (p := ⟨w.heap.size + 1, 0, none⟩) z1).trans q1_0
  replace q1_1 := (hb2.cell (p := ⟨w.heap.size + 1, 1, none⟩) z1).trans q1_1
  replace q1_2 := (hb2.cell (p := ⟨w.heap.size + 1, 2, none⟩) z1).trans q1_2
  replace q1_3 := (hb2.cell (p := ⟨w.heap.size + 1, 3, none⟩) z1).trans q1_3
  replace q1_4 := (hb2.cell (p := ⟨w.heap.size + 1, 4, none⟩) z1).trans q1_4
  replace q1_5 := (hb2.cell (p := ⟨w.heap.size + 1, 5, none⟩) z1).trans q1_5
  replace q1_6 := (hb2.cell (p := ⟨w.heap.size + 1, 6, none⟩) z1).trans q1_6
  replace q1_7 := (hb2.cell (p := ⟨w.heap.size + 1, 7, none⟩) z1).trans q1_7
  replace z0 := Nat.lt_of_lt_of_le z0 hb2.size
  replace z1 := Nat.lt_of_lt_of_le z1 hb2.size
  clear hb2 f0
  go_wp2_with fail
  go_at_call 28
  refine (parts_value x n (srt l) A2 c2 w2).mono ?_
  rintro e w3 ⟨rfl, hb3⟩
  replace f1 := fun o => (hb3.frozen (p := ⟨w.heap.size + 1, o, none⟩) z1).trans (f1 o)
  replace HB := HB.trans (hb3.mono HB.size)
  replace hM := hM.mono hb3
  replace q0_0 := (hb3.cell (p := ⟨w.heap.size, 0, none⟩) z0).trans q0_0
  replace q0_1 := (hb3.cell (p := ⟨w.heap.size, 1, none⟩) z0).trans q0_1
  replace q0_2 := (hb3.cell (p := ⟨w.heap.size, 2, none⟩) z0).trans q0_2
  replace q0_3 := (hb3.cell (p := ⟨w.heap.size, 3, none⟩) z0).trans q0_3
  replace q0_4 := (hb3.cell (p := ⟨w.heap.size, 4, none⟩) z0).trans q0_4
  replace q0_5 := (hb3.cell (p := ⟨w.heap.size, 5, none⟩) z0).trans q0_5
  replace q0_6 := (hb3.cell (p := ⟨w.heap.size, 6, none⟩) z0).trans q0_6
  replace q0_7 := (hb3.cell (p := ⟨w.heap.size, 7, none⟩) z0).trans q0_7
  replace q1_0 := (hb3.cell (p := ⟨w.heap.size + 1, 0, none⟩) z1).trans q1_0
  replace q1_1 := (hb3.cell (p := ⟨w.heap.size + 1, 1, none⟩) z1).trans q1_1
  replace q1_2 := (hb3.cell (p := ⟨w.heap.size + 1, 2, none⟩) z1).trans q1_2
  replace q1_3 := (hb3.cell (p := ⟨w.heap.size + 1, 3, none⟩) z1).trans q1_3
  replace q1_4 := (hb3.cell (p := ⟨w.heap.size + 1, 4, none⟩) z1).trans q1_4
  replace q1_5 := (hb3.cell (p := ⟨w.heap.size + 1, 5, none⟩) z1).trans q1_5
  replace q1_6 := (hb3.cell (p := ⟨w.heap.size + 1, 6, none⟩) z1).trans q1_6
  replace q1_7 := (hb3.cell (p := ⟨w.heap.size + 1, 7, none⟩) z1).trans q1_7
  replace z0 := Nat.lt_of_lt_of_le z0 hb3.size
  replace z1 := Nat.lt_of_lt_of_le z1 hb3.size
  clear hb3
  go_wp2
  refine bodyPost_ret (by simp [results, Tryz.results32, go_sem, *] <;> rfl) rfl ⟨⟨A2, c2, rfl, (by (refine MadeV.base (b := w.heap.size + 2) ?_ (by omega)); (repeat refine MadeV.setCell ?_ (by first | omega | (simp; omega)) _); first | exact hM | exact hM.base (by omega))⟩, (by repeat (first | (with_reducible assumption) | (with_reducible exact Below.refl _ _) | (with_reducible refine Below.alloc ?_ (by first | omega | (simp; omega) | (simp; done) | (dsimp only; omega)) _) | (with_reducible refine Below.setCell ?_ (by first | omega | (simp; omega) | (simp; done) | (dsimp only; omega)) _) | (with_reducible refine Below.drew ?_) | (with_reducible refine Below.trans ?_ (Below.mono (by assumption) (by first | omega | (simp; omega) | (simp; done) | (dsimp only; omega))))))⟩

set_option maxRecDepth 100000 in
set_option maxHeartbeats 4000000 in
theorem ints_has (i : In) (hi : I64 i.c.m) (n : Int) (w : World) :
    Calls Tryz.prog 51 #[.agg #[.bool i.s.s, .int .i64 i.s.lo, .int .i64 i.s.hi, .bool i.c.s, .int .i64 i.c.m, .int .i64 i.c.r], .int .i64 n] w fun e w' => e = .returned (.bool (i.has n)) ∧ Below w.heap.size w w' := by
  have h1 := span_has i.s n
  have H2 := Lib.hid (cong_has i.c n hi)
  unfold In.has
  cases h : i.s.has n
  all_goals
    rw [h] at h1
    have H1 := Lib.hid h1
    clear h1 h
    generalize i.c.has n = b at *
    go_enter Tryz.func51, Tryz.ntmps51
    go_wp2_with (first | (go_at_call 90; (with_reducible refine (H1.out _).mono ?_); rintro e w1 ⟨rfl, hb1⟩; obtain ⟨hc1, hf1⟩ := bcell hb1; have hz1 := hb1.size; (try simp at hz1); (try have hy1 := Nat.lt_of_succ_le hz1); (try have hv1 := Nat.lt_of_succ_lt hy1); (try have hw10 : w.heap.size < w1.heap.size := by omega); (try have hw11 : w.heap.size + 1 < w1.heap.size := by omega); (try have hw12 : w.heap.size + 1 + 1 < w1.heap.size := by omega); (try have hw13 : w.heap.size + 1 + 1 + 1 < w1.heap.size := by omega)) | (go_at_call 92; (with_reducible refine (H2.out _).mono ?_); rintro e w2 ⟨rfl, hb2⟩; obtain ⟨hc2, hf2⟩ := bcell hb2; have hz2 := hb2.size; (try simp at hz2); (try have hy2 := Nat.lt_of_succ_le hz2); (try have hv2 := Nat.lt_of_succ_lt hy2); (try have hw20 : w.heap.size < w2.heap.size := by omega); (try have hw21 : w.heap.size + 1 < w2.heap.size := by omega); (try have hw22 : w.heap.size + 1 + 1 < w2.heap.size := by omega); (try have hw23 : w.heap.size + 1 + 1 + 1 < w2.heap.size := by omega)))
    go_ret
    exact ⟨rfl, (by repeat (first | (with_reducible assumption) | (with_reducible exact Below.refl _ _) | (with_reducible refine Below.alloc ?_ (by first | omega | (simp; omega) | (simp; done) | (dsimp only; omega)) _) | (with_reducible refine Below.setCell ?_ (by first | omega | (simp; omega) | (simp; done) | (dsimp only; omega)) _) | (with_reducible refine Below.drew ?_) | (with_reducible refine Below.trans ?_ (Below.mono (by assumption) (by first | omega | (simp; omega) | (simp; done) | (dsimp only; omega))))))⟩

set_option maxRecDepth 100000 in
set_option maxHeartbeats 4000000 in
theorem value_HasInt (i : In) (hi : I64 i.c.m) (n : Bool) (l : List Str) (A : Option Addr) (c : Nat) (k : Int) (w : World) :
    Calls Tryz.prog 16 #[.agg #[.bool i.s.s, .int .i64 i.s.lo, .int .i64 i.s.hi, .bool i.c.s, .int .i64 i.c.m, .int .i64 i.c.r, .bool n, .slice A l.length c], .int .i64 k] w fun e w' => e = .returned (.bool (i.has k)) ∧ Below w.heap.size w w' := by
  have H1 := Lib.hid (ints_has i hi k)
  generalize i.has k = b at *
  go_enter Tryz.func16, Tryz.ntmps16
  go_wp2_with (go_at_call 51; (with_reducible refine (H1.out _).mono ?_); rintro e w1 ⟨rfl, hb1⟩; obtain ⟨hc1, hf1⟩ := bcell hb1; have hz1 := hb1.size; (try simp at hz1); (try have hy1 := Nat.lt_of_succ_le hz1); (try have hv1 := Nat.lt_of_succ_lt hy1); (try have hw10 : w.heap.size < w1.heap.size := by omega); (try have hw11 : w.heap.size + 1 < w1.heap.size := by omega); (try have hw12 : w.heap.size + 1 + 1 < w1.heap.size := by omega); (try have hw13 : w.heap.size + 1 + 1 + 1 < w1.heap.size := by omega))
  go_ret
  exact ⟨rfl, (by repeat (first | (with_reducible assumption) | (with_reducible exact Below.refl _ _) | (with_reducible refine Below.alloc ?_ (by first | omega | (simp; omega) | (simp; done) | (dsimp only; omega)) _) | (with_reducible refine Below.setCell ?_ (by first | omega | (simp; omega) | (simp; done) | (dsimp only; omega)) _) | (with_reducible refine Below.drew ?_) | (with_reducible refine Below.trans ?_ (Below.mono (by assumption) (by first | omega | (simp; omega) | (simp; done) | (dsimp only; omega))))))⟩

set_option maxRecDepth 100000 in
set_option maxHeartbeats 4000000 in
theorem value_tight (s : Sp) (c : Cg) (hs : s.ok) (hc : c.std) (hz : c.m = 0 ∨ s.none = false) (w : World) :
    Calls Tryz.prog 82 #[.agg #[.bool s.s, .int .i64 s.lo, .int .i64 s.hi], .agg #[.bool c.s, .int .i64 c.m, .int .i64 c.r]] w fun e w' => e = .returned (.agg #[.bool (tightI s c).s, .int .i64 (tightI s c).lo, .int .i64 (tightI s c).hi]) ∧ Below w.heap.size w w' := by
  have hcm := hc.1.1; have hcr := hc.1.2; have hlo := hs.1; have hhi := hs.2
  unfold tightI
  by_cases h0 : c.m = 0
  · rw [if_pos h0]
    obtain ⟨cs, cm, cr⟩ := c
    dsimp only at *
    subst h0
    have H1 := Lib.hid (span_one cr)
    have H2 := Lib.hid (span_meet s (Sp.of cr cr))
    generalize Sp.of cr cr = o at *
    generalize s.meet o = t at *
    clear hs hc hz hcm hcr hlo hhi
    go_enter Tryz.func82, Tryz.ntmps82
    go_upto_region 1 with fail
    generalize hW : (((w.alloc (.cells #[.bool s.s, .int .i64 s.lo, .int .i64 s.hi] 23)).alloc (.cells #[.bool cs, .int .i64 0, .int .i64 cr] 25)).alloc (.cells #[.bool false, .int .i64 0, .int .i64 0] 23)) = W
    have q0_0 : W.cell? ⟨w.heap.size, 0, none⟩ = some (.bool s.s) := by rw [← hW]; simp [go_sem]
    have q0_1 : W.cell? ⟨w.heap.size, 1, none⟩ = some (.int .i64 s.lo) := by rw [← hW]; simp [go_sem]
    have q0_2 : W.cell? ⟨w.heap.size, 2, none⟩ = some (.int .i64 s.hi) := by rw [← hW]; simp [go_sem]
    have q1_0 : W.cell? ⟨w.heap.size + 1, 0, none⟩ = some (.bool cs) := by rw [← hW]; simp [go_sem]
    have q1_1 : W.cell? ⟨w.heap.size + 1, 1, none⟩ = some (.int .i64 0) := by rw [← hW]; simp [go_sem]
    have q1_2 : W.cell? ⟨w.heap.size + 1, 2, none⟩ = some (.int .i64 cr) := by rw [← hW]; simp [go_sem]
    have q2_0 : W.cell? ⟨w.heap.size + 1 + 1, 0, none⟩ = some (.bool false) := by rw [← hW]; simp [go_sem]
    have q2_1 : W.cell? ⟨w.heap.size + 1 + 1, 1, none⟩ = some (.int .i64 0) := by rw [← hW]; simp [go_sem]
    have q2_2 : W.cell? ⟨w.heap.size + 1 + 1, 2, none⟩ = some (.int .i64 0) := by rw [← hW]; simp [go_sem]
    have f0 : ∀ o, W.frozen? ⟨w.heap.size, o, none⟩ = false := by intro o; rw [← hW]; simp [go_sem]
    have f1 : ∀ o, W.frozen? ⟨w.heap.size + 1, o, none⟩ = false := by intro o; rw [← hW]; simp [go_sem]
    have f2 : ∀ o, W.frozen? ⟨w.heap.size + 1 + 1, o, none⟩ = false := by intro o; rw [← hW]; simp [go_sem]
    have z0 : w.heap.size < W.heap.size := by rw [← hW]; first | (simp; done) | (simp; omega)
    have z1 : w.heap.size + 1 < W.heap.size := by rw [← hW]; first | (simp; done) | (simp; omega)
    have z2 : w.heap.size + 1 + 1 < W.heap.size := by rw [← hW]; first | (simp; done) | (simp; omega)
    have HW : Below w.heap.size w W := by rw [← hW]; exact (by repeat (first | (with_reducible assumption) | (with_reducible exact Below.refl _ _) | (with_reducible refine Below.alloc ?_ (by first | omega | (simp; omega) | (simp; done) | (dsimp only; omega)) _) | (with_reducible refine Below.setCell ?_ (by first | omega | (simp; omega) | (simp; done) | (dsimp only; omega)) _) | (with_reducible refine Below.drew ?_) | (with_reducible refine Below.trans ?_ (Below.mono (by assumption) (by first | omega | (simp; omega) | (simp; done) | (dsimp only; omega))))))
    clear hW
    go_wp2
    refine region_seqg (W := W) [_, _, _, _, _] [_] rfl (by kernel_rfl) (by kernel_rfl) (by repeat (first | (with_reducible assumption) | (with_reducible exact Below.refl _ _) | (with_reducible refine Below.alloc ?_ (by first | omega | (simp; omega) | (simp; done) | (dsimp only; omega)) _) | (with_reducible refine Below.setCell ?_ (by first | omega | (simp; omega) | (simp; done) | (dsimp only; omega)) _) | (with_reducible refine Below.drew ?_) | (with_reducible refine Below.trans ?_ (Below.mono (by assumption) (by first | omega | (simp; omega) | (simp; done) | (dsimp only; omega)))))) (fun fin hfin => ?_)
    iterate 5
      first
        | (refine SeqG.yes (v := ?_) (A' := ?_) rfl (fun γ => by rfl) ?_ ?_ ?_
           rotate_left 2
           · intro γ w' K hS hK
             obtain ⟨hc, hf⟩ := bcell hS
             have hz := hS.size
             go_simp
             first
               | exact hK.out _ (Below.refl _ _)
               | (go_at_call 102; (with_reducible refine (H1.out _).mono ?_); rintro e w1 ⟨rfl, hb1⟩; exact hK.out _ hb1)
               | (go_at_call 42; (with_reducible refine (H2.out _).mono ?_); rintro e w1 ⟨rfl, hb1⟩; exact hK.out _ hb1)
               | trace_state
           · intro γ; simp only [Act.put, List.setIfInBounds_toArray, List.set_cons_zero, List.set_cons_succ]; exact rfl)
        | (refine SeqG.no (A' := ?_) rfl (fun γ => by rfl) ?_ ?_
           rotate_left
           · intro γ; simp only [Act.put, List.setIfInBounds_toArray, List.set_cons_zero, List.set_cons_succ]; exact rfl)
    refine SeqG.nil (hfin.out _ _ ?_)
    clear hfin fin
    intro γ lo hi w1 hB1 hF hD
    clear hD
    replace f2 := fun o => (hB1.frozen (p := ⟨w.heap.size + 1 + 1, o, none⟩) z2).trans (f2 o)
    have HB := HW.trans (hB1.mono HW.size)
    replace q0_0 := (hB1.cell (p := ⟨w.heap.size, 0, none⟩) z0).trans q0_0
    replace q0_1 := (hB1.cell (p := ⟨w.heap.size, 1, none⟩) z0).trans q0_1
    replace q0_2 := (hB1.cell (p := ⟨w.heap.size, 2, none⟩) z0).trans q0_2
    replace q1_0 := (hB1.cell (p := ⟨w.heap.size + 1, 0, none⟩) z1).trans q1_0
    replace q1_1 := (hB1.cell (p := ⟨w.heap.size + 1, 1, none⟩) z1).trans q1_1
    replace q1_2 := (hB1.cell (p := ⟨w.heap.size + 1, 2, none⟩) z1).trans q1_2
    replace q2_0 := (hB1.cell (p := ⟨w.heap.size + 1 + 1, 0, none⟩) z2).trans q2_0
    replace q2_1 := (hB1.cell (p := ⟨w.heap.size + 1 + 1, 1, none⟩) z2).trans q2_1
    replace q2_2 := (hB1.cell (p := ⟨w.heap.size + 1 + 1, 2, none⟩) z2).trans q2_2
    replace z0 := Nat.lt_of_lt_of_le z0 hB1.size
    replace z1 := Nat.lt_of_lt_of_le z1 hB1.size
    replace z2 := Nat.lt_of_lt_of_le z2 hB1.size
    clear hF f0 f1 hB1
    refine TailL.cons (fun K hK => ?_)
    go_simp
    refine hK.out _ _ ?_
    clear hK K
    refine TailL.nil ?_
    go_wp2
    refine bodyPost_ret (by simp [results, Tryz.results82, go_sem, *] <;> rfl) rfl ⟨rfl, (by repeat (first | (with_reducible assumption) | (with_reducible exact Below.refl _ _) | (with_reducible refine Below.alloc ?_ (by first | omega | (simp; omega) | (simp; done) | (dsimp only; omega)) _) | (with_reducible refine Below.setCell ?_ (by first | omega | (simp; omega) | (simp; done) | (dsimp only; omega)) _) | (with_reducible refine Below.drew ?_) | (with_reducible refine Below.trans ?_ (Below.mono (by assumption) (by first | omega | (simp; omega) | (simp; done) | (dsimp only; omega))))))⟩
  · rw [if_neg h0]
    have hm : 0 < c.m := by have := hc.2.1; omega
    obtain ⟨r0, r1⟩ := hc.2.2.2 hm
    obtain ⟨u0, u1, _⟩ := up_spec (lo := s.lo) r0 r1
    obtain ⟨d0, d1, _, d3⟩ := dn_spec (hi := s.hi) r0 r1
    have hlh := ((Sp.none_iff _).1 (hz.resolve_left h0)).2
    have K1 := Lib.hid (cong_mod s.lo c.m hcm)
    have K2 := Lib.hid (cong_mod (c.r - modI s.lo c.m) c.m hcm)
    have K3 := Lib.hid (cong_mod s.hi c.m hcm)
    have K4 := Lib.hid (cong_mod (modI s.hi c.m - c.r) c.m hcm)
    rw [up_mod hm] at K2
    rw [dn_mod hm] at K4
    have hml : 0 ≤ modI s.lo c.m ∧ modI s.lo c.m < c.m := by rw [modI_pos hm]; exact ⟨Int.emod_nonneg _ (by omega), Int.emod_lt_of_pos _ hm⟩
    have hmh : 0 ≤ modI s.hi c.m ∧ modI s.hi c.m < c.m := by rw [modI_pos hm]; exact ⟨Int.emod_nonneg _ (by omega), Int.emod_lt_of_pos _ hm⟩
    have hab : ¬ s.hi - s.lo < upI s.lo c.m c.r → s.lo ≤ s.hi - dnI s.hi c.m c.r := fun h => by
      have := up_spec (lo := s.lo) r0 r1
      have := d3 (s.lo + upI s.lo c.m c.r) (by omega) this.2.2.1
      omega
    have hof := span_of (s.lo + upI s.lo c.m c.r) (s.hi - dnI s.hi c.m c.r)
    generalize upI s.lo c.m c.r = up at *
    generalize dnI s.hi c.m c.r = dn at *
    generalize modI s.lo c.m = ml at *
    generalize modI s.hi c.m = mh at *
    unfold I64 at hcm hcr hlo hhi
    have e1 : IntKind.i64.wrap (c.r - ml) = c.r - ml := by rw [IntKind.wrap_i64]; omega
    have e2 : IntKind.i64.wrap (mh - c.r) = mh - c.r := by rw [IntKind.wrap_i64]; omega
    have e1' : wrap64 (c.r - ml) = c.r - ml := by unfold wrap64; omega
    have e2' : wrap64 (mh - c.r) = mh - c.r := by unfold wrap64; omega
    have e3 : IntKind.u64.wrap (IntKind.u64.wrap s.hi - IntKind.u64.wrap s.lo) = s.hi - s.lo := by rw [wrapu, wrapu, wrapu]; omega
    have e4 : IntKind.u64.wrap up = up := by rw [wrapu]; omega
    have hbb : decide (s.hi - s.lo < up) = true ∨ decide (s.hi - s.lo < up) = false := by cases decide (s.hi - s.lo < up) <;> simp
    have K5 := Lib.hid hof
    clear hof hs hc hz
    rcases hbb with hb | hb
    · rw [if_pos (of_decide_eq_true hb), show Sp.zero = ⟨false, 0, 0⟩ from rfl]
      dsimp only
      have hm0 : (c.m == 0) = false := by simpa using h0
      clear hab d3
      go_enter Tryz.func82, Tryz.ntmps82
      go_upto_region 1 with fail
      generalize hW : (((w.alloc (.cells #[.bool s.s, .int .i64 s.lo, .int .i64 s.hi] 23)).alloc (.cells #[.bool c.s, .int .i64 c.m, .int .i64 c.r] 25)).alloc (.cells #[.bool false, .int .i64 0, .int .i64 0] 23)) = W
      have q0_0 : W.cell? ⟨w.heap.size, 0, none⟩ = some (.bool s.s) := by rw [← hW]; simp [go_sem]
      have q0_1 : W.cell? ⟨w.heap.size, 1, none⟩ = some (.int .i64 s.lo) := by rw [← hW]; simp [go_sem]
      have q0_2 : W.cell? ⟨w.heap.size, 2, none⟩ = some (.int .i64 s.hi) := by rw [← hW]; simp [go_sem]
      have q1_0 : W.cell? ⟨w.heap.size + 1, 0, none⟩ = some (.bool c.s) := by rw [← hW]; simp [go_sem]
      have q1_1 : W.cell? ⟨w.heap.size + 1, 1, none⟩ = some (.int .i64 c.m) := by rw [← hW]; simp [go_sem]
      have q1_2 : W.cell? ⟨w.heap.size + 1, 2, none⟩ = some (.int .i64 c.r) := by rw [← hW]; simp [go_sem]
      have q2_0 : W.cell? ⟨w.heap.size + 1 + 1, 0, none⟩ = some (.bool false) := by rw [← hW]; simp [go_sem]
      have q2_1 : W.cell? ⟨w.heap.size + 1 + 1, 1, none⟩ = some (.int .i64 0) := by rw [← hW]; simp [go_sem]
      have q2_2 : W.cell? ⟨w.heap.size + 1 + 1, 2, none⟩ = some (.int .i64 0) := by rw [← hW]; simp [go_sem]
      have f0 : ∀ o, W.frozen? ⟨w.heap.size, o, none⟩ = false := by intro o; rw [← hW]; simp [go_sem]
      have f1 : ∀ o, W.frozen? ⟨w.heap.size + 1, o, none⟩ = false := by intro o; rw [← hW]; simp [go_sem]
      have f2 : ∀ o, W.frozen? ⟨w.heap.size + 1 + 1, o, none⟩ = false := by intro o; rw [← hW]; simp [go_sem]
      have z0 : w.heap.size < W.heap.size := by rw [← hW]; first | (simp; done) | (simp; omega)
      have z1 : w.heap.size + 1 < W.heap.size := by rw [← hW]; first | (simp; done) | (simp; omega)
      have z2 : w.heap.size + 1 + 1 < W.heap.size := by rw [← hW]; first | (simp; done) | (simp; omega)
      have HW : Below w.heap.size w W := by rw [← hW]; exact (by repeat (first | (with_reducible assumption) | (with_reducible exact Below.refl _ _) | (with_reducible refine Below.alloc ?_ (by first | omega | (simp; omega) | (simp; done) | (dsimp only; omega)) _) | (with_reducible refine Below.setCell ?_ (by first | omega | (simp; omega) | (simp; done) | (dsimp only; omega)) _) | (with_reducible refine Below.drew ?_) | (with_reducible refine Below.trans ?_ (Below.mono (by assumption) (by first | omega | (simp; omega) | (simp; done) | (dsimp only; omega))))))
      clear hW
      go_wp2
      refine region_seq (S := fun w' => Below W.heap.size W w') rfl (by kernel_rfl) (by kernel_rfl) (by repeat (first | (with_reducible assumption) | (with_reducible exact Below.refl _ _) | (with_reducible refine Below.alloc ?_ (by first | omega | (simp; omega) | (simp; done) | (dsimp only; omega)) _) | (with_reducible refine Below.setCell ?_ (by first | omega | (simp; omega) | (simp; done) | (dsimp only; omega)) _) | (with_reducible refine Below.drew ?_) | (with_reducible refine Below.trans ?_ (Below.mono (by assumption) (by first | omega | (simp; omega) | (simp; done) | (dsimp only; omega)))))) (fun fin hfin => ?_)
      iterate 24
        first
          | (refine SeqL.yes (v := ?_) (A' := ?_) rfl (by rfl) ?_ ?_ ?_
             rotate_left 2
             · intro w' K hS hK
               obtain ⟨hc, hf⟩ := bcell hS
               have hz := hS.size
               go_simp
               first
                 | exact hK.out _ hS
                 | (go_at_call 96; (with_reducible refine (K1.out _).mono ?_); rintro e w1 ⟨rfl, rfl⟩; exact hK.out _ hS)
                 | (go_at_call 96; (with_reducible refine (K2.out _).mono ?_); rintro e w1 ⟨rfl, rfl⟩; exact hK.out _ hS)
                 | (go_at_call 96; (with_reducible refine (K3.out _).mono ?_); rintro e w1 ⟨rfl, rfl⟩; exact hK.out _ hS)
                 | (go_at_call 96; (with_reducible refine (K4.out _).mono ?_); rintro e w1 ⟨rfl, rfl⟩; exact hK.out _ hS)
                 | trace_state
             · simp only [Act.put, List.setIfInBounds_toArray, List.set_cons_zero, List.set_cons_succ]; exact rfl)
          | (refine SeqL.no (A' := ?_) rfl (by rfl) ?_ ?_
             rotate_left
             · simp only [Act.put, List.setIfInBounds_toArray, List.set_cons_zero, List.set_cons_succ]; exact rfl)
      refine SeqL.nil (hfin.out _ ?_)
      clear hfin fin
      intro w1 hS1
      replace f2 := fun o => (hS1.frozen (p := ⟨w.heap.size + 1 + 1, o, none⟩) z2).trans (f2 o)
      have HB := HW.trans (hS1.mono HW.size)
      replace q0_0 := (hS1.cell (p := ⟨w.heap.size, 0, none⟩) z0).trans q0_0
      replace q0_1 := (hS1.cell (p := ⟨w.heap.size, 1, none⟩) z0).trans q0_1
      replace q0_2 := (hS1.cell (p := ⟨w.heap.size, 2, none⟩) z0).trans q0_2
      replace q1_0 := (hS1.cell (p := ⟨w.heap.size + 1, 0, none⟩) z1).trans q1_0
      replace q1_1 := (hS1.cell (p := ⟨w.heap.size + 1, 1, none⟩) z1).trans q1_1
      replace q1_2 := (hS1.cell (p := ⟨w.heap.size + 1, 2, none⟩) z1).trans q1_2
      replace q2_0 := (hS1.cell (p := ⟨w.heap.size + 1 + 1, 0, none⟩) z2).trans q2_0
      replace q2_1 := (hS1.cell (p := ⟨w.heap.size + 1 + 1, 1, none⟩) z2).trans q2_1
      replace q2_2 := (hS1.cell (p := ⟨w.heap.size + 1 + 1, 2, none⟩) z2).trans q2_2
      replace z0 := Nat.lt_of_lt_of_le z0 hS1.size
      replace z1 := Nat.lt_of_lt_of_le z1 hS1.size
      replace z2 := Nat.lt_of_lt_of_le z2 hS1.size
      clear hS1 f0 f1
      go_wp2
      refine bodyPost_ret (by simp [results, Tryz.results82, go_sem, *] <;> rfl) rfl ⟨rfl, (by repeat (first | (with_reducible assumption) | (with_reducible exact Below.refl _ _) | (with_reducible refine Below.alloc ?_ (by first | omega | (simp; omega) | (simp; done) | (dsimp only; omega)) _) | (with_reducible refine Below.setCell ?_ (by first | omega | (simp; omega) | (simp; done) | (dsimp only; omega)) _) | (with_reducible refine Below.drew ?_) | (with_reducible refine Below.trans ?_ (Below.mono (by assumption) (by first | omega | (simp; omega) | (simp; done) | (dsimp only; omega))))))⟩
    · rw [if_neg (of_decide_eq_false hb)]
      have hb2 := of_decide_eq_false hb
      have hb3 := hab hb2
      have e5 : wrap64 (s.lo + up) = s.lo + up := by unfold wrap64; omega
      have e6 : wrap64 (s.hi - dn) = s.hi - dn := by unfold wrap64; omega
      generalize Sp.of (s.lo + up) (s.hi - dn) = t at *
      have hm0 : (c.m == 0) = false := by simpa using h0
      clear hab d3
      go_enter Tryz.func82, Tryz.ntmps82
      go_upto_region 1 with fail
      generalize hW : (((w.alloc (.cells #[.bool s.s, .int .i64 s.lo, .int .i64 s.hi] 23)).alloc (.cells #[.bool c.s, .int .i64 c.m, .int .i64 c.r] 25)).alloc (.cells #[.bool false, .int .i64 0, .int .i64 0] 23)) = W
      have q0_0 : W.cell? ⟨w.heap.size, 0, none⟩ = some (.bool s.s) := by rw [← hW]; simp [go_sem]
      have q0_1 : W.cell? ⟨w.heap.size, 1, none⟩ = some (.int .i64 s.lo) := by rw [← hW]; simp [go_sem]
      have q0_2 : W.cell? ⟨w.heap.size, 2, none⟩ = some (.int .i64 s.hi) := by rw [← hW]; simp [go_sem]
      have q1_0 : W.cell? ⟨w.heap.size + 1, 0, none⟩ = some (.bool c.s) := by rw [← hW]; simp [go_sem]
      have q1_1 : W.cell? ⟨w.heap.size + 1, 1, none⟩ = some (.int .i64 c.m) := by rw [← hW]; simp [go_sem]
      have q1_2 : W.cell? ⟨w.heap.size + 1, 2, none⟩ = some (.int .i64 c.r) := by rw [← hW]; simp [go_sem]
      have q2_0 : W.cell? ⟨w.heap.size + 1 + 1, 0, none⟩ = some (.bool false) := by rw [← hW]; simp [go_sem]
      have q2_1 : W.cell? ⟨w.heap.size + 1 + 1, 1, none⟩ = some (.int .i64 0) := by rw [← hW]; simp [go_sem]
      have q2_2 : W.cell? ⟨w.heap.size + 1 + 1, 2, none⟩ = some (.int .i64 0) := by rw [← hW]; simp [go_sem]
      have f0 : ∀ o, W.frozen? ⟨w.heap.size, o, none⟩ = false := by intro o; rw [← hW]; simp [go_sem]
      have f1 : ∀ o, W.frozen? ⟨w.heap.size + 1, o, none⟩ = false := by intro o; rw [← hW]; simp [go_sem]
      have f2 : ∀ o, W.frozen? ⟨w.heap.size + 1 + 1, o, none⟩ = false := by intro o; rw [← hW]; simp [go_sem]
      have z0 : w.heap.size < W.heap.size := by rw [← hW]; first | (simp; done) | (simp; omega)
      have z1 : w.heap.size + 1 < W.heap.size := by rw [← hW]; first | (simp; done) | (simp; omega)
      have z2 : w.heap.size + 1 + 1 < W.heap.size := by rw [← hW]; first | (simp; done) | (simp; omega)
      have HW : Below w.heap.size w W := by rw [← hW]; exact (by repeat (first | (with_reducible assumption) | (with_reducible exact Below.refl _ _) | (with_reducible refine Below.alloc ?_ (by first | omega | (simp; omega) | (simp; done) | (dsimp only; omega)) _) | (with_reducible refine Below.setCell ?_ (by first | omega | (simp; omega) | (simp; done) | (dsimp only; omega)) _) | (with_reducible refine Below.drew ?_) | (with_reducible refine Below.trans ?_ (Below.mono (by assumption) (by first | omega | (simp; omega) | (simp; done) | (dsimp only; omega))))))
      clear hW
      go_wp2
      refine region_seq (S := fun w' => Below W.heap.size W w') rfl (by kernel_rfl) (by kernel_rfl) (by repeat (first | (with_reducible assumption) | (with_reducible exact Below.refl _ _) | (with_reducible refine Below.alloc ?_ (by first | omega | (simp; omega) | (simp; done) | (dsimp only; omega)) _) | (with_reducible refine Below.setCell ?_ (by first | omega | (simp; omega) | (simp; done) | (dsimp only; omega)) _) | (with_reducible refine Below.drew ?_) | (with_reducible refine Below.trans ?_ (Below.mono (by assumption) (by first | omega | (simp; omega) | (simp; done) | (dsimp only; omega)))))) (fun fin hfin => ?_)
      iterate 24
        first
          | (refine SeqL.yes (v := ?_) (A' := ?_) rfl (by rfl) ?_ ?_ ?_
             rotate_left 2
             · intro w' K hS hK
               obtain ⟨hc, hf⟩ := bcell hS
               have hz := hS.size
               go_simp
               first
                 | exact hK.out _ hS
                 | (go_at_call 96; (with_reducible refine (K1.out _).mono ?_); rintro e w1 ⟨rfl, rfl⟩; exact hK.out _ hS)
                 | (go_at_call 96; (with_reducible refine (K2.out _).mono ?_); rintro e w1 ⟨rfl, rfl⟩; exact hK.out _ hS)
                 | (go_at_call 96; (with_reducible refine (K3.out _).mono ?_); rintro e w1 ⟨rfl, rfl⟩; exact hK.out _ hS)
                 | (go_at_call 96; (with_reducible refine (K4.out _).mono ?_); rintro e w1 ⟨rfl, rfl⟩; exact hK.out _ hS)
                 | trace_state
             · simp only [Act.put, List.setIfInBounds_toArray, List.set_cons_zero, List.set_cons_succ]; exact rfl)
          | (refine SeqL.no (A' := ?_) rfl (by rfl) ?_ ?_
             rotate_left
             · simp only [Act.put, List.setIfInBounds_toArray, List.set_cons_zero, List.set_cons_succ]; exact rfl)
      refine SeqL.nil (hfin.out _ ?_)
      clear hfin fin
      intro w1 hS1
      replace f2 := fun o => (hS1.frozen (p := ⟨w.heap.size + 1 + 1, o, none⟩) z2).trans (f2 o)
      have HB := HW.trans (hS1.mono HW.size)
      replace q0_0 := (hS1.cell (p := ⟨w.heap.size, 0, none⟩) z0).trans q0_0
      replace q0_1 := (hS1.cell (p := ⟨w.heap.size, 1, none⟩) z0).trans q0_1
      replace q0_2 := (hS1.cell (p := ⟨w.heap.size, 2, none⟩) z0).trans q0_2
      replace q1_0 := (hS1.cell (p := ⟨w.heap.size + 1, 0, none⟩) z1).trans q1_0
      replace q1_1 := (hS1.cell (p := ⟨w.heap.size + 1, 1, none⟩) z1).trans q1_1
      replace q1_2 := (hS1.cell (p := ⟨w.heap.size + 1, 2, none⟩) z1).trans q1_2
      replace q2_0 := (hS1.cell (p := ⟨w.heap.size + 1 + 1, 0, none⟩) z2).trans q2_0
      replace q2_1 := (hS1.cell (p := ⟨w.heap.size + 1 + 1, 1, none⟩) z2).trans q2_1
      replace q2_2 := (hS1.cell (p := ⟨w.heap.size + 1 + 1, 2, none⟩) z2).trans q2_2
      replace z0 := Nat.lt_of_lt_of_le z0 hS1.size
      replace z1 := Nat.lt_of_lt_of_le z1 hS1.size
      replace z2 := Nat.lt_of_lt_of_le z2 hS1.size
      clear hS1 f0 f1
      go_upto_region 7 with fail
      go_wp2_with fail
      go_at_call 65
      refine (K5.out _).mono ?_
      rintro e w2 ⟨rfl, hb2⟩
      replace f2 := fun o => (hb2.frozen (p := ⟨w.heap.size + 1 + 1, o, none⟩) z2).trans (f2 o)
      replace HB := HB.trans (hb2.mono HB.size)
      replace q0_0 := (hb2.cell (p := ⟨w.heap.size, 0, none⟩) z0).trans q0_0
      replace q0_1 := (hb2.cell (p := ⟨w.heap.size, 1, none⟩) z0).trans q0_1
      replace q0_2 := (hb2.cell (p := ⟨w.heap.size, 2, none⟩) z0).trans q0_2
      replace q1_0 := (hb2.cell (p := ⟨w.heap.size + 1, 0, none⟩) z1).trans q1_0
      replace q1_1 := (hb2.cell (p := ⟨w.heap.size + 1, 1, none⟩) z1).trans q1_1
      replace q1_2 := (hb2.cell (p := ⟨w.heap.size + 1, 2, none⟩) z1).trans q1_2
      replace q2_0 := (hb2.cell (p := ⟨w.heap.size + 1 + 1, 0, none⟩) z2).trans q2_0
      replace q2_1 := (hb2.cell (p := ⟨w.heap.size + 1 + 1, 1, none⟩) z2).trans q2_1
      replace q2_2 := (hb2.cell (p := ⟨w.heap.size + 1 + 1, 2, none⟩) z2).trans q2_2
      replace z0 := Nat.lt_of_lt_of_le z0 hb2.size
      replace z1 := Nat.lt_of_lt_of_le z1 hb2.size
      replace z2 := Nat.lt_of_lt_of_le z2 hb2.size
      clear hb2
      go_wp2
      refine bodyPost_ret (by simp [results, Tryz.results82, go_sem, *] <;> rfl) rfl ⟨rfl, (by repeat (first | (with_reducible assumption) | (with_reducible exact Below.refl _ _) | (with_reducible refine Below.alloc ?_ (by first | omega | (simp; omega) | (simp; done) | (dsimp only; omega)) _) | (with_reducible refine Below.setCell ?_ (by first | omega | (simp; omega) | (simp; done) | (dsimp only; omega)) _) | (with_reducible refine Below.drew ?_) | (with_reducible refine Below.trans ?_ (Below.mono (by assumption) (by first | omega | (simp; omega) | (simp; done) | (dsimp only; omega))))))⟩
end Go.Proofs.YtdpnphnafidpiaaGreat

/- X-PARTIAL What value.Reduce, Int, Ptr, Num, Ints return: layer 8. -/
namespace Go.Proofs.YtdpnphnafidpiaaGreat
open Go.RowKit

theorem blk_upd {w : World} {b : Nat} {C : Array Value} {t : TypeId} (h : w.heap[b]? = some (.cells C t)) (o : Nat) (v : Value) : (w.setCell ⟨b, o, none⟩ v).heap[b]? = some (.cells (C.setIfInBounds o v) t) := by
  simp [World.setCell, Array.getElem?_modify, h]
theorem srt_srt (l : List Str) : srt (srt l) = srt l := srt_of (strict_srt l) (fun _ => Iff.rfl)
theorem Sp.of_ok {lo hi : Int} (h1 : I64 lo) (h2 : I64 hi) : (Sp.of lo hi).ok := by
  by_cases h : hi < lo
  · rw [Sp.of_t h]; exact Sp.zero_ok
  · rw [Sp.of_f h]; exact ⟨h1, h2⟩
theorem Sp.meet_ok {x y : Sp} (hx : x.ok) (hy : y.ok) : (x.meet y).ok := by
  unfold Sp.meet
  split
  · exact Sp.zero_ok
  · refine Sp.of_ok ?_ ?_
    · rw [Int.max_def]; split; exact hy.1; exact hx.1
    · rw [Int.min_def]; split; exact hx.2; exact hy.2
theorem In.std_tight {x : In} (hx : x.std) : x.c.m = 0 ∨ x.s.none = false := by
  rcases hx.2.2 with ⟨_, e⟩ | ⟨e, _⟩
  · left; rw [e]; rfl
  · exact Or.inr e
theorem tight_ok {x : In} (hx : x.std) : (tightI x.s x.c).ok := by
  have hlo := hx.1.1; have hhi := hx.1.2
  unfold tightI
  by_cases h0 : x.c.m = 0
  · rw [if_pos h0]
    exact Sp.meet_ok hx.1 (Sp.of_ok hx.2.1.1.2 hx.2.1.1.2)
  · rw [if_neg h0]
    have hm : 0 < x.c.m := by have := hx.2.1.2.1; omega
    obtain ⟨r0, r1⟩ := hx.2.1.2.2.2 hm
    have hu := up_spec (lo := x.s.lo) r0 r1
    have hd := dn_spec (hi := x.s.hi) r0 r1
    split
    · exact Sp.zero_ok
    · next h =>
      have h3 := hd.2.2.2 (x.s.lo + upI x.s.lo x.c.m x.c.r) (by omega) hu.2.2.1
      exact Sp.of_ok (by unfold I64 at *; omega) (by unfold I64 at *; omega)
theorem one_ok {t : Sp} {c : Cg} (ht : t.ok) (hc : c.ok) : (oneC t c).ok := by
  unfold oneC
  split
  · rw [Cg.of_nil]; exact ⟨I64_0, ht.1⟩
  · exact hc

set_option maxRecDepth 100000 in
set_option maxHeartbeats 8000000 in
theorem value_Reduce (i : In) (hi : i.ok) (n : Bool) (l : List Str) (A : Option Addr) (c : Nat) (w : World) (hm : l.length * 16 ≤ 140737488355328) (hz : A = none → c = 0) (hr : SRow w A l) :
    Calls Tryz.prog 41 #[.agg #[.bool i.s.s, .int .i64 i.s.lo, .int .i64 i.s.hi, .bool i.c.s, .int .i64 i.c.m, .int .i64 i.c.r, .bool n, .slice A l.length c]] w fun e w' => (∃ A' c', e = .returned (.agg #[.bool (i.red).s.s, .int .i64 (i.red).s.lo, .int .i64 (i.red).s.hi, .bool (i.red).c.s, .int .i64 (i.red).c.m, .int .i64 (i.red).c.r, .bool n, .slice A' (srt l).length c']) ∧ MadeV w.heap.size w' A' c' (srt l)) ∧ Below w.heap.size w w' := by
  have HC : Hid (∀ w', Below w.heap.size w w' → _) := Lib.hid (fun w' h => value_split i hi n l A c w' hm hz (hr.mono h))
  have hx := In.clean_std hi
  unfold In.red
  generalize i.clean = x at *
  have HT := Lib.hid (value_tight x.s x.c hx.1 hx.2.1 (In.std_tight hx))
  have ht := tight_ok hx
  have hsl := srt_len_le l
  unfold In.redC
  generalize tightI x.s x.c = t at *
  have ho := one_ok ht hx.2.1.1
  have h1 := fun (A2 : Option Addr) (c2 : Nat) (w' : World) (h : A2 = none → c2 = 0) (hr : SRow w' A2 (srt l)) => value_clean ⟨t, oneC t x.c⟩ ⟨ht, ho⟩ n (srt l) A2 c2 w' (by omega) h hr
  rw [srt_srt] at h1
  dsimp only at h1
  generalize hk : In.clean ⟨t, oneC t x.c⟩ = k at *
  have H3 := Lib.hid (cong_one t.lo)
  have H4 : Hid (∀ (A2 : Option Addr) (c2 : Nat) (w' : World), _) := Lib.hid (fun A2 c2 w' => parts_value k n (srt l) A2 c2 w')
  have hcase : (t.lo == t.hi) = true ∨ (t.lo == t.hi) = false := by cases (t.lo == t.hi) <;> simp
  clear hi hr hsl hk ht ho
  rcases hcase with he | he
  · have eo : oneC t x.c = Cg.of 0 t.lo := by unfold oneC; rw [if_pos (by simpa using he)]
    rw [eo] at h1
    have H2 := Lib.hid h1
    clear h1 eo hx
    generalize Cg.of 0 t.lo = o at *
    go_enter Tryz.func41, Tryz.ntmps41
    go_upto_region 1 with fail
    generalize hW : ((w.alloc (.cells #[.bool i.s.s, .int .i64 i.s.lo, .int .i64 i.s.hi, .bool i.c.s, .int .i64 i.c.m, .int .i64 i.c.r, .bool n, .slice A l.length c] 30)).alloc (.cells #[.bool false, .int .i64 0, .int .i64 0, .bool false, .int .i64 0, .int .i64 0, .bool false, .slice none 0 0] 30)) = W
    have q0_0 : W.cell? ⟨w.heap.size, 0, none⟩ = some (.bool i.s.s) := by rw [← hW]; simp [go_sem]
    have q0_1 : W.cell? ⟨w.heap.size, 1, none⟩ = some (.int .i64 i.s.lo) := by rw [← hW]; simp [go_sem]
    have q0_2 : W.cell? ⟨w.heap.size, 2, none⟩ = some (.int .i64 i.s.hi) := by rw [← hW]; simp [go_sem]
    have q0_3 : W.cell? ⟨w.heap.size, 3, none⟩ = some (.bool i.c.s) := by rw [← hW]; simp [go_sem]
    have q0_4 : W.cell? ⟨w.heap.size, 4, none⟩ = some (.int .i64 i.c.m) := by rw [← hW]; simp [go_sem]
    have q0_5 : W.cell? ⟨w.heap.size, 5, none⟩ = some (.int .i64 i.c.r) := by rw [← hW]; simp [go_sem]
    have q0_6 : W.cell? ⟨w.heap.size, 6, none⟩ = some (.bool n) := by rw [← hW]; simp [go_sem]
    have q0_7 : W.cell? ⟨w.heap.size, 7, none⟩ = some (.slice A l.length c) := by rw [← hW]; simp [go_sem]
    have q1_0 : W.cell? ⟨w.heap.size + 1, 0, none⟩ = some (.bool false) := by rw [← hW]; simp [go_sem]
    have q1_1 : W.cell? ⟨w.heap.size + 1, 1, none⟩ = some (.int .i64 0) := by rw [← hW]; simp [go_sem]
    have q1_2 : W.cell? ⟨w.heap.size + 1, 2, none⟩ = some (.int .i64 0) := by rw [← hW]; simp [go_sem]
    have q1_3 : W.cell? ⟨w.heap.size + 1, 3, none⟩ = some (.bool false) := by rw [← hW]; simp [go_sem]
    have q1_4 : W.cell? ⟨w.heap.size + 1, 4, none⟩ = some (.int .i64 0) := by rw [← hW]; simp [go_sem]
    have q1_5 : W.cell? ⟨w.heap.size + 1, 5, none⟩ = some (.int .i64 0) := by rw [← hW]; simp [go_sem]
    have q1_6 : W.cell? ⟨w.heap.size + 1, 6, none⟩ = some (.bool false) := by rw [← hW]; simp [go_sem]
    have q1_7 : W.cell? ⟨w.heap.size + 1, 7, none⟩ = some (.slice none 0 0) := by rw [← hW]; simp [go_sem]
    have f0 : ∀ o, W.frozen? ⟨w.heap.size, o, none⟩ = false := by intro o; rw [← hW]; simp [go_sem]
    have f1 : ∀ o, W.frozen? ⟨w.heap.size + 1, o, none⟩ = false := by intro o; rw [← hW]; simp [go_sem]
    have z0 : w.heap.size < W.heap.size := by rw [← hW]; first | (simp; done) | (simp; omega)
    have z1 : w.heap.size + 1 < W.heap.size := by rw [← hW]; first | (simp; done) | (simp; omega)
    have HW : Below w.heap.size w W := by rw [← hW]; exact (by repeat (first | (with_reducible assumption) | (with_reducible exact Below.refl _ _) | (with_reducible refine Below.alloc ?_ (by first | omega | (simp; omega) | (simp; done) | (dsimp only; omega)) _) | (with_reducible refine Below.setCell ?_ (by first | omega | (simp; omega) | (simp; done) | (dsimp only; omega)) _) | (with_reducible refine Below.drew ?_) | (with_reducible refine Below.trans ?_ (Below.mono (by assumption) (by first | omega | (simp; omega) | (simp; done) | (dsimp only; omega))))))
    clear hW
    go_wp2_with fail
    go_at_call 23
    refine (HC.out _ HW).mono ?_
    rintro e w2 ⟨⟨A2, c2, rfl, hM⟩, hb2⟩
    go_upto_region 2 with fail
    have HB := HW.trans (hb2.mono HW.size)
    have hzW := hb2.size
    have u1 := z1
    replace f1 := fun o => (hb2.frozen (p := ⟨w.heap.size + 1, o, none⟩) z1).trans (f1 o)
    replace q0_0 := (hb2.cell (p := ⟨w.heap.size, 0, none⟩) z0).trans q0_0
    replace q0_1 := (hb2.cell (p := ⟨w.heap.size, 1, none⟩) z0).trans q0_1
    replace q0_2 := (hb2.cell (p := ⟨w.heap.size, 2, none⟩) z0).trans q0_2
    replace q0_3 := (hb2.cell (p := ⟨w.heap.size, 3, none⟩) z0).trans q0_3
    replace q0_4 := (hb2.cell (p := ⟨w.heap.size, 4, none⟩) z0).trans q0_4
    replace q0_5 := (hb2.cell (p := ⟨w.heap.size, 5, none⟩) z0).trans q0_5
    replace q0_6 := (hb2.cell (p := ⟨w.heap.size, 6, none⟩) z0).trans q0_6
    replace q0_7 := (hb2.cell (p := ⟨w.heap.size, 7, none⟩) z0).trans q0_7
    replace q1_0 := (hb2.cell (p := ⟨w.heap.size + 1, 0, none⟩) z1).trans q1_0
    replace q1_1 := (hb2.cell (p := ⟨w.heap.size + 1, 1, none⟩) z1).trans q1_1
    replace q1_2 := (hb2.cell (p := ⟨w.heap.size + 1, 2, none⟩) z1).trans q1_2
    replace q1_3 := (hb2.cell (p := ⟨w.heap.size + 1, 3, none⟩) z1).trans q1_3
    replace q1_4 := (hb2.cell (p := ⟨w.heap.size + 1, 4, none⟩) z1).trans q1_4
    replace q1_5 := (hb2.cell (p := ⟨w.heap.size + 1, 5, none⟩) z1).trans q1_5
    replace q1_6 := (hb2.cell (p := ⟨w.heap.size + 1, 6, none⟩) z1).trans q1_6
    replace q1_7 := (hb2.cell (p := ⟨w.heap.size + 1, 7, none⟩) z1).trans q1_7
    replace z0 := Nat.lt_of_lt_of_le z0 hb2.size
    replace z1 := Nat.lt_of_lt_of_le z1 hb2.size
    clear f0 q0_0 q0_1 q0_2 q0_3 q0_4 q0_5 q0_6 q0_7 hb2
    have kV := al_new w2 (.cells #[.bool x.s.s, .int .i64 x.s.lo, .int .i64 x.s.hi, .bool x.c.s, .int .i64 x.c.m, .int .i64 x.c.r, .bool n, .slice A2 (srt l).length c2] 55) rfl
    have HX : Below w2.heap.size w2 (w2.alloc (.cells #[.bool x.s.s, .int .i64 x.s.lo, .int .i64 x.s.hi, .bool x.c.s, .int .i64 x.c.m, .int .i64 x.c.r, .bool n, .slice A2 (srt l).length c2] 55)) := (by repeat (first | (with_reducible assumption) | (with_reducible exact Below.refl _ _) | (with_reducible refine Below.alloc ?_ (by first | omega | (simp; omega) | (simp; done) | (dsimp only; omega)) _) | (with_reducible refine Below.setCell ?_ (by first | omega | (simp; omega) | (simp; done) | (dsimp only; omega)) _) | (with_reducible refine Below.drew ?_) | (with_reducible refine Below.trans ?_ (Below.mono (by assumption) (by first | omega | (simp; omega) | (simp; done) | (dsimp only; omega))))))
    generalize w2.alloc (.cells #[.bool x.s.s, .int .i64 x.s.lo, .int .i64 x.s.hi, .bool x.c.s, .int .i64 x.c.m, .int .i64 x.c.r, .bool n, .slice A2 (srt l).length c2] 55) = V at *
    have p_0 := blk_cell kV 0
    have p_1 := blk_cell kV 1
    have p_2 := blk_cell kV 2
    have p_3 := blk_cell kV 3
    have p_4 := blk_cell kV 4
    have p_5 := blk_cell kV 5
    have p_6 := blk_cell kV 6
    have p_7 := blk_cell kV 7
    simp only [List.getElem?_toArray, List.getElem?_cons_zero, List.getElem?_cons_succ] at p_0 p_1 p_2 p_3 p_4 p_5 p_6 p_7
    have fp := blk_free kV
    have zp := blk_lt kV
    go_wp2_with fail
    go_at_call 82
    refine (HT.out _).mono ?_
    rintro e w3 ⟨rfl, hb3⟩
    have k3 := (hb3.block _ zp).trans kV
    replace HX := HX.trans (hb3.mono (by omega))
    clear p_0 p_1 p_2 p_3 p_4 p_5 p_6 p_7 fp kV hb3
    have r_0 := blk_cell k3 0
    have r_1 := blk_cell k3 1
    have r_2 := blk_cell k3 2
    have r_3 := blk_cell k3 3
    have r_4 := blk_cell k3 4
    have r_5 := blk_cell k3 5
    have r_6 := blk_cell k3 6
    have r_7 := blk_cell k3 7
    simp only [List.getElem?_toArray, List.getElem?_cons_zero, List.getElem?_cons_succ] at r_0 r_1 r_2 r_3 r_4 r_5 r_6 r_7
    have fr := blk_free k3
    have zr := blk_lt k3
    go_upto_region 3 with fail
    have kY : (((w3.setCell ⟨w2.heap.size, 0, none⟩ (.bool t.s)).setCell ⟨w2.heap.size, 1, none⟩ (.int .i64 t.lo)).setCell ⟨w2.heap.size, 2, none⟩ (.int .i64 t.hi)).heap[w2.heap.size]? = some (.cells #[.bool t.s, .int .i64 t.lo, .int .i64 t.hi, .bool x.c.s, .int .i64 x.c.m, .int .i64 x.c.r, .bool n, .slice A2 (srt l).length c2] 55) := blk_upd (blk_upd (blk_upd k3 0 _) 1 _) 2 _
    replace HX : Below w2.heap.size w2 (((w3.setCell ⟨w2.heap.size, 0, none⟩ (.bool t.s)).setCell ⟨w2.heap.size, 1, none⟩ (.int .i64 t.lo)).setCell ⟨w2.heap.size, 2, none⟩ (.int .i64 t.hi)) := (by repeat (first | (with_reducible assumption) | (with_reducible exact Below.refl _ _) | (with_reducible refine Below.alloc ?_ (by first | omega | (simp; omega) | (simp; done) | (dsimp only; omega)) _) | (with_reducible refine Below.setCell ?_ (by first | omega | (simp; omega) | (simp; done) | (dsimp only; omega)) _) | (with_reducible refine Below.drew ?_) | (with_reducible refine Below.trans ?_ (Below.mono (by assumption) (by first | omega | (simp; omega) | (simp; done) | (dsimp only; omega))))))
    generalize ((w3.setCell ⟨w2.heap.size, 0, none⟩ (.bool t.s)).setCell ⟨w2.heap.size, 1, none⟩ (.int .i64 t.lo)).setCell ⟨w2.heap.size, 2, none⟩ (.int .i64 t.hi) = Y at *
    clear r_0 r_1 r_2 r_3 r_4 r_5 r_6 r_7 fr k3 zr zp
    have p_0 := blk_cell kY 0
    have p_1 := blk_cell kY 1
    have p_2 := blk_cell kY 2
    have p_3 := blk_cell kY 3
    have p_4 := blk_cell kY 4
    have p_5 := blk_cell kY 5
    have p_6 := blk_cell kY 6
    have p_7 := blk_cell kY 7
    simp only [List.getElem?_toArray, List.getElem?_cons_zero, List.getElem?_cons_succ] at p_0 p_1 p_2 p_3 p_4 p_5 p_6 p_7
    have fp := blk_free kY
    have zp := blk_lt kY
    go_upto_region 4 with fail
    go_wp2_with fail
    go_at_call 83
    refine (H3.out _).mono ?_
    rintro e w4 ⟨rfl, hb4⟩
    have k4 := (hb4.block _ zp).trans kY
    replace HX := HX.trans (hb4.mono HX.size)
    clear p_0 p_1 p_2 p_3 p_4 p_5 p_6 p_7 fp kY hb4
    have r_0 := blk_cell k4 0
    have r_1 := blk_cell k4 1
    have r_2 := blk_cell k4 2
    have r_3 := blk_cell k4 3
    have r_4 := blk_cell k4 4
    have r_5 := blk_cell k4 5
    have r_6 := blk_cell k4 6
    have r_7 := blk_cell k4 7
    simp only [List.getElem?_toArray, List.getElem?_cons_zero, List.getElem?_cons_succ] at r_0 r_1 r_2 r_3 r_4 r_5 r_6 r_7
    have fr := blk_free k4
    have zr := blk_lt k4
    go_upto_region 5 with fail
    have kZ : (((w4.setCell ⟨w2.heap.size, 3, none⟩ (.bool o.s)).setCell ⟨w2.heap.size, 4, none⟩ (.int .i64 o.m)).setCell ⟨w2.heap.size, 5, none⟩ (.int .i64 o.r)).heap[w2.heap.size]? = some (.cells #[.bool t.s, .int .i64 t.lo, .int .i64 t.hi, .bool o.s, .int .i64 o.m, .int .i64 o.r, .bool n, .slice A2 (srt l).length c2] 55) := blk_upd (blk_upd (blk_upd k4 3 _) 4 _) 5 _
    replace HX : Below w2.heap.size w2 (((w4.setCell ⟨w2.heap.size, 3, none⟩ (.bool o.s)).setCell ⟨w2.heap.size, 4, none⟩ (.int .i64 o.m)).setCell ⟨w2.heap.size, 5, none⟩ (.int .i64 o.r)) := (by repeat (first | (with_reducible assumption) | (with_reducible exact Below.refl _ _) | (with_reducible refine Below.alloc ?_ (by first | omega | (simp; omega) | (simp; done) | (dsimp only; omega)) _) | (with_reducible refine Below.setCell ?_ (by first | omega | (simp; omega) | (simp; done) | (dsimp only; omega)) _) | (with_reducible refine Below.drew ?_) | (with_reducible refine Below.trans ?_ (Below.mono (by assumption) (by first | omega | (simp; omega) | (simp; done) | (dsimp only; omega))))))
    generalize ((w4.setCell ⟨w2.heap.size, 3, none⟩ (.bool o.s)).setCell ⟨w2.heap.size, 4, none⟩ (.int .i64 o.m)).setCell ⟨w2.heap.size, 5, none⟩ (.int .i64 o.r) = TT at *
    clear r_0 r_1 r_2 r_3 r_4 r_5 r_6 r_7 fr k4 zr zp
    have p_0 := blk_cell kZ 0
    have p_1 := blk_cell kZ 1
    have p_2 := blk_cell kZ 2
    have p_3 := blk_cell kZ 3
    have p_4 := blk_cell kZ 4
    have p_5 := blk_cell kZ 5
    have p_6 := blk_cell kZ 6
    have p_7 := blk_cell kZ 7
    simp only [List.getElem?_toArray, List.getElem?_cons_zero, List.getElem?_cons_succ] at p_0 p_1 p_2 p_3 p_4 p_5 p_6 p_7
    have fp := blk_free kZ
    have zp := blk_lt kZ
    have hsz := HX.size
    have hbt : w2.heap.size < TT.heap.size := by omega
    have HRow := hM.2.2.1.mono HX
    go_wp2_with fail
    go_at_call 24
    refine (H2.out A2 c2 _ hM.2.2.2.1 HRow).mono ?_
    rintro e w5 ⟨⟨A5, c5, rfl, hM5⟩, hb5⟩
    replace HX := HX.trans (hb5.mono hsz)
    clear p_0 p_1 p_2 p_3 p_4 p_5 p_6 p_7 fp zp HRow
    go_wp2_with fail
    go_at_call 28
    refine (H4.out A5 c5 _).mono ?_
    rintro e w6 ⟨rfl, hb6⟩
    replace hM5 := hM5.mono hb6
    replace HX := HX.trans (hb6.mono HX.size)
    replace HB := HB.trans (HX.mono HB.size)
    replace f1 := fun o => (HX.frozen (p := ⟨w.heap.size + 1, o, none⟩) z1).trans (f1 o)
    replace q1_0 := (HX.cell (p := ⟨w.heap.size + 1, 0, none⟩) z1).trans q1_0
    replace q1_1 := (HX.cell (p := ⟨w.heap.size + 1, 1, none⟩) z1).trans q1_1
    replace q1_2 := (HX.cell (p := ⟨w.heap.size + 1, 2, none⟩) z1).trans q1_2
    replace q1_3 := (HX.cell (p := ⟨w.heap.size + 1, 3, none⟩) z1).trans q1_3
    replace q1_4 := (HX.cell (p := ⟨w.heap.size + 1, 4, none⟩) z1).trans q1_4
    replace q1_5 := (HX.cell (p := ⟨w.heap.size + 1, 5, none⟩) z1).trans q1_5
    replace q1_6 := (HX.cell (p := ⟨w.heap.size + 1, 6, none⟩) z1).trans q1_6
    replace q1_7 := (HX.cell (p := ⟨w.heap.size + 1, 7, none⟩) z1).trans q1_7
    replace z1 := Nat.lt_of_lt_of_le z1 HX.size
    clear hb5 hb6 HX
    go_wp2
    refine bodyPost_ret (by simp [results, Tryz.results41, go_sem, *] <;> rfl) rfl ⟨⟨A5, c5, rfl, (by (refine MadeV.base (b := w.heap.size + 2) ?_ (by omega)); (repeat refine MadeV.setCell ?_ (by first | omega | (simp; omega)) _); first | exact hM5 | exact hM5.base (by omega))⟩, (by repeat (first | (with_reducible assumption) | (with_reducible exact Below.refl _ _) | (with_reducible refine Below.alloc ?_ (by first | omega | (simp; omega) | (simp; done) | (dsimp only; omega)) _) | (with_reducible refine Below.setCell ?_ (by first | omega | (simp; omega) | (simp; done) | (dsimp only; omega)) _) | (with_reducible refine Below.drew ?_) | (with_reducible refine Below.trans ?_ (Below.mono (by assumption) (by first | omega | (simp; omega) | (simp; done) | (dsimp only; omega))))))⟩
  · have eo : oneC t x.c = x.c := by unfold oneC; rw [if_neg (by simpa using he)]
    rw [eo] at h1
    have H2 := Lib.hid h1
    clear h1 eo hx H3
    go_enter Tryz.func41, Tryz.ntmps41
    go_upto_region 1 with fail
    generalize hW : ((w.alloc (.cells #[.bool i.s.s, .int .i64 i.s.lo, .int .i64 i.s.hi, .bool i.c.s, .int .i64 i.c.m, .int .i64 i.c.r, .bool n, .slice A l.length c] 30)).alloc (.cells #[.bool false, .int .i64 0, .int .i64 0, .bool false, .int .i64 0, .int .i64 0, .bool false, .slice none 0 0] 30)) = W
    have q0_0 : W.cell? ⟨w.heap.size, 0, none⟩ = some (.bool i.s.s) := by rw [← hW]; simp [go_sem]
    have q0_1 : W.cell? ⟨w.heap.size, 1, none⟩ = some (.int .i64 i.s.lo) := by rw [← hW]; simp [go_sem]
    have q0_2 : W.cell? ⟨w.heap.size, 2, none⟩ = some (.int .i64 i.s.hi) := by rw [← hW]; simp [go_sem]
    have q0_3 : W.cell? ⟨w.heap.size, 3, none⟩ = some (.bool i.c.s) := by rw [← hW]; simp [go_sem]
    have q0_4 : W.cell? ⟨w.heap.size, 4, none⟩ = some (.int .i64 i.c.m) := by rw [← hW]; simp [go_sem]
    have q0_5 : W.cell? ⟨w.heap.size, 5, none⟩ = some (.int .i64 i.c.r) := by rw [← hW]; simp [go_sem]
    have q0_6 : W.cell? ⟨w.heap.size, 6, none⟩ = some (.bool n) := by rw [← hW]; simp [go_sem]
    have q0_7 : W.cell? ⟨w.heap.size, 7, none⟩ = some (.slice A l.length c) := by rw [← hW]; simp [go_sem]
    have q1_0 : W.cell? ⟨w.heap.size + 1, 0, none⟩ = some (.bool false) := by rw [← hW]; simp [go_sem]
    have q1_1 : W.cell? ⟨w.heap.size + 1, 1, none⟩ = some (.int .i64 0) := by rw [← hW]; simp [go_sem]
    have q1_2 : W.cell? ⟨w.heap.size + 1, 2, none⟩ = some (.int .i64 0) := by rw [← hW]; simp [go_sem]
    have q1_3 : W.cell? ⟨w.heap.size + 1, 3, none⟩ = some (.bool false) := by rw [← hW]; simp [go_sem]
    have q1_4 : W.cell? ⟨w.heap.size + 1, 4, none⟩ = some (.int .i64 0) := by rw [← hW]; simp [go_sem]
    have q1_5 : W.cell? ⟨w.heap.size + 1, 5, none⟩ = some (.int .i64 0) := by rw [← hW]; simp [go_sem]
    have q1_6 : W.cell? ⟨w.heap.size + 1, 6, none⟩ = some (.bool false) := by rw [← hW]; simp [go_sem]
    have q1_7 : W.cell? ⟨w.heap.size + 1, 7, none⟩ = some (.slice none 0 0) := by rw [← hW]; simp [go_sem]
    have f0 : ∀ o, W.frozen? ⟨w.heap.size, o, none⟩ = false := by intro o; rw [← hW]; simp [go_sem]
    have f1 : ∀ o, W.frozen? ⟨w.heap.size + 1, o, none⟩ = false := by intro o; rw [← hW]; simp [go_sem]
    have z0 : w.heap.size < W.heap.size := by rw [← hW]; first | (simp; done) | (simp; omega)
    have z1 : w.heap.size + 1 < W.heap.size := by rw [← hW]; first | (simp; done) | (simp; omega)
    have HW : Below w.heap.size w W := by rw [← hW]; exact (by repeat (first | (with_reducible assumption) | (with_reducible exact Below.refl _ _) | (with_reducible refine Below.alloc ?_ (by first | omega | (simp; omega) | (simp; done) | (dsimp only; omega)) _) | (with_reducible refine Below.setCell ?_ (by first | omega | (simp; omega) | (simp; done) | (dsimp only; omega)) _) | (with_reducible refine Below.drew ?_) | (with_reducible refine Below.trans ?_ (Below.mono (by assumption) (by first | omega | (simp; omega) | (simp; done) | (dsimp only; omega))))))
    clear hW
    go_wp2_with fail
    go_at_call 23
    refine (HC.out _ HW).mono ?_
    rintro e w2 ⟨⟨A2, c2, rfl, hM⟩, hb2⟩
    go_upto_region 2 with fail
    have HB := HW.trans (hb2.mono HW.size)
    have hzW := hb2.size
    have u1 := z1
    replace f1 := fun o => (hb2.frozen (p := ⟨w.heap.size + 1, o, none⟩) z1).trans (f1 o)
    replace q0_0 := (hb2.cell (p := ⟨w.heap.size, 0, none⟩) z0).trans q0_0
    replace q0_1 := (hb2.cell (p := ⟨w.heap.size, 1, none⟩) z0).trans q0_1
    replace q0_2 := (hb2.cell (p := ⟨w.heap.size, 2, none⟩) z0).trans q0_2
    replace q0_3 := (hb2.cell (p := ⟨w.heap.size, 3, none⟩) z0).trans q0_3
    replace q0_4 := (hb2.cell (p := ⟨w.heap.size, 4, none⟩) z0).trans q0_4
    replace q0_5 := (hb2.cell (p := ⟨w.heap.size, 5, none⟩) z0).trans q0_5
    replace q0_6 := (hb2.cell (p := ⟨w.heap.size, 6, none⟩) z0).trans q0_6
    replace q0_7 := (hb2.cell (p := ⟨w.heap.size, 7, none⟩) z0).trans q0_7
    replace q1_0 := (hb2.cell (p := ⟨w.heap.size + 1, 0, none⟩) z1).trans q1_0
    replace q1_1 := (hb2.cell (p := ⟨w.heap.size + 1, 1, none⟩) z1).trans q1_1
    replace q1_2 := (hb2.cell (p := ⟨w.heap.size + 1, 2, none⟩) z1).trans q1_2
    replace q1_3 := (hb2.cell (p := ⟨w.heap.size + 1, 3, none⟩) z1).trans q1_3
    replace q1_4 := (hb2.cell (p := ⟨w.heap.size + 1, 4, none⟩) z1).trans q1_4
    replace q1_5 := (hb2.cell (p := ⟨w.heap.size + 1, 5, none⟩) z1).trans q1_5
    replace q1_6 := (hb2.cell (p := ⟨w.heap.size + 1, 6, none⟩) z1).trans q1_6
    replace q1_7 := (hb2.cell (p := ⟨w.heap.size + 1, 7, none⟩) z1).trans q1_7
    replace z0 := Nat.lt_of_lt_of_le z0 hb2.size
    replace z1 := Nat.lt_of_lt_of_le z1 hb2.size
    clear f0 q0_0 q0_1 q0_2 q0_3 q0_4 q0_5 q0_6 q0_7 hb2
    have kV := al_new w2 (.cells #[.bool x.s.s, .int .i64 x.s.lo, .int .i64 x.s.hi, .bool x.c.s, .int .i64 x.c.m, .int .i64 x.c.r, .bool n, .slice A2 (srt l).length c2] 55) rfl
    have HX : Below w2.heap.size w2 (w2.alloc (.cells #[.bool x.s.s, .int .i64 x.s.lo, .int .i64 x.s.hi, .bool x.c.s, .int .i64 x.c.m, .int .i64 x.c.r, .bool n, .slice A2 (srt l).length c2] 55)) := (by repeat (first | (with_reducible assumption) | (with_reducible exact Below.refl _ _) | (with_reducible refine Below.alloc ?_ (by first | omega | (simp; omega) | (simp; done) | (dsimp only; omega)) _) | (with_reducible refine Below.setCell ?_ (by first | omega | (simp; omega) | (simp; done) | (dsimp only; omega)) _) | (with_reducible refine Below.drew ?_) | (with_reducible refine Below.trans ?_ (Below.mono (by assumption) (by first | omega | (simp; omega) | (simp; done) | (dsimp only; omega))))))
    generalize w2.alloc (.cells #[.bool x.s.s, .int .i64 x.s.lo, .int .i64 x.s.hi, .bool x.c.s, .int .i64 x.c.m, .int .i64 x.c.r, .bool n, .slice A2 (srt l).length c2] 55) = V at *
    have p_0 := blk_cell kV 0
    have p_1 := blk_cell kV 1
    have p_2 := blk_cell kV 2
    have p_3 := blk_cell kV 3
    have p_4 := blk_cell kV 4
    have p_5 := blk_cell kV 5
    have p_6 := blk_cell kV 6
    have p_7 := blk_cell kV 7
    simp only [List.getElem?_toArray, List.getElem?_cons_zero, List.getElem?_cons_succ] at p_0 p_1 p_2 p_3 p_4 p_5 p_6 p_7
    have fp := blk_free kV
    have zp := blk_lt kV
    go_wp2_with fail
    go_at_call 82
    refine (HT.out _).mono ?_
    rintro e w3 ⟨rfl, hb3⟩
    have k3 := (hb3.block _ zp).trans kV
    replace HX := HX.trans (hb3.mono (by omega))
    clear p_0 p_1 p_2 p_3 p_4 p_5 p_6 p_7 fp kV hb3
    have r_0 := blk_cell k3 0
    have r_1 := blk_cell k3 1
    have r_2 := blk_cell k3 2
    have r_3 := blk_cell k3 3
    have r_4 := blk_cell k3 4
    have r_5 := blk_cell k3 5
    have r_6 := blk_cell k3 6
    have r_7 := blk_cell k3 7
    simp only [List.getElem?_toArray, List.getElem?_cons_zero, List.getElem?_cons_succ] at r_0 r_1 r_2 r_3 r_4 r_5 r_6 r_7
    have fr := blk_free k3
    have zr := blk_lt k3
    go_upto_region 3 with fail
    have kY : (((w3.setCell ⟨w2.heap.size, 0, none⟩ (.bool t.s)).setCell ⟨w2.heap.size, 1, none⟩ (.int .i64 t.lo)).setCell ⟨w2.heap.size, 2, none⟩ (.int .i64 t.hi)).heap[w2.heap.size]? = some (.cells #[.bool t.s, .int .i64 t.lo, .int .i64 t.hi, .bool x.c.s, .int .i64 x.c.m, .int .i64 x.c.r, .bool n, .slice A2 (srt l).length c2] 55) := blk_upd (blk_upd (blk_upd k3 0 _) 1 _) 2 _
    replace HX : Below w2.heap.size w2 (((w3.setCell ⟨w2.heap.size, 0, none⟩ (.bool t.s)).setCell ⟨w2.heap.size, 1, none⟩ (.int .i64 t.lo)).setCell ⟨w2.heap.size, 2, none⟩ (.int .i64 t.hi)) := (by repeat (first | (with_reducible assumption) | (with_reducible exact Below.refl _ _) | (with_reducible refine Below.alloc ?_ (by first | omega | (simp; omega) | (simp; done) | (dsimp only; omega)) _) | (with_reducible refine Below.setCell ?_ (by first | omega | (simp; omega) | (simp; done) | (dsimp only; omega)) _) | (with_reducible refine Below.drew ?_) | (with_reducible refine Below.trans ?_ (Below.mono (by assumption) (by first | omega | (simp; omega) | (simp; done) | (dsimp only; omega))))))
    generalize ((w3.setCell ⟨w2.heap.size, 0, none⟩ (.bool t.s)).setCell ⟨w2.heap.size, 1, none⟩ (.int .i64 t.lo)).setCell ⟨w2.heap.size, 2, none⟩ (.int .i64 t.hi) = Y at *
    clear r_0 r_1 r_2 r_3 r_4 r_5 r_6 r_7 fr k3 zr zp
    have p_0 := blk_cell kY 0
    have p_1 := blk_cell kY 1
    have p_2 := blk_cell kY 2
    have p_3 := blk_cell kY 3
    have p_4 := blk_cell kY 4
    have p_5 := blk_cell kY 5
    have p_6 := blk_cell kY 6
    have p_7 := blk_cell kY 7
    simp only [List.getElem?_toArray, List.getElem?_cons_zero, List.getElem?_cons_succ] at p_0 p_1 p_2 p_3 p_4 p_5 p_6 p_7
    have fp := blk_free kY
    have zp := blk_lt kY
    go_upto_region 5 with fail
    have hsz := HX.size
    have hbt : w2.heap.size < Y.heap.size := by omega
    have HRow := hM.2.2.1.mono HX
    go_wp2_with fail
    go_at_call 24
    refine (H2.out A2 c2 _ hM.2.2.2.1 HRow).mono ?_
    rintro e w5 ⟨⟨A5, c5, rfl, hM5⟩, hb5⟩
    replace HX := HX.trans (hb5.mono hsz)
    clear p_0 p_1 p_2 p_3 p_4 p_5 p_6 p_7 fp zp HRow
    go_wp2_with fail
    go_at_call 28
    refine (H4.out A5 c5 _).mono ?_
    rintro e w6 ⟨rfl, hb6⟩
    replace hM5 := hM5.mono hb6
    replace HX := HX.trans (hb6.mono HX.size)
    replace HB := HB.trans (HX.mono HB.size)
    replace f1 := fun o => (HX.frozen (p := ⟨w.heap.size + 1, o, none⟩) z1).trans (f1 o)
    replace q1_0 := (HX.cell (p := ⟨w.heap.size + 1, 0, none⟩) z1).trans q1_0
    replace q1_1 := (HX.cell (p := ⟨w.heap.size + 1, 1, none⟩) z1).trans q1_1
    replace q1_2 := (HX.cell (p := ⟨w.heap.size + 1, 2, none⟩) z1).trans q1_2
    replace q1_3 := (HX.cell (p := ⟨w.heap.size + 1, 3, none⟩) z1).trans q1_3
    replace q1_4 := (HX.cell (p := ⟨w.heap.size + 1, 4, none⟩) z1).trans q1_4
    replace q1_5 := (HX.cell (p := ⟨w.heap.size + 1, 5, none⟩) z1).trans q1_5
    replace q1_6 := (HX.cell (p := ⟨w.heap.size + 1, 6, none⟩) z1).trans q1_6
    replace q1_7 := (HX.cell (p := ⟨w.heap.size + 1, 7, none⟩) z1).trans q1_7
    replace z1 := Nat.lt_of_lt_of_le z1 HX.size
    clear hb5 hb6 HX
    go_wp2
    refine bodyPost_ret (by simp [results, Tryz.results41, go_sem, *] <;> rfl) rfl ⟨⟨A5, c5, rfl, (by (refine MadeV.base (b := w.heap.size + 2) ?_ (by omega)); (repeat refine MadeV.setCell ?_ (by first | omega | (simp; omega)) _); first | exact hM5 | exact hM5.base (by omega))⟩, (by repeat (first | (with_reducible assumption) | (with_reducible exact Below.refl _ _) | (with_reducible refine Below.alloc ?_ (by first | omega | (simp; omega) | (simp; done) | (dsimp only; omega)) _) | (with_reducible refine Below.setCell ?_ (by first | omega | (simp; omega) | (simp; done) | (dsimp only; omega)) _) | (with_reducible refine Below.drew ?_) | (with_reducible refine Below.trans ?_ (Below.mono (by assumption) (by first | omega | (simp; omega) | (simp; done) | (dsimp only; omega))))))⟩
end Go.Proofs.YtdpnphnafidpiaaGreat
