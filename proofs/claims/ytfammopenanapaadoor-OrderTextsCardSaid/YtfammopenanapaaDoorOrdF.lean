/- X-PARTIAL order.arguments: layer 37. -/
import Derived.Test.YtfammopenanapaaDoorOrdE
import Derived.Test.YtfammopenanapaaDoorNamB
namespace Go.Proofs.YtfammopenanapaaDoor
open Go.RowKit Go.Lib

/-- A command's cells. -/
def Cmd.cs (c : Cmd) : Array Value := #[.int .i64 c.k, encStr c.f, .int .i64 c.d, encStr c.n, .int .i64 c.m, encStr c.t]
def CO (w : World) (p : Nat) (c : Cmd) : Prop := w.heap[p]? = some (.cells c.cs 24)
theorem CO.setN {w : World} {p : Nat} {c : Cmd} (h : CO w p c) (x : Str) : CO (w.setCell ⟨p, 3, none⟩ (encStr x)) p { c with n := x } := heap_setCell_same w p 3 _ _ _ h
theorem CO.setF {w : World} {p : Nat} {c : Cmd} (h : CO w p c) (x : Str) : CO (w.setCell ⟨p, 1, none⟩ (encStr x)) p { c with f := x } := heap_setCell_same w p 1 _ _ _ h
theorem CO.setD {w : World} {p : Nat} {c : Cmd} (h : CO w p c) (x : Int) : CO (w.setCell ⟨p, 2, none⟩ (.int .i64 x)) p { c with d := x } := heap_setCell_same w p 2 _ _ _ h
theorem CO.setM {w : World} {p : Nat} {c : Cmd} (h : CO w p c) (x : Int) : CO (w.setCell ⟨p, 4, none⟩ (.int .i64 x)) p { c with m := x } := heap_setCell_same w p 4 _ _ _ h
theorem CO.setT {w : World} {p : Nat} {c : Cmd} (h : CO w p c) (x : Str) : CO (w.setCell ⟨p, 5, none⟩ (encStr x)) p { c with t := x } := heap_setCell_same w p 5 _ _ _ h
theorem CO.mono {w w' : World} {p : Nat} {c : Cmd} (h : CO w p c) (hb : Below w.heap.size w w') : CO w' p c := (hb.block p (blk_lt h)).trans h
theorem CO.cell {w : World} {p : Nat} {c : Cmd} (h : CO w p c) : w.cell? ⟨p, 0, none⟩ = some (.int .i64 c.k) ∧ w.cell? ⟨p, 1, none⟩ = some (encStr c.f) ∧ w.cell? ⟨p, 2, none⟩ = some (.int .i64 c.d) ∧ w.cell? ⟨p, 3, none⟩ = some (encStr c.n) ∧ w.cell? ⟨p, 4, none⟩ = some (.int .i64 c.m) ∧ w.cell? ⟨p, 5, none⟩ = some (encStr c.t) :=
  ⟨blk_cell h 0, blk_cell h 1, blk_cell h 2, blk_cell h 3, blk_cell h 4, blk_cell h 5⟩
theorem CO.free {w : World} {p : Nat} {c : Cmd} (h : CO w p c) (i : Nat) : w.frozen? ⟨p, i, none⟩ = false := blk_free h i
theorem below_p {w w' : World} {p : Nat} {c : Cmd} (h : CO w p c) (hb : Below w.heap.size w w') : Below p w w' := hb.mono (Nat.le_of_lt (blk_lt h))

set_option maxRecDepth 1000000 in
set_option maxHeartbeats 8000000 in
theorem args_name (k : Nat) (hk : k = 3 ∨ k = 8) (x : Str) (p g c : Nat) (w : World) (hp : CO w p ⟨k, [], 0, [], 0, []⟩) (_hg : g ≠ p) (h0 : w.cell? ⟨g, 0, none⟩ = some (encStr x)) :
    Calls Tryd.prog 15 #[.pointer (some ⟨p, 0, none⟩), .slice (some ⟨g, 0, none⟩) 1 c] w fun e w' => e = .returned (.int .i64 (if isName x = true then 0 else 3)) ∧ CO w' p ⟨k, [], 0, if isName x = true then x else [], 0, []⟩ ∧ Below p w w' := by
  have HN := Lib.hid (order_name x w)
  have c0 := hp.cell.1
  simp only at c0
  generalize isName x = q at *
  rcases hk with rfl | rfl <;> cases q
  all_goals
    first | rw [if_neg (by decide), if_neg (by decide)] at HN ⊢ | rw [if_pos rfl, if_pos rfl] at HN ⊢
    go_enter Tryd.func15, Tryd.ntmps15
    go_wp2_with fail
    go_at_call 29
    refine HN.out.mono ?_
    rintro e w1 ⟨rfl, hb⟩
    have k1 := hp.mono hb
    have hB := below_p hp hb
    have d3 := k1.cell.2.2.2.1
    have f3 := k1.free 3
    clear hb HN
    go_wp2_with fail
    go_ret
    exact ⟨rfl, k1.setN _, hB.setCell (Nat.le_refl _) _⟩

set_option maxRecDepth 1000000 in
set_option maxHeartbeats 8000000 in
theorem args_bad (k n : Nat) (hn : 1 ≤ n) (hk : 3 ≤ k ∧ k < 10) (hbad : 3 ≤ n ∨ (n = 2 ∧ k ≠ 4 ∧ k ≠ 7) ∨ (n = 1 ∧ k = 7)) (A : Option Addr) (p c : Nat) (w : World) (hp : CO w p ⟨k, [], 0, [], 0, []⟩) :
    Calls Tryd.prog 15 #[.pointer (some ⟨p, 0, none⟩), .slice A n c] w fun e w' => e = .returned (.int .i64 3) ∧ w' = w := by
  have c0 := hp.cell.1
  simp only at c0
  have j0 : ¬ (n : Int) < 1 := by omega
  have hk' : k = 3 ∨ k = 4 ∨ k = 5 ∨ k = 6 ∨ k = 7 ∨ k = 8 ∨ k = 9 := by omega
  clear hp
  rcases Nat.lt_or_ge n 2 with h2 | h2
  · obtain rfl : n = 1 := by omega
    obtain rfl : k = 7 := by omega
    go_enter Tryd.func15, Tryd.ntmps15
    go_wp2_with fail
    go_ret
    exact ⟨rfl, rfl⟩
  · have j1 : (1 : Int) < n := by omega
    have j2 : ¬ (n : Int) < 2 := by omega
    rcases Nat.lt_or_ge n 3 with h3 | h3
    · obtain rfl : n = 2 := by omega
      rcases hk' with rfl | rfl | rfl | rfl | rfl | rfl | rfl
      all_goals first | omega | skip
      all_goals
        clear hbad hk
        go_enter Tryd.func15, Tryd.ntmps15
        go_wp2_with fail
        go_ret
        exact ⟨rfl, rfl⟩
    · have j3 : (2 : Int) < n := by omega
      rcases hk' with rfl | rfl | rfl | rfl | rfl | rfl | rfl
      all_goals
        clear hbad hk
        go_enter Tryd.func15, Tryd.ntmps15
        go_wp2_with fail
        go_ret
        exact ⟨rfl, rfl⟩

set_option maxRecDepth 1000000 in
set_option maxHeartbeats 8000000 in
theorem args_budget (x : Str) (p g c : Nat) (w : World) (hp : CO w p ⟨9, [], 0, [], 0, []⟩) (h0 : w.cell? ⟨g, 0, none⟩ = some (encStr x)) (hm : x.length ≤ 281474976710654) (hv : RV w) :
    Calls Tryd.prog 15 #[.pointer (some ⟨p, 0, none⟩), .slice (some ⟨g, 0, none⟩) 1 c] w fun e w' => e = .returned (.int .i64 (nodeO (120 :: 46 :: x)).2) ∧ CO w' p ⟨9, [], 0, [], (nodeO (120 :: 46 :: x)).1.d, []⟩ ∧ Below p w w' := by
  have HN := Lib.hid (order_number x w hm hv)
  have c0 := hp.cell.1
  simp only at c0
  clear hv
  generalize nodeO (120 :: 46 :: x) = q at *
  obtain ⟨⟨nm, d⟩, e0⟩ := q
  by_cases he : e0 = 0
  · subst he
    go_enter Tryd.func15, Tryd.ntmps15
    go_wp2_with fail
    go_at_call 30
    refine HN.out.mono ?_
    rintro e w1 ⟨rfl, hb⟩
    have k1 := hp.mono hb
    have hB := below_p hp hb
    have d3 := k1.cell.2.2.2.2.1
    have f3 := k1.free 4
    clear hb HN
    go_wp2_with fail
    go_ret
    exact ⟨rfl, k1.setM _, hB.setCell (Nat.le_refl _) _⟩
  · have he' : (e0 == 0) = false := by simpa using he
    go_enter Tryd.func15, Tryd.ntmps15
    go_wp2_with fail
    go_at_call 30
    refine HN.out.mono ?_
    rintro e w1 ⟨rfl, hb⟩
    have k1 := hp.mono hb
    have hB := below_p hp hb
    have d3 := k1.cell.2.2.2.2.1
    have f3 := k1.free 4
    clear hb HN
    go_wp2_with fail
    go_ret
    exact ⟨rfl, k1.setM _, hB.setCell (Nat.le_refl _) _⟩

set_option maxRecDepth 1000000 in
set_option maxHeartbeats 8000000 in
theorem args_node (k : Nat) (hk : k = 4 ∨ k = 5 ∨ k = 6) (x : Str) (p g c : Nat) (w : World) (hp : CO w p ⟨k, [], 0, [], 0, []⟩) (h0 : w.cell? ⟨g, 0, none⟩ = some (encStr x)) (hm : x.length ≤ 281474976710656) (hv : RV w) :
    Calls Tryd.prog 15 #[.pointer (some ⟨p, 0, none⟩), .slice (some ⟨g, 0, none⟩) 1 c] w fun e w' => e = .returned (.int .i64 (nodeO x).2) ∧ CO w' p ⟨k, (nodeO x).1.n, (nodeO x).1.d, [], 0, []⟩ ∧ Below p w w' := by
  have HN := Lib.hid (order_node x w hm hv)
  have c0 := hp.cell.1
  simp only at c0
  clear hv
  generalize nodeO x = q at *
  obtain ⟨⟨nm, d⟩, e0⟩ := q
  rcases hk with rfl | rfl | rfl <;> by_cases he : e0 = 0
  all_goals
    first | subst he | have he' : (e0 == 0) = false := by simpa using he
    go_enter Tryd.func15, Tryd.ntmps15
    go_wp2_with fail
    go_at_call 31
    refine HN.out.mono ?_
    rintro e w1 ⟨rfl, hb⟩
    have k1 := hp.mono hb
    have hB := below_p hp hb
    have d1 := k1.cell.2.1
    have d2 := k1.cell.2.2.1
    have f1 := k1.free 1
    have f2 := k1.free 2
    clear hb HN
    go_wp2_with fail
    go_ret
    exact ⟨rfl, (k1.setF _).setD _, (hB.setCell (Nat.le_refl _) _).setCell (Nat.le_refl _) _⟩

set_option maxRecDepth 1000000 in
set_option maxHeartbeats 8000000 in
theorem args_two (k : Nat) (hk : k = 4 ∨ k = 7) (x y : Str) (p g c : Nat) (w : World) (hp : CO w p ⟨k, [], 0, [], 0, []⟩) (hg : g ≠ p) (hgl : g < w.heap.size) (h0 : w.cell? ⟨g, 0, none⟩ = some (encStr x)) (h1 : w.cell? ⟨g, 1, none⟩ = some (encStr y)) (hm : x.length ≤ 281474976710656) (hv : RV w) :
    Calls Tryd.prog 15 #[.pointer (some ⟨p, 0, none⟩), .slice (some ⟨g, 0, none⟩) 2 c] w fun e w' => e = .returned (.int .i64 (if (nodeO x).2 = 0 then (if isName y = true then 0 else 3) else (nodeO x).2)) ∧ ((nodeO x).2 = 0 → CO w' p ⟨k, (nodeO x).1.n, (nodeO x).1.d, if isName y = true then y else [], 0, []⟩) ∧ Below p w w' := by
  have HN := Lib.hid (order_node x w hm hv)
  have HY := Lib.hid (order_name y)
  have c0 := hp.cell.1
  simp only at c0
  clear hv
  generalize nodeO x = q at *
  obtain ⟨⟨nm, d⟩, e0⟩ := q
  simp only at HN ⊢
  rcases hk with rfl | rfl <;> by_cases he : e0 = 0
  all_goals
    first | subst he | (have he' : (e0 == 0) = false := by simpa using he)
    have h1' : ∀ w1, Below w.heap.size w w1 → w1.cell? ⟨g, 1, none⟩ = some (encStr y) := fun w1 hb => (hb.cell (p := ⟨g, 1, none⟩) hgl).trans h1
    go_enter Tryd.func15, Tryd.ntmps15
    go_wp2_with fail
    go_at_call 31
    refine HN.out.mono ?_
    rintro e w1 ⟨rfl, hb⟩
    have k1 := hp.mono hb
    have hB := below_p hp hb
    have d1 := k1.cell.2.1
    have d2 := k1.cell.2.2.1
    have f1 := k1.free 1
    have f2 := k1.free 2
    have e1 := h1' _ hb
    clear hb HN h1'
    go_wp2_with fail
    first
    | go_ret
      exact ⟨rfl, (hB.setCell (Nat.le_refl _) _).setCell (Nat.le_refl _) _⟩
    | refine (HY.out _).mono ?_
      rintro e w2 ⟨rfl, hb2⟩
      have k2 := ((k1.setF nm).setD d).mono hb2
      have hB2 := ((hB.setCell (p := ⟨p, 1, none⟩) (Nat.le_refl _) (encStr nm)).setCell (p := ⟨p, 2, none⟩) (Nat.le_refl _) (.int .i64 d)).trans (below_p ((k1.setF nm).setD d) hb2)
      have d3 := k2.cell.2.2.2.1
      have f3 := k2.free 3
      clear hb2 HY d1 d2 f1 f2 e1 h0 h1 k1 hB
      go_wp2_with fail
      all_goals
        go_ret
        exact ⟨rfl, k2.setN _, hB2.setCell (Nat.le_refl _) _⟩

end Go.Proofs.YtfammopenanapaaDoor
