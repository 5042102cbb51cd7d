/- X-PARTIAL What value.Reduce, Int, Ptr, Num, Ints return: layer 8. -/
import Derived.Test.YtdpnphnafidpiaaValD
namespace Go.Proofs.Ytdpnphnafidpiaa
open Go.RowKit

theorem blk_upd {w : World} {b : Nat} {C : Array Value} {t : TypeId} (h : w.heap[b]? = some (.cells C t)) (o : Nat) (v : Value) : (w.setCell ⟨b, o, none⟩ v).heap[b]? = some (.cells (C.setIfInBounds o v) t) := by
  simp [World.setCell, Array.getElem?_modify, h]
theorem srt_srt (l : List Str) : srt (srt l) = srt l := srt_of (strict_srt l) (fun _ => Iff.rfl)
theorem Sp.of_ok {lo hi : Int} (h1 : I64 lo) (h2 : I64 hi) : (Sp.of lo hi).ok := by
  by_cases h : hi < lo
  · rw [Sp.of_t h]; exact Sp.zero_ok
  · rw [Sp.of_f h]; exact ⟨h1, h2⟩
theorem Sp.meet_ok {x y : Sp} (hx : x.ok) (hy : y.ok) : (x.meet y).ok := by
  unfold Sp.meet
  split
  · exact Sp.zero_ok
  · refine Sp.of_ok ?_ ?_
    · rw [Int.max_def]; split; exact hy.1; exact hx.1
    · rw [Int.min_def]; split; exact hx.2; exact hy.2
theorem In.std_tight {x : In} (hx : x.std) : x.c.m = 0 ∨ x.s.none = false := by
  rcases hx.2.2 with ⟨_, e⟩ | ⟨e, _⟩
  · left; rw [e]; rfl
  · exact Or.inr e
theorem tight_ok {x : In} (hx : x.std) : (tightI x.s x.c).ok := by
  have hlo := hx.1.1; have hhi := hx.1.2
  unfold tightI
  by_cases h0 : x.c.m = 0
  · rw [if_pos h0]
    exact Sp.meet_ok hx.1 (Sp.of_ok hx.2.1.1.2 hx.2.1.1.2)
  · rw [if_neg h0]
    have hm : 0 < x.c.m := by have := hx.2.1.2.1; omega
    obtain ⟨r0, r1⟩ := hx.2.1.2.2.2 hm
    have hu := up_spec (lo := x.s.lo) r0 r1
    have hd := dn_spec (hi := x.s.hi) r0 r1
    split
    · exact Sp.zero_ok
    · next h =>
      have h3 := hd.2.2.2 (x.s.lo + upI x.s.lo x.c.m x.c.r) (by omega) hu.2.2.1
      exact Sp.of_ok (by unfold I64 at *; omega) (by unfold I64 at *; omega)
theorem one_ok {t : Sp} {c : Cg} (ht : t.ok) (hc : c.ok) : (oneC t c).ok := by
  unfold oneC
  split
  · rw [Cg.of_nil]; exact ⟨I64_0, ht.1⟩
  · exact hc

set_option maxRecDepth 100000 in
set_option maxHeartbeats 8000000 in
theorem value_Reduce (i : In) (hi : i.ok) (n : Bool) (l : List Str) (A : Option Addr) (c : Nat) (w : World) (hm : l.length * 16 ≤ 140737488355328) (hz : A = none → c = 0) (hr : SRow w A l) :
    Calls Try.prog 5 #[.agg #[.bool i.s.s, .int .i64 i.s.lo, .int .i64 i.s.hi, .bool i.c.s, .int .i64 i.c.m, .int .i64 i.c.r, .bool n, .slice A l.length c]] w fun e w' => (∃ A' c', e = .returned (.agg #[.bool (i.red).s.s, .int .i64 (i.red).s.lo, .int .i64 (i.red).s.hi, .bool (i.red).c.s, .int .i64 (i.red).c.m, .int .i64 (i.red).c.r, .bool n, .slice A' (srt l).length c']) ∧ MadeV w.heap.size w' A' c' (srt l)) ∧ Below w.heap.size w w' := by
  have HC : Hid (∀ w', Below w.heap.size w w' → _) := Lib.hid (fun w' h => value_split i hi n l A c w' hm hz (hr.mono h))
  have hx := In.clean_std hi
  unfold In.red
  generalize i.clean = x at *
  have HT := Lib.hid (value_tight x.s x.c hx.1 hx.2.1 (In.std_tight hx))
  have ht := tight_ok hx
  have hsl := srt_len_le l
  unfold In.redC
  generalize tightI x.s x.c = t at *
  have ho := one_ok ht hx.2.1.1
  have h1 := fun (A2 : Option Addr) (c2 : Nat) (w' : World) (h : A2 = none → c2 = 0) (hr : SRow w' A2 (srt l)) => value_clean ⟨t, oneC t x.c⟩ ⟨ht, ho⟩ n (srt l) A2 c2 w' (by omega) h hr
  rw [srt_srt] at h1
  dsimp only at h1
  generalize hk : In.clean ⟨t, oneC t x.c⟩ = k at *
  have H3 := Lib.hid (cong_one t.lo)
  have H4 : Hid (∀ (A2 : Option Addr) (c2 : Nat) (w' : World), _) := Lib.hid (fun A2 c2 w' => parts_value k n (srt l) A2 c2 w')
  have hcase : (t.lo == t.hi) = true ∨ (t.lo == t.hi) = false := by cases (t.lo == t.hi) <;> simp
  clear hi hr hsl hk ht ho
  rcases hcase with he | he
  · have eo : oneC t x.c = Cg.of 0 t.lo := by unfold oneC; rw [if_pos (by simpa using he)]
    rw [eo] at h1
    have H2 := Lib.hid h1
    clear h1 eo hx
    generalize Cg.of 0 t.lo = o at *
    go_enter Try.func5, Try.ntmps5
    go_upto_region 1 with fail
    generalize hW : ((w.alloc (.cells #[.bool i.s.s, .int .i64 i.s.lo, .int .i64 i.s.hi, .bool i.c.s, .int .i64 i.c.m, .int .i64 i.c.r, .bool n, .slice A l.length c] 30)).alloc (.cells #[.bool false, .int .i64 0, .int .i64 0, .bool false, .int .i64 0, .int .i64 0, .bool false, .slice none 0 0] 30)) = W
    have q0_0 : W.cell? ⟨w.heap.size, 0, none⟩ = some (.bool i.s.s) := by rw [← hW]; simp [go_sem]
    have q0_1 : W.cell? ⟨w.heap.size, 1, none⟩ = some (.int .i64 i.s.lo) := by rw [← hW]; simp [go_sem]
    have q0_2 : W.cell? ⟨w.heap.size, 2, none⟩ = some (.int .i64 i.s.hi) := by rw [← hW]; simp [go_sem]
    have q0_3 : W.cell? ⟨w.heap.size, 3, none⟩ = some (.bool i.c.s) := by rw [← hW]; simp [go_sem]
    have q0_4 : W.cell? ⟨w.heap.size, 4, none⟩ = some (.int .i64 i.c.m) := by rw [← hW]; simp [go_sem]
    have q0_5 : W.cell? ⟨w.heap.size, 5, none⟩ = some (.int .i64 i.c.r) := by rw [← hW]; simp [go_sem]
    have q0_6 : W.cell? ⟨w.heap.size, 6, none⟩ = some (.bool n) := by rw [← hW]; simp [go_sem]
    have q0_7 : W.cell? ⟨w.heap.size, 7, none⟩ = some (.slice A l.length c) := by rw [← hW]; simp [go_sem]
    have q1_0 : W.cell? ⟨w.heap.size + 1, 0, none⟩ = some (.bool false) := by rw [← hW]; simp [go_sem]
    have q1_1 : W.cell? ⟨w.heap.size + 1, 1, none⟩ = some (.int .i64 0) := by rw [← hW]; simp [go_sem]
    have q1_2 : W.cell? ⟨w.heap.size + 1, 2, none⟩ = some (.int .i64 0) := by rw [← hW]; simp [go_sem]
    have q1_3 : W.cell? ⟨w.heap.size + 1, 3, none⟩ = some (.bool false) := by rw [← hW]; simp [go_sem]
    have q1_4 : W.cell? ⟨w.heap.size + 1, 4, none⟩ = some (.int .i64 0) := by rw [← hW]; simp [go_sem]
    have q1_5 : W.cell? ⟨w.heap.size + 1, 5, none⟩ = some (.int .i64 0) := by rw [← hW]; simp [go_sem]
    have q1_6 : W.cell? ⟨w.heap.size + 1, 6, none⟩ = some (.bool false) := by rw [← hW]; simp [go_sem]
    have q1_7 : W.cell? ⟨w.heap.size + 1, 7, none⟩ = some (.slice none 0 0) := by rw [← hW]; simp [go_sem]
    have f0 : ∀ o, W.frozen? ⟨w.heap.size, o, none⟩ = false := by intro o; rw [← hW]; simp [go_sem]
    have f1 : ∀ o, W.frozen? ⟨w.heap.size + 1, o, none⟩ = false := by intro o; rw [← hW]; simp [go_sem]
    have z0 : w.heap.size < W.heap.size := by rw [← hW]; first | (simp; done) | (simp; omega)
    have z1 : w.heap.size + 1 < W.heap.size := by rw [← hW]; first | (simp; done) | (simp; omega)
    have HW : Below w.heap.size w W := by rw [← hW]; exact (by repeat (first | (with_reducible assumption) | (with_reducible exact Below.refl _ _) | (with_reducible refine Below.alloc ?_ (by first | omega | (simp; omega) | (simp; done) | (dsimp only; omega)) _) | (with_reducible refine Below.setCell ?_ (by first | omega | (simp; omega) | (simp; done) | (dsimp only; omega)) _) | (with_reducible refine Below.drew ?_) | (with_reducible refine Below.trans ?_ (Below.mono (by assumption) (by first | omega | (simp; omega) | (simp; done) | (dsimp only; omega))))))
    clear hW
    go_wp2_with fail
    go_at_call 20
    refine (HC.out _ HW).mono ?_
    rintro e w2 ⟨⟨A2, c2, rfl, hM⟩, hb2⟩
    go_upto_region 2 with fail
    have HB := HW.trans (hb2.mono HW.size)
    have hzW := hb2.size
    have u1 := z1
    replace f1 := fun o => (hb2.frozen (p := ⟨w.heap.size + 1, o, none⟩) z1).trans (f1 o)
    replace q0_0 := (hb2.cell (p := ⟨w.heap.size, 0, none⟩) z0).trans q0_0
    replace q0_1 := (hb2.cell (p := ⟨w.heap.size, 1, none⟩) z0).trans q0_1
    replace q0_2 := (hb2.cell (p := ⟨w.heap.size, 2, none⟩) z0).trans q0_2
    replace q0_3 := (hb2.cell (p := ⟨w.heap.size, 3, none⟩) z0).trans q0_3
    replace q0_4 := (hb2.cell (p := ⟨w.heap.size, 4, none⟩) z0).trans q0_4
    replace q0_5 := (hb2.cell (p := ⟨w.heap.size, 5, none⟩) z0).trans q0_5
    replace q0_6 := (hb2.cell (p := ⟨w.heap.size, 6, none⟩) z0).trans q0_6
    replace q0_7 := (hb2.cell (p := ⟨w.heap.size, 7, none⟩) z0).trans q0_7
    replace q1_0 := (hb2.cell (p := ⟨w.heap.size + 1, 0, none⟩) z1).trans q1_0
    replace q1_1 := (hb2.cell (p := ⟨w.heap.size + 1, 1, none⟩) z1).trans q1_1
    replace q1_2 := (hb2.cell (p := ⟨w.heap.size + 1, 2, none⟩) z1).trans q1_2
    replace q1_3 := (hb2.cell (p := ⟨w.heap.size + 1, 3, none⟩) z1).trans q1_3
    replace q1_4 := (hb2.cell (p := ⟨w.heap.size + 1, 4, none⟩) z1).trans q1_4
    replace q1_5 := (hb2.cell (p := ⟨w.heap.size + 1, 5, none⟩) z1).trans q1_5
    replace q1_6 := (hb2.cell (p := ⟨w.heap.size + 1, 6, none⟩) z1).trans q1_6
    replace q1_7 := (hb2.cell (p := ⟨w.heap.size + 1, 7, none⟩) z1).trans q1_7
    replace z0 := Nat.lt_of_lt_of_le z0 hb2.size
    replace z1 := Nat.lt_of_lt_of_le z1 hb2.size
    clear f0 q0_0 q0_1 q0_2 q0_3 q0_4 q0_5 q0_6 q0_7 hb2
    have kV := al_new w2 (.cells #[.bool x.s.s, .int .i64 x.s.lo, .int .i64 x.s.hi, .bool x.c.s, .int .i64 x.c.m, .int .i64 x.c.r, .bool n, .slice A2 (srt l).length c2] 48) rfl
    have HX : Below w2.heap.size w2 (w2.alloc (.cells #[.bool x.s.s, .int .i64 x.s.lo, .int .i64 x.s.hi, .bool x.c.s, .int .i64 x.c.m, .int .i64 x.c.r, .bool n, .slice A2 (srt l).length c2] 48)) := (by repeat (first | (with_reducible assumption) | (with_reducible exact Below.refl _ _) | (with_reducible refine Below.alloc ?_ (by first | omega | (simp; omega) | (simp; done) | (dsimp only; omega)) _) | (with_reducible refine Below.setCell ?_ (by first | omega | (simp; omega) | (simp; done) | (dsimp only; omega)) _) | (with_reducible refine Below.drew ?_) | (with_reducible refine Below.trans ?_ (Below.mono (by assumption) (by first | omega | (simp; omega) | (simp; done) | (dsimp only; omega))))))
    generalize w2.alloc (.cells #[.bool x.s.s, .int .i64 x.s.lo, .int .i64 x.s.hi, .bool x.c.s, .int .i64 x.c.m, .int .i64 x.c.r, .bool n, .slice A2 (srt l).length c2] 48) = V at *
    have p_0 := blk_cell kV 0
    have p_1 := blk_cell kV 1
    have p_2 := blk_cell kV 2
    have p_3 := blk_cell kV 3
    have p_4 := blk_cell kV 4
    have p_5 := blk_cell kV 5
    have p_6 := blk_cell kV 6
    have p_7 := blk_cell kV 7
    simp only [List.getElem?_toArray, List.getElem?_cons_zero, List.getElem?_cons_succ] at p_0 p_1 p_2 p_3 p_4 p_5 p_6 p_7
    have fp := blk_free kV
    have zp := blk_lt kV
    go_wp2_with fail
    go_at_call 21
    refine (HT.out _).mono ?_
    rintro e w3 ⟨rfl, hb3⟩
    have k3 := (hb3.block _ zp).trans kV
    replace HX := HX.trans (hb3.mono (by omega))
    clear p_0 p_1 p_2 p_3 p_4 p_5 p_6 p_7 fp kV hb3
    have r_0 := blk_cell k3 0
    have r_1 := blk_cell k3 1
    have r_2 := blk_cell k3 2
    have r_3 := blk_cell k3 3
    have r_4 := blk_cell k3 4
    have r_5 := blk_cell k3 5
    have r_6 := blk_cell k3 6
    have r_7 := blk_cell k3 7
    simp only [List.getElem?_toArray, List.getElem?_cons_zero, List.getElem?_cons_succ] at r_0 r_1 r_2 r_3 r_4 r_5 r_6 r_7
    have fr := blk_free k3
    have zr := blk_lt k3
    go_upto_region 3 with fail
    have kY : (((w3.setCell ⟨w2.heap.size, 0, none⟩ (.bool t.s)).setCell ⟨w2.heap.size, 1, none⟩ (.int .i64 t.lo)).setCell ⟨w2.heap.size, 2, none⟩ (.int .i64 t.hi)).heap[w2.heap.size]? = some (.cells #[.bool t.s, .int .i64 t.lo, .int .i64 t.hi, .bool x.c.s, .int .i64 x.c.m, .int .i64 x.c.r, .bool n, .slice A2 (srt l).length c2] 48) := blk_upd (blk_upd (blk_upd k3 0 _) 1 _) 2 _
    replace HX : Below w2.heap.size w2 (((w3.setCell ⟨w2.heap.size, 0, none⟩ (.bool t.s)).setCell ⟨w2.heap.size, 1, none⟩ (.int .i64 t.lo)).setCell ⟨w2.heap.size, 2, none⟩ (.int .i64 t.hi)) := (by repeat (first | (with_reducible assumption) | (with_reducible exact Below.refl _ _) | (with_reducible refine Below.alloc ?_ (by first | omega | (simp; omega) | (simp; done) | (dsimp only; omega)) _) | (with_reducible refine Below.setCell ?_ (by first | omega | (simp; omega) | (simp; done) | (dsimp only; omega)) _) | (with_reducible refine Below.drew ?_) | (with_reducible refine Below.trans ?_ (Below.mono (by assumption) (by first | omega | (simp; omega) | (simp; done) | (dsimp only; omega))))))
    generalize ((w3.setCell ⟨w2.heap.size, 0, none⟩ (.bool t.s)).setCell ⟨w2.heap.size, 1, none⟩ (.int .i64 t.lo)).setCell ⟨w2.heap.size, 2, none⟩ (.int .i64 t.hi) = Y at *
    clear r_0 r_1 r_2 r_3 r_4 r_5 r_6 r_7 fr k3 zr zp
    have p_0 := blk_cell kY 0
    have p_1 := blk_cell kY 1
    have p_2 := blk_cell kY 2
    have p_3 := blk_cell kY 3
    have p_4 := blk_cell kY 4
    have p_5 := blk_cell kY 5
    have p_6 := blk_cell kY 6
    have p_7 := blk_cell kY 7
    simp only [List.getElem?_toArray, List.getElem?_cons_zero, List.getElem?_cons_succ] at p_0 p_1 p_2 p_3 p_4 p_5 p_6 p_7
    have fp := blk_free kY
    have zp := blk_lt kY
    go_upto_region 4 with fail
    go_wp2_with fail
    go_at_call 22
    refine (H3.out _).mono ?_
    rintro e w4 ⟨rfl, hb4⟩
    have k4 := (hb4.block _ zp).trans kY
    replace HX := HX.trans (hb4.mono HX.size)
    clear p_0 p_1 p_2 p_3 p_4 p_5 p_6 p_7 fp kY hb4
    have r_0 := blk_cell k4 0
    have r_1 := blk_cell k4 1
    have r_2 := blk_cell k4 2
    have r_3 := blk_cell k4 3
    have r_4 := blk_cell k4 4
    have r_5 := blk_cell k4 5
    have r_6 := blk_cell k4 6
    have r_7 := blk_cell k4 7
    simp only [List.getElem?_toArray, List.getElem?_cons_zero, List.getElem?_cons_succ] at r_0 r_1 r_2 r_3 r_4 r_5 r_6 r_7
    have fr := blk_free k4
    have zr := blk_lt k4
    go_upto_region 5 with fail
    have kZ : (((w4.setCell ⟨w2.heap.size, 3, none⟩ (.bool o.s)).setCell ⟨w2.heap.size, 4, none⟩ (.int .i64 o.m)).setCell ⟨w2.heap.size, 5, none⟩ (.int .i64 o.r)).heap[w2.heap.size]? = some (.cells #[.bool t.s, .int .i64 t.lo, .int .i64 t.hi, .bool o.s, .int .i64 o.m, .int .i64 o.r, .bool n, .slice A2 (srt l).length c2] 48) := blk_upd (blk_upd (blk_upd k4 3 _) 4 _) 5 _
    replace HX : Below w2.heap.size w2 (((w4.setCell ⟨w2.heap.size, 3, none⟩ (.bool o.s)).setCell ⟨w2.heap.size, 4, none⟩ (.int .i64 o.m)).setCell ⟨w2.heap.size, 5, none⟩ (.int .i64 o.r)) := (by repeat (first | (with_reducible assumption) | (with_reducible exact Below.refl _ _) | (with_reducible refine Below.alloc ?_ (by first | omega | (simp; omega) | (simp; done) | (dsimp only; omega)) _) | (with_reducible refine Below.setCell ?_ (by first | omega | (simp; omega) | (simp; done) | (dsimp only; omega)) _) | (with_reducible refine Below.drew ?_) | (with_reducible refine Below.trans ?_ (Below.mono (by assumption) (by first | omega | (simp; omega) | (simp; done) | (dsimp only; omega))))))
    generalize ((w4.setCell ⟨w2.heap.size, 3, none⟩ (.bool o.s)).setCell ⟨w2.heap.size, 4, none⟩ (.int .i64 o.m)).setCell ⟨w2.heap.size, 5, none⟩ (.int .i64 o.r) = TT at *
    clear r_0 r_1 r_2 r_3 r_4 r_5 r_6 r_7 fr k4 zr zp
    have p_0 := blk_cell kZ 0
    have p_1 := blk_cell kZ 1
    have p_2 := blk_cell kZ 2
    have p_3 := blk_cell kZ 3
    have p_4 := blk_cell kZ 4
    have p_5 := blk_cell kZ 5
    have p_6 := blk_cell kZ 6
    have p_7 := blk_cell kZ 7
    simp only [List.getElem?_toArray, List.getElem?_cons_zero, List.getElem?_cons_succ] at p_0 p_1 p_2 p_3 p_4 p_5 p_6 p_7
    have fp := blk_free kZ
    have zp := blk_lt kZ
    have hsz := HX.size
    have hbt : w2.heap.size < TT.heap.size := by omega
    have HRow := hM.2.2.1.mono HX
    go_wp2_with fail
    go_at_call 23
    refine (H2.out A2 c2 _ hM.2.2.2.1 HRow).mono ?_
    rintro e w5 ⟨⟨A5, c5, rfl, hM5⟩, hb5⟩
    replace HX := HX.trans (hb5.mono hsz)
    clear p_0 p_1 p_2 p_3 p_4 p_5 p_6 p_7 fp zp HRow
    go_wp2_with fail
    go_at_call 24
    refine (H4.out A5 c5 _).mono ?_
    rintro e w6 ⟨rfl, hb6⟩
    replace hM5 := hM5.mono hb6
    replace HX := HX.trans (hb6.mono HX.size)
    replace HB := HB.trans (HX.mono HB.size)
    replace f1 := fun o => (HX.frozen (p := ⟨w.heap.size + 1, o, none⟩) z1).trans (f1 o)
    replace q1_0 := (HX.cell (p := ⟨w.heap.size + 1, 0, none⟩) z1).trans q1_0
    replace q1_1 := (HX.cell (p := ⟨w.heap.size + 1, 1, none⟩) z1).trans q1_1
    replace q1_2 := (HX.cell (p := ⟨w.heap.size + 1, 2, none⟩) z1).trans q1_2
    replace q1_3 := (HX.cell (p := ⟨w.heap.size + 1, 3, none⟩) z1).trans q1_3
    replace q1_4 := (HX.cell (p := ⟨w.heap.size + 1, 4, none⟩) z1).trans q1_4
    replace q1_5 := (HX.cell (p := ⟨w.heap.size + 1, 5, none⟩) z1).trans q1_5
    replace q1_6 := (HX.cell (p := ⟨w.heap.size + 1, 6, none⟩) z1).trans q1_6
    replace q1_7 := (HX.cell (p := ⟨w.heap.size + 1, 7, none⟩) z1).trans q1_7
    replace z1 := Nat.lt_of_lt_of_le z1 HX.size
    clear hb5 hb6 HX
    go_wp2
    refine bodyPost_ret (by simp [results, Try.results5, go_sem, *] <;> rfl) rfl ⟨⟨A5, c5, rfl, (by (refine MadeV.base (b := w.heap.size + 2) ?_ (by omega)); (repeat refine MadeV.setCell ?_ (by first | omega | (simp; omega)) _); first | exact hM5 | exact hM5.base (by omega))⟩, (by repeat (first | (with_reducible assumption) | (with_reducible exact Below.refl _ _) | (with_reducible refine Below.alloc ?_ (by first | omega | (simp; omega) | (simp; done) | (dsimp only; omega)) _) | (with_reducible refine Below.setCell ?_ (by first | omega | (simp; omega) | (simp; done) | (dsimp only; omega)) _) | (with_reducible refine Below.drew ?_) | (with_reducible refine Below.trans ?_ (Below.mono (by assumption) (by first | omega | (simp; omega) | (simp; done) | (dsimp only; omega))))))⟩
  · have eo : oneC t x.c = x.c := by unfold oneC; rw [if_neg (by simpa using he)]
    rw [eo] at h1
    have H2 := Lib.hid h1
    clear h1 eo hx H3
    go_enter Try.func5, Try.ntmps5
    go_upto_region 1 with fail
    generalize hW : ((w.alloc (.cells #[.bool i.s.s, .int .i64 i.s.lo, .int .i64 i.s.hi, .bool i.c.s, .int .i64 i.c.m, .int .i64 i.c.r, .bool n, .slice A l.length c] 30)).alloc (.cells #[.bool false, .int .i64 0, .int .i64 0, .bool false, .int .i64 0, .int .i64 0, .bool false, .slice none 0 0] 30)) = W
    have q0_0 : W.cell? ⟨w.heap.size, 0, none⟩ = some (.bool i.s.s) := by rw [← hW]; simp [go_sem]
    have q0_1 : W.cell? ⟨w.heap.size, 1, none⟩ = some (.int .i64 i.s.lo) := by rw [← hW]; simp [go_sem]
    have q0_2 : W.cell? ⟨w.heap.size, 2, none⟩ = some (.int .i64 i.s.hi) := by rw [← hW]; simp [go_sem]
    have q0_3 : W.cell? ⟨w.heap.size, 3, none⟩ = some (.bool i.c.s) := by rw [← hW]; simp [go_sem]
    have q0_4 : W.cell? ⟨w.heap.size, 4, none⟩ = some (.int .i64 i.c.m) := by rw [← hW]; simp [go_sem]
    have q0_5 : W.cell? ⟨w.heap.size, 5, none⟩ = some (.int .i64 i.c.r) := by rw [← hW]; simp [go_sem]
    have q0_6 : W.cell? ⟨w.heap.size, 6, none⟩ = some (.bool n) := by rw [← hW]; simp [go_sem]
    have q0_7 : W.cell? ⟨w.heap.size, 7, none⟩ = some (.slice A l.length c) := by rw [← hW]; simp [go_sem]
    have q1_0 : W.cell? ⟨w.heap.size + 1, 0, none⟩ = some (.bool false) := by rw [← hW]; simp [go_sem]
    have q1_1 : W.cell? ⟨w.heap.size + 1, 1, none⟩ = some (.int .i64 0) := by rw [← hW]; simp [go_sem]
    have q1_2 : W.cell? ⟨w.heap.size + 1, 2, none⟩ = some (.int .i64 0) := by rw [← hW]; simp [go_sem]
    have q1_3 : W.cell? ⟨w.heap.size + 1, 3, none⟩ = some (.bool false) := by rw [← hW]; simp [go_sem]
    have q1_4 : W.cell? ⟨w.heap.size + 1, 4, none⟩ = some (.int .i64 0) := by rw [← hW]; simp [go_sem]
    have q1_5 : W.cell? ⟨w.heap.size + 1, 5, none⟩ = some (.int .i64 0) := by rw [← hW]; simp [go_sem]
    have q1_6 : W.cell? ⟨w.heap.size + 1, 6, none⟩ = some (.bool false) := by rw [← hW]; simp [go_sem]
    have q1_7 : W.cell? ⟨w.heap.size + 1, 7, none⟩ = some (.slice none 0 0) := by rw [← hW]; simp [go_sem]
    have f0 : ∀ o, W.frozen? ⟨w.heap.size, o, none⟩ = false := by intro o; rw [← hW]; simp [go_sem]
    have f1 : ∀ o, W.frozen? ⟨w.heap.size + 1, o, none⟩ = false := by intro o; rw [← hW]; simp [go_sem]
    have z0 : w.heap.size < W.heap.size := by rw [← hW]; first | (simp; done) | (simp; omega)
    have z1 : w.heap.size + 1 < W.heap.size := by rw [← hW]; first | (simp; done) | (simp; omega)
    have HW : Below w.heap.size w W := by rw [← hW]; exact (by repeat (first | (with_reducible assumption) | (with_reducible exact Below.refl _ _) | (with_reducible refine Below.alloc ?_ (by first | omega | (simp; omega) | (simp; done) | (dsimp only; omega)) _) | (with_reducible refine Below.setCell ?_ (by first | omega | (simp; omega) | (simp; done) | (dsimp only; omega)) _) | (with_reducible refine Below.drew ?_) | (with_reducible refine Below.trans ?_ (Below.mono (by assumption) (by first | omega | (simp; omega) | (simp; done) | (dsimp only; omega))))))
    clear hW
    go_wp2_with fail
    go_at_call 20
    refine (HC.out _ HW).mono ?_
    rintro e w2 ⟨⟨A2, c2, rfl, hM⟩, hb2⟩
    go_upto_region 2 with fail
    have HB := HW.trans (hb2.mono HW.size)
    have hzW := hb2.size
    have u1 := z1
    replace f1 := fun o => (hb2.frozen (p := ⟨w.heap.size + 1, o, none⟩) z1).trans (f1 o)
    replace q0_0 := (hb2.cell (p := ⟨w.heap.size, 0, none⟩) z0).trans q0_0
    replace q0_1 := (hb2.cell (p := ⟨w.heap.size, 1, none⟩) z0).trans q0_1
    replace q0_2 := (hb2.cell (p := ⟨w.heap.size, 2, none⟩) z0).trans q0_2
    replace q0_3 := (hb2.cell (p := ⟨w.heap.size, 3, none⟩) z0).trans q0_3
    replace q0_4 := (hb2.cell (p := ⟨w.heap.size, 4, none⟩) z0).trans q0_4
    replace q0_5 := (hb2.cell (p := ⟨w.heap.size, 5, none⟩) z0).trans q0_5
    replace q0_6 := (hb2.cell (p := ⟨w.heap.size, 6, none⟩) z0).trans q0_6
    replace q0_7 := (hb2.cell (p := ⟨w.heap.size, 7, none⟩) z0).trans q0_7
    replace q1_0 := (hb2.cell (p := ⟨w.heap.size + 1, 0, none⟩) z1).trans q1_0
    replace q1_1 := (hb2.cell (p := ⟨w.heap.size + 1, 1, none⟩) z1).trans q1_1
    replace q1_2 := (hb2.cell (p := ⟨w.heap.size + 1, 2, none⟩) z1).trans q1_2
    replace q1_3 := (hb2.cell (p := ⟨w.heap.size + 1, 3, none⟩) z1).trans q1_3
    replace q1_4 := (hb2.cell (p := ⟨w.heap.size + 1, 4, none⟩) z1).trans q1_4
    replace q1_5 := (hb2.cell (p := ⟨w.heap.size + 1, 5, none⟩) z1).trans q1_5
    replace q1_6 := (hb2.cell (p := ⟨w.heap.size + 1, 6, none⟩) z1).trans q1_6
    replace q1_7 := (hb2.cell (p := ⟨w.heap.size + 1, 7, none⟩) z1).trans q1_7
    replace z0 := Nat.lt_of_lt_of_le z0 hb2.size
    replace z1 := Nat.lt_of_lt_of_le z1 hb2.size
    clear f0 q0_0 q0_1 q0_2 q0_3 q0_4 q0_5 q0_6 q0_7 hb2
    have kV := al_new w2 (.cells #[.bool x.s.s, .int .i64 x.s.lo, .int .i64 x.s.hi, .bool x.c.s, .int .i64 x.c.m, .int .i64 x.c.r, .bool n, .slice A2 (srt l).length c2] 48) rfl
    have HX : Below w2.heap.size w2 (w2.alloc (.cells #[.bool x.s.s, .int .i64 x.s.lo, .int .i64 x.s.hi, .bool x.c.s, .int .i64 x.c.m, .int .i64 x.c.r, .bool n, .slice A2 (srt l).length c2] 48)) := (by repeat (first | (with_reducible assumption) | (with_reducible exact Below.refl _ _) | (with_reducible refine Below.alloc ?_ (by first | omega | (simp; omega) | (simp; done) | (dsimp only; omega)) _) | (with_reducible refine Below.setCell ?_ (by first | omega | (simp; omega) | (simp; done) | (dsimp only; omega)) _) | (with_reducible refine Below.drew ?_) | (with_reducible refine Below.trans ?_ (Below.mono (by assumption) (by first | omega | (simp; omega) | (simp; done) | (dsimp only; omega))))))
    generalize w2.alloc (.cells #[.bool x.s.s, .int .i64 x.s.lo, .int .i64 x.s.hi, .bool x.c.s, .int .i64 x.c.m, .int .i64 x.c.r, .bool n, .slice A2 (srt l).length c2] 48) = V at *
    have p_0 := blk_cell kV 0
    have p_1 := blk_cell kV 1
    have p_2 := blk_cell kV 2
    have p_3 := blk_cell kV 3
    have p_4 := blk_cell kV 4
    have p_5 := blk_cell kV 5
    have p_6 := blk_cell kV 6
    have p_7 := blk_cell kV 7
    simp only [List.getElem?_toArray, List.getElem?_cons_zero, List.getElem?_cons_succ] at p_0 p_1 p_2 p_3 p_4 p_5 p_6 p_7
    have fp := blk_free kV
    have zp := blk_lt kV
    go_wp2_with fail
    go_at_call 21
    refine (HT.out _).mono ?_
    rintro e w3 ⟨rfl, hb3⟩
    have k3 := (hb3.block _ zp).trans kV
    replace HX := HX.trans (hb3.mono (by omega))
    clear p_0 p_1 p_2 p_3 p_4 p_5 p_6 p_7 fp kV hb3
    have r_0 := blk_cell k3 0
    have r_1 := blk_cell k3 1
    have r_2 := blk_cell k3 2
    have r_3 := blk_cell k3 3
    have r_4 := blk_cell k3 4
    have r_5 := blk_cell k3 5
    have r_6 := blk_cell k3 6
    have r_7 := blk_cell k3 7
    simp only [List.getElem?_toArray, List.getElem?_cons_zero, List.getElem?_cons_succ] at r_0 r_1 r_2 r_3 r_4 r_5 r_6 r_7
    have fr := blk_free k3
    have zr := blk_lt k3
    go_upto_region 3 with fail
    have kY : (((w3.setCell ⟨w2.heap.size, 0, none⟩ (.bool t.s)).setCell ⟨w2.heap.size, 1, none⟩ (.int .i64 t.lo)).setCell ⟨w2.heap.size, 2, none⟩ (.int .i64 t.hi)).heap[w2.heap.size]? = some (.cells #[.bool t.s, .int .i64 t.lo, .int .i64 t.hi, .bool x.c.s, .int .i64 x.c.m, .int .i64 x.c.r, .bool n, .slice A2 (srt l).length c2] 48) := blk_upd (blk_upd (blk_upd k3 0 _) 1 _) 2 _
    replace HX : Below w2.heap.size w2 (((w3.setCell ⟨w2.heap.size, 0, none⟩ (.bool t.s)).setCell ⟨w2.heap.size, 1, none⟩ (.int .i64 t.lo)).setCell ⟨w2.heap.size, 2, none⟩ (.int .i64 t.hi)) := (by repeat (first | (with_reducible assumption) | (with_reducible exact Below.refl _ _) | (with_reducible refine Below.alloc ?_ (by first | omega | (simp; omega) | (simp; done) | (dsimp only; omega)) _) | (with_reducible refine Below.setCell ?_ (by first | omega | (simp; omega) | (simp; done) | (dsimp only; omega)) _) | (with_reducible refine Below.drew ?_) | (with_reducible refine Below.trans ?_ (Below.mono (by assumption) (by first | omega | (simp; omega) | (simp; done) | (dsimp only; omega))))))
    generalize ((w3.setCell ⟨w2.heap.size, 0, none⟩ (.bool t.s)).setCell ⟨w2.heap.size, 1, none⟩ (.int .i64 t.lo)).setCell ⟨w2.heap.size, 2, none⟩ (.int .i64 t.hi) = Y at *
    clear r_0 r_1 r_2 r_3 r_4 r_5 r_6 r_7 fr k3 zr zp
    have p_0 := blk_cell kY 0
    have p_1 := blk_cell kY 1
    have p_2 := blk_cell kY 2
    have p_3 := blk_cell kY 3
    have p_4 := blk_cell kY 4
    have p_5 := blk_cell kY 5
    have p_6 := blk_cell kY 6
    have p_7 := blk_cell kY 7
    simp only [List.getElem?_toArray, List.getElem?_cons_zero, List.getElem?_cons_succ] at p_0 p_1 p_2 p_3 p_4 p_5 p_6 p_7
    have fp := blk_free kY
    have zp := blk_lt kY
    go_upto_region 5 with fail
    have hsz := HX.size
    have hbt : w2.heap.size < Y.heap.size := by omega
    have HRow := hM.2.2.1.mono HX
    go_wp2_with fail
    go_at_call 23
    refine (H2.out A2 c2 _ hM.2.2.2.1 HRow).mono ?_
    rintro e w5 ⟨⟨A5, c5, rfl, hM5⟩, hb5⟩
    replace HX := HX.trans (hb5.mono hsz)
    clear p_0 p_1 p_2 p_3 p_4 p_5 p_6 p_7 fp zp HRow
    go_wp2_with fail
    go_at_call 24
    refine (H4.out A5 c5 _).mono ?_
    rintro e w6 ⟨rfl, hb6⟩
    replace hM5 := hM5.mono hb6
    replace HX := HX.trans (hb6.mono HX.size)
    replace HB := HB.trans (HX.mono HB.size)
    replace f1 := fun o => (HX.frozen (p := ⟨w.heap.size + 1, o, none⟩) z1).trans (f1 o)
    replace q1_0 := (HX.cell (p := ⟨w.heap.size + 1, 0, none⟩) z1).trans q1_0
    replace q1_1 := (HX.cell (p := ⟨w.heap.size + 1, 1, none⟩) z1).trans q1_1
    replace q1_2 := (HX.cell (p := ⟨w.heap.size + 1, 2, none⟩) z1).trans q1_2
    replace q1_3 := (HX.cell (p := ⟨w.heap.size + 1, 3, none⟩) z1).trans q1_3
    replace q1_4 := (HX.cell (p := ⟨w.heap.size + 1, 4, none⟩) z1).trans q1_4
    replace q1_5 := (HX.cell (p := ⟨w.heap.size + 1, 5, none⟩) z1).trans q1_5
    replace q1_6 := (HX.cell (p := ⟨w.heap.size + 1, 6, none⟩) z1).trans q1_6
    replace q1_7 := (HX.cell (p := ⟨w.heap.size + 1, 7, none⟩) z1).trans q1_7
    replace z1 := Nat.lt_of_lt_of_le z1 HX.size
    clear hb5 hb6 HX
    go_wp2
    refine bodyPost_ret (by simp [results, Try.results5, go_sem, *] <;> rfl) rfl ⟨⟨A5, c5, rfl, (by (refine MadeV.base (b := w.heap.size + 2) ?_ (by omega)); (repeat refine MadeV.setCell ?_ (by first | omega | (simp; omega)) _); first | exact hM5 | exact hM5.base (by omega))⟩, (by repeat (first | (with_reducible assumption) | (with_reducible exact Below.refl _ _) | (with_reducible refine Below.alloc ?_ (by first | omega | (simp; omega) | (simp; done) | (dsimp only; omega)) _) | (with_reducible refine Below.setCell ?_ (by first | omega | (simp; omega) | (simp; done) | (dsimp only; omega)) _) | (with_reducible refine Below.drew ?_) | (with_reducible refine Below.trans ?_ (Below.mono (by assumption) (by first | omega | (simp; omega) | (simp; done) | (dsimp only; omega))))))⟩
end Go.Proofs.Ytdpnphnafidpiaa
