/- The law ReckonSound, walked. -/
import Derived.Test.YtdphjfppfngcmaaSndB
namespace Go.Proofs.Ytdphjfppfngcmaa
open Go.RowKit

/-- An int of a span, by a number. -/
def inW (a : Sp) (n : Int) : Int := if a.has n = true then n else if (bits .and .i64 n 1 == 0) = true then a.lo else a.hi
theorem inW_in {a : Sp} (ha : a.none = false) (n : Int) : a.lo ≤ inW a n ∧ inW a n ≤ a.hi := by
  have l := (none_parts ha).2
  unfold inW
  split
  · next h =>
    rw [Sp.has_some n ha, Bool.and_eq_true, decide_eq_true_eq, decide_eq_true_eq] at h
    exact h
  · split <;> omega
set_option maxHeartbeats 1000000 in
theorem law_within (a : Sp) (n : Int) (w : World) :
    Calls Try.prog 17 #[.agg #[.bool a.s, .int .i64 a.lo, .int .i64 a.hi], .int .i64 n] w fun e w' => e = .returned (.int .i64 (inW a n)) ∧ Below w.heap.size w w' := by
  have HH := Lib.hid (r3_has a n)
  have E : inW a n = if a.has n = true then n else if (bits .and .i64 n 1 == 0) = true then a.lo else a.hi := rfl
  have HE := Lib.hid E
  clear E
  generalize inW a n = r at *
  generalize a.has n = x at *
  cases x <;> cases hb : bits .and .i64 n 1 == 0
  all_goals
    rw [hb] at HE
    go_enter Try.func17, Try.ntmps17
    go_wp2_with (go_at_call 10; (with_reducible refine (HH.out _).mono ?_); rintro e w1 ⟨rfl, hb1⟩; obtain ⟨hc1, hf1⟩ := bcell hb1; have hz1 := hb1.size; (try simp at hz1); (try have hy1 := Nat.lt_of_succ_le hz1); (try have hv1 := Nat.lt_of_succ_lt hy1); (try have hw10 : w.heap.size < w1.heap.size := by omega); (try have hw11 : w.heap.size + 1 < w1.heap.size := by omega); (try have hw12 : w.heap.size + 1 + 1 < w1.heap.size := by omega); (try have hw13 : w.heap.size + 1 + 1 + 1 < w1.heap.size := by omega))
    go_ret
    exact ⟨ret_int (by rw [HE.out]; rfl), (by repeat (first | (with_reducible assumption) | (with_reducible exact Below.refl _ _) | (with_reducible refine Below.alloc ?_ (by first | omega | (simp; omega) | (simp; done) | (dsimp only; omega)) _) | (with_reducible refine Below.setCell ?_ (by first | omega | (simp; omega) | (simp; done) | (dsimp only; omega)) _) | (with_reducible refine Below.drew ?_) | (with_reducible refine Below.trans ?_ (Below.mono (by assumption) (by first | omega | (simp; omega) | (simp; done) | (dsimp only; omega))))))⟩

set_option maxRecDepth 100000 in
set_option maxHeartbeats 4000000 in
theorem law_sound_none (op : Int) (a b : Sp) (x y : Int) (more : Sp) (ha : I64 a.lo ∧ I64 a.hi) (hb : I64 b.lo ∧ I64 b.hi) (h : (a.none || b.none) = true) (w : World) :
    Calls Try.prog 5 #[.agg #[.int .i64 op, .bool a.s, .int .i64 a.lo, .int .i64 a.hi, .bool b.s, .int .i64 b.lo, .int .i64 b.hi, .int .i64 x, .int .i64 y], .agg #[.bool more.s, .int .i64 more.lo, .int .i64 more.hi]] w fun e w' => e = .returned (.bool true) ∧ Below w.heap.size w w' := by
  have hd := reckon_do op a b ha hb
  rw [doS_none h] at hd
  have HD := Lib.hid hd
  have HA := Lib.hid (r3_None a)
  have HB := Lib.hid (r3_None b)
  have HL := Lib.hid law04_lives
  clear hd
  generalize a.none = p at *
  generalize b.none = q at *
  cases p <;> cases q
  case false.false => exact absurd h (by decide)
  all_goals
    clear h
    go_enter Try.func5, Try.ntmps5
    go_upto_region 1 with fail
    generalize hW : ((w.alloc (.cells #[.int .i64 op, .bool a.s, .int .i64 a.lo, .int .i64 a.hi, .bool b.s, .int .i64 b.lo, .int .i64 b.hi, .int .i64 x, .int .i64 y] 37)).alloc (.cells #[.bool more.s, .int .i64 more.lo, .int .i64 more.hi] 23)) = W
    have q0_0 : W.cell? ⟨w.heap.size, 0, none⟩ = some (.int .i64 op) := by rw [← hW]; simp [go_sem]
    have q0_1 : W.cell? ⟨w.heap.size, 1, none⟩ = some (.bool a.s) := by rw [← hW]; simp [go_sem]
    have q0_2 : W.cell? ⟨w.heap.size, 2, none⟩ = some (.int .i64 a.lo) := by rw [← hW]; simp [go_sem]
    have q0_3 : W.cell? ⟨w.heap.size, 3, none⟩ = some (.int .i64 a.hi) := by rw [← hW]; simp [go_sem]
    have q0_4 : W.cell? ⟨w.heap.size, 4, none⟩ = some (.bool b.s) := by rw [← hW]; simp [go_sem]
    have q0_5 : W.cell? ⟨w.heap.size, 5, none⟩ = some (.int .i64 b.lo) := by rw [← hW]; simp [go_sem]
    have q0_6 : W.cell? ⟨w.heap.size, 6, none⟩ = some (.int .i64 b.hi) := by rw [← hW]; simp [go_sem]
    have q0_7 : W.cell? ⟨w.heap.size, 7, none⟩ = some (.int .i64 x) := by rw [← hW]; simp [go_sem]
    have q0_8 : W.cell? ⟨w.heap.size, 8, none⟩ = some (.int .i64 y) := by rw [← hW]; simp [go_sem]
    have q1_0 : W.cell? ⟨w.heap.size + 1, 0, none⟩ = some (.bool more.s) := by rw [← hW]; simp [go_sem]
    have q1_1 : W.cell? ⟨w.heap.size + 1, 1, none⟩ = some (.int .i64 more.lo) := by rw [← hW]; simp [go_sem]
    have q1_2 : W.cell? ⟨w.heap.size + 1, 2, none⟩ = some (.int .i64 more.hi) := by rw [← hW]; simp [go_sem]
    have z0 : w.heap.size < W.heap.size := by rw [← hW]; first | (simp; done) | (simp; omega)
    have z1 : w.heap.size + 1 < W.heap.size := by rw [← hW]; first | (simp; done) | (simp; omega)
    have HW : Below w.heap.size w W := by rw [← hW]; exact (by repeat (first | (with_reducible assumption) | (with_reducible exact Below.refl _ _) | (with_reducible refine Below.alloc ?_ (by first | omega | (simp; omega) | (simp; done) | (dsimp only; omega)) _) | (with_reducible refine Below.setCell ?_ (by first | omega | (simp; omega) | (simp; done) | (dsimp only; omega)) _) | (with_reducible refine Below.drew ?_) | (with_reducible refine Below.trans ?_ (Below.mono (by assumption) (by first | omega | (simp; omega) | (simp; done) | (dsimp only; omega))))))
    clear hW
    go_upto_region 2 with (go_at_call 7; (with_reducible refine (HD.out _).mono ?_); rintro e w1 ⟨rfl, hb1⟩; obtain ⟨hc1, hf1⟩ := bcell hb1; have hz1 := hb1.size; (try simp at hz1); (try have hy1 := Nat.lt_of_succ_le hz1); (try have hv1 := Nat.lt_of_succ_lt hy1); (try have hw10 : w.heap.size < w1.heap.size := by omega); (try have hw11 : w.heap.size + 1 < w1.heap.size := by omega); (try have hw12 : w.heap.size + 1 + 1 < w1.heap.size := by omega); (try have hw13 : w.heap.size + 1 + 1 + 1 < w1.heap.size := by omega))
    generalize hV : (w1.alloc (.cells #[.bool false, .int .i64 0, .int .i64 0] 23)) = V
    have p0_0 : V.cell? ⟨w1.heap.size, 0, none⟩ = some (.bool false) := by rw [← hV]; simp [go_sem]
    have p0_1 : V.cell? ⟨w1.heap.size, 1, none⟩ = some (.int .i64 0) := by rw [← hV]; simp [go_sem]
    have p0_2 : V.cell? ⟨w1.heap.size, 2, none⟩ = some (.int .i64 0) := by rw [← hV]; simp [go_sem]
    have fp0 : ∀ o, V.frozen? ⟨w1.heap.size, o, none⟩ = false := by intro o; rw [← hV]; simp [go_sem]
    have zp0 : w1.heap.size < V.heap.size := by rw [← hV]; first | (simp; done) | (simp; omega)
    have HV : Below w1.heap.size w1 V := by rw [← hV]; exact (by repeat (first | (with_reducible assumption) | (with_reducible exact Below.refl _ _) | (with_reducible refine Below.alloc ?_ (by first | omega | (simp; omega) | (simp; done) | (dsimp only; omega)) _) | (with_reducible refine Below.setCell ?_ (by first | omega | (simp; omega) | (simp; done) | (dsimp only; omega)) _) | (with_reducible refine Below.drew ?_) | (with_reducible refine Below.trans ?_ (Below.mono (by assumption) (by first | omega | (simp; omega) | (simp; done) | (dsimp only; omega))))))
    clear hV
    have hWV := hb1.trans (HV.mono hb1.size)
    have HWV := HW.trans (hWV.mono HW.size)
    replace q0_0 := (hWV.cell (p := ⟨w.heap.size, 0, none⟩) z0).trans q0_0
    replace q0_1 := (hWV.cell (p := ⟨w.heap.size, 1, none⟩) z0).trans q0_1
    replace q0_2 := (hWV.cell (p := ⟨w.heap.size, 2, none⟩) z0).trans q0_2
    replace q0_3 := (hWV.cell (p := ⟨w.heap.size, 3, none⟩) z0).trans q0_3
    replace q0_4 := (hWV.cell (p := ⟨w.heap.size, 4, none⟩) z0).trans q0_4
    replace q0_5 := (hWV.cell (p := ⟨w.heap.size, 5, none⟩) z0).trans q0_5
    replace q0_6 := (hWV.cell (p := ⟨w.heap.size, 6, none⟩) z0).trans q0_6
    replace q0_7 := (hWV.cell (p := ⟨w.heap.size, 7, none⟩) z0).trans q0_7
    replace q0_8 := (hWV.cell (p := ⟨w.heap.size, 8, none⟩) z0).trans q0_8
    replace q1_0 := (hWV.cell (p := ⟨w.heap.size + 1, 0, none⟩) z1).trans q1_0
    replace q1_1 := (hWV.cell (p := ⟨w.heap.size + 1, 1, none⟩) z1).trans q1_1
    replace q1_2 := (hWV.cell (p := ⟨w.heap.size + 1, 2, none⟩) z1).trans q1_2
    replace z0 := Nat.lt_of_lt_of_le z0 hWV.size
    replace z1 := Nat.lt_of_lt_of_le z1 hWV.size
    clear hc1 hf1 hb1 hz1 hw10 hw11 HW HV hWV
    generalize w1.heap.size = B at *
    go_wp2_with (first | (go_at_call 16; (with_reducible refine (HA.out _).mono ?_); rintro e w2 ⟨rfl, hb2⟩; obtain ⟨hc2, hf2⟩ := bcell hb2; have hz2 := hb2.size; (try simp at hz2); (try have hy2 := Nat.lt_of_succ_le hz2); (try have hv2 := Nat.lt_of_succ_lt hy2); (try have hw20 : w.heap.size < w2.heap.size := by omega); (try have hw21 : w.heap.size + 1 < w2.heap.size := by omega); (try have hw22 : w.heap.size + 1 + 1 < w2.heap.size := by omega); (try have hw23 : w.heap.size + 1 + 1 + 1 < w2.heap.size := by omega); (try have hx2_0 : B < w2.heap.size := by omega)) | (go_at_call 16; (with_reducible refine (HB.out _).mono ?_); rintro e w3 ⟨rfl, hb3⟩; obtain ⟨hc3, hf3⟩ := bcell hb3; have hz3 := hb3.size; (try simp at hz3); (try have hy3 := Nat.lt_of_succ_le hz3); (try have hv3 := Nat.lt_of_succ_lt hy3); (try have hw30 : w.heap.size < w3.heap.size := by omega); (try have hw31 : w.heap.size + 1 < w3.heap.size := by omega); (try have hw32 : w.heap.size + 1 + 1 < w3.heap.size := by omega); (try have hw33 : w.heap.size + 1 + 1 + 1 < w3.heap.size := by omega); (try have hx3_0 : B < w3.heap.size := by omega)) | (go_at_call 11; (with_reducible refine (HL.out _).mono ?_); rintro e w4 ⟨rfl, hb4⟩; obtain ⟨hc4, hf4⟩ := bcell hb4; have hz4 := hb4.size; (try simp at hz4); (try have hy4 := Nat.lt_of_succ_le hz4); (try have hv4 := Nat.lt_of_succ_lt hy4); (try have hw40 : w.heap.size < w4.heap.size := by omega); (try have hw41 : w.heap.size + 1 < w4.heap.size := by omega); (try have hw42 : w.heap.size + 1 + 1 < w4.heap.size := by omega); (try have hw43 : w.heap.size + 1 + 1 + 1 < w4.heap.size := by omega); (try have hx4_0 : B < w4.heap.size := by omega)))
    go_ret
    exact ⟨rfl, (by repeat (first | (with_reducible assumption) | (with_reducible exact Below.refl _ _) | (with_reducible refine Below.alloc ?_ (by first | omega | (simp; omega) | (simp; done) | (dsimp only; omega)) _) | (with_reducible refine Below.setCell ?_ (by first | omega | (simp; omega) | (simp; done) | (dsimp only; omega)) _) | (with_reducible refine Below.drew ?_) | (with_reducible refine Below.trans ?_ (Below.mono (by assumption) (by first | omega | (simp; omega) | (simp; done) | (dsimp only; omega))))))⟩

set_option maxRecDepth 100000 in
set_option maxHeartbeats 8000000 in
theorem law_sound_of (op : Int) (a b : Sp) (X Y x y n e m f : Int) (more s j s2 s3 s4 o1 o2 : Sp)
    (HD : Hid (∀ w, Calls Try.prog 7 #[.int .i64 op, .agg #[.bool a.s, .int .i64 a.lo, .int .i64 a.hi], .agg #[.bool b.s, .int .i64 b.lo, .int .i64 b.hi]] w fun e w' => e = .returned (.agg #[.bool s.s, .int .i64 s.lo, .int .i64 s.hi]) ∧ Below w.heap.size w w'))
    (HA : Hid (∀ w, Calls Try.prog 16 #[.agg #[.bool a.s, .int .i64 a.lo, .int .i64 a.hi]] w fun e w' => e = .returned (.bool false) ∧ Below w.heap.size w w'))
    (HB : Hid (∀ w, Calls Try.prog 16 #[.agg #[.bool b.s, .int .i64 b.lo, .int .i64 b.hi]] w fun e w' => e = .returned (.bool false) ∧ Below w.heap.size w w'))
    (HX : Hid (∀ w, Calls Try.prog 17 #[.agg #[.bool a.s, .int .i64 a.lo, .int .i64 a.hi], .int .i64 X] w fun e w' => e = .returned (.int .i64 x) ∧ Below w.heap.size w w'))
    (HY : Hid (∀ w, Calls Try.prog 17 #[.agg #[.bool b.s, .int .i64 b.lo, .int .i64 b.hi], .int .i64 Y] w fun e w' => e = .returned (.int .i64 y) ∧ Below w.heap.size w w'))
    (H4 : Hid (∀ w, Calls Try.prog 18 #[.int .i64 op, .int .i64 x, .int .i64 y] w fun q w' => q = .returned (.tuple #[.int .i64 n, .int .i64 e]) ∧ Below w.heap.size w w'))
    (H5 : Hid (∀ w, Calls Try.prog 19 #[.int .i64 op, .int .i64 x] w fun q w' => q = .returned (.tuple #[.int .i64 m, .int .i64 f]) ∧ Below w.heap.size w w'))
    (H6 : e = 0 → Hid (∀ w, Calls Try.prog 20 #[.agg #[.bool s.s, .int .i64 s.lo, .int .i64 s.hi], .int .i64 n] w fun e w' => e = .returned (.bool true) ∧ Below w.heap.size w w'))
    (H7 : Hid (∀ w, Calls Try.prog 12 #[.int .i64 op, .agg #[.bool a.s, .int .i64 a.lo, .int .i64 a.hi]] w fun e w' => e = .returned (.agg #[.bool o1.s, .int .i64 o1.lo, .int .i64 o1.hi]) ∧ Below w.heap.size w w'))
    (H8 : f = 0 → Hid (∀ w, Calls Try.prog 20 #[.agg #[.bool o1.s, .int .i64 o1.lo, .int .i64 o1.hi], .int .i64 m] w fun e w' => e = .returned (.bool true) ∧ Below w.heap.size w w'))
    (HJ : Hid (∀ w, Calls Try.prog 21 #[.agg #[.bool a.s, .int .i64 a.lo, .int .i64 a.hi], .agg #[.bool more.s, .int .i64 more.lo, .int .i64 more.hi]] w fun e w' => e = .returned (.agg #[.bool j.s, .int .i64 j.lo, .int .i64 j.hi]) ∧ Below w.heap.size w w'))
    (D2 : Hid (∀ w, Calls Try.prog 7 #[.int .i64 op, .agg #[.bool j.s, .int .i64 j.lo, .int .i64 j.hi], .agg #[.bool b.s, .int .i64 b.lo, .int .i64 b.hi]] w fun e w' => e = .returned (.agg #[.bool s2.s, .int .i64 s2.lo, .int .i64 s2.hi]) ∧ Below w.heap.size w w'))
    (L2 : Hid (∀ w, Calls Try.prog 22 #[.agg #[.bool s.s, .int .i64 s.lo, .int .i64 s.hi], .agg #[.bool s2.s, .int .i64 s2.lo, .int .i64 s2.hi]] w fun e w' => e = .returned (.bool true) ∧ Below w.heap.size w w'))
    (D3 : Hid (∀ w, Calls Try.prog 7 #[.int .i64 op, .agg #[.bool b.s, .int .i64 b.lo, .int .i64 b.hi], .agg #[.bool a.s, .int .i64 a.lo, .int .i64 a.hi]] w fun e w' => e = .returned (.agg #[.bool s3.s, .int .i64 s3.lo, .int .i64 s3.hi]) ∧ Below w.heap.size w w'))
    (D4 : Hid (∀ w, Calls Try.prog 7 #[.int .i64 op, .agg #[.bool b.s, .int .i64 b.lo, .int .i64 b.hi], .agg #[.bool j.s, .int .i64 j.lo, .int .i64 j.hi]] w fun e w' => e = .returned (.agg #[.bool s4.s, .int .i64 s4.lo, .int .i64 s4.hi]) ∧ Below w.heap.size w w'))
    (L3 : Hid (∀ w, Calls Try.prog 22 #[.agg #[.bool s3.s, .int .i64 s3.lo, .int .i64 s3.hi], .agg #[.bool s4.s, .int .i64 s4.lo, .int .i64 s4.hi]] w fun e w' => e = .returned (.bool true) ∧ Below w.heap.size w w'))
    (O2 : Hid (∀ w, Calls Try.prog 12 #[.int .i64 op, .agg #[.bool j.s, .int .i64 j.lo, .int .i64 j.hi]] w fun e w' => e = .returned (.agg #[.bool o2.s, .int .i64 o2.lo, .int .i64 o2.hi]) ∧ Below w.heap.size w w'))
    (L4 : Hid (∀ w, Calls Try.prog 22 #[.agg #[.bool o1.s, .int .i64 o1.lo, .int .i64 o1.hi], .agg #[.bool o2.s, .int .i64 o2.lo, .int .i64 o2.hi]] w fun e w' => e = .returned (.bool true) ∧ Below w.heap.size w w'))
    (w : World) :
    Calls Try.prog 5 #[.agg #[.int .i64 op, .bool a.s, .int .i64 a.lo, .int .i64 a.hi, .bool b.s, .int .i64 b.lo, .int .i64 b.hi, .int .i64 X, .int .i64 Y], .agg #[.bool more.s, .int .i64 more.lo, .int .i64 more.hi]] w fun e w' => e = .returned (.bool true) ∧ Below w.heap.size w w' := by
  have HL := Lib.hid law04_lives
  go_enter Try.func5, Try.ntmps5
  go_upto_region 1 with fail
  generalize hW : ((w.alloc (.cells #[.int .i64 op, .bool a.s, .int .i64 a.lo, .int .i64 a.hi, .bool b.s, .int .i64 b.lo, .int .i64 b.hi, .int .i64 X, .int .i64 Y] 37)).alloc (.cells #[.bool more.s, .int .i64 more.lo, .int .i64 more.hi] 23)) = W
  have q0_0 : W.cell? ⟨w.heap.size, 0, none⟩ = some (.int .i64 op) := by rw [← hW]; simp [go_sem]
  have q0_1 : W.cell? ⟨w.heap.size, 1, none⟩ = some (.bool a.s) := by rw [← hW]; simp [go_sem]
  have q0_2 : W.cell? ⟨w.heap.size, 2, none⟩ = some (.int .i64 a.lo) := by rw [← hW]; simp [go_sem]
  have q0_3 : W.cell? ⟨w.heap.size, 3, none⟩ = some (.int .i64 a.hi) := by rw [← hW]; simp [go_sem]
  have q0_4 : W.cell? ⟨w.heap.size, 4, none⟩ = some (.bool b.s) := by rw [← hW]; simp [go_sem]
  have q0_5 : W.cell? ⟨w.heap.size, 5, none⟩ = some (.int .i64 b.lo) := by rw [← hW]; simp [go_sem]
  have q0_6 : W.cell? ⟨w.heap.size, 6, none⟩ = some (.int .i64 b.hi) := by rw [← hW]; simp [go_sem]
  have q0_7 : W.cell? ⟨w.heap.size, 7, none⟩ = some (.int .i64 X) := by rw [← hW]; simp [go_sem]
  have q0_8 : W.cell? ⟨w.heap.size, 8, none⟩ = some (.int .i64 Y) := by rw [← hW]; simp [go_sem]
  have q1_0 : W.cell? ⟨w.heap.size + 1, 0, none⟩ = some (.bool more.s) := by rw [← hW]; simp [go_sem]
  have q1_1 : W.cell? ⟨w.heap.size + 1, 1, none⟩ = some (.int .i64 more.lo) := by rw [← hW]; simp [go_sem]
  have q1_2 : W.cell? ⟨w.heap.size + 1, 2, none⟩ = some (.int .i64 more.hi) := by rw [← hW]; simp [go_sem]
  have z0 : w.heap.size < W.heap.size := by rw [← hW]; first | (simp; done) | (simp; omega)
  have z1 : w.heap.size + 1 < W.heap.size := by rw [← hW]; first | (simp; done) | (simp; omega)
  have HW : Below w.heap.size w W := by rw [← hW]; exact (by repeat (first | (with_reducible assumption) | (with_reducible exact Below.refl _ _) | (with_reducible refine Below.alloc ?_ (by first | omega | (simp; omega) | (simp; done) | (dsimp only; omega)) _) | (with_reducible refine Below.setCell ?_ (by first | omega | (simp; omega) | (simp; done) | (dsimp only; omega)) _) | (with_reducible refine Below.drew ?_) | (with_reducible refine Below.trans ?_ (Below.mono (by assumption) (by first | omega | (simp; omega) | (simp; done) | (dsimp only; omega))))))
  clear hW
  go_upto_region 2 with (go_at_call 7; (with_reducible refine (HD.out _).mono ?_); rintro e w1 ⟨rfl, hb1⟩; obtain ⟨hc1, hf1⟩ := bcell hb1; have hz1 := hb1.size; (try simp at hz1); (try have hy1 := Nat.lt_of_succ_le hz1); (try have hv1 := Nat.lt_of_succ_lt hy1); (try have hw10 : w.heap.size < w1.heap.size := by omega); (try have hw11 : w.heap.size + 1 < w1.heap.size := by omega); (try have hw12 : w.heap.size + 1 + 1 < w1.heap.size := by omega); (try have hw13 : w.heap.size + 1 + 1 + 1 < w1.heap.size := by omega))
  generalize hV : (w1.alloc (.cells #[.bool s.s, .int .i64 s.lo, .int .i64 s.hi] 23)) = V
  have p0_0 : V.cell? ⟨w1.heap.size, 0, none⟩ = some (.bool s.s) := by rw [← hV]; simp [go_sem]
  have p0_1 : V.cell? ⟨w1.heap.size, 1, none⟩ = some (.int .i64 s.lo) := by rw [← hV]; simp [go_sem]
  have p0_2 : V.cell? ⟨w1.heap.size, 2, none⟩ = some (.int .i64 s.hi) := by rw [← hV]; simp [go_sem]
  have fp0 : ∀ o, V.frozen? ⟨w1.heap.size, o, none⟩ = false := by intro o; rw [← hV]; simp [go_sem]
  have zp0 : w1.heap.size < V.heap.size := by rw [← hV]; first | (simp; done) | (simp; omega)
  have HV : Below w1.heap.size w1 V := by rw [← hV]; exact (by repeat (first | (with_reducible assumption) | (with_reducible exact Below.refl _ _) | (with_reducible refine Below.alloc ?_ (by first | omega | (simp; omega) | (simp; done) | (dsimp only; omega)) _) | (with_reducible refine Below.setCell ?_ (by first | omega | (simp; omega) | (simp; done) | (dsimp only; omega)) _) | (with_reducible refine Below.drew ?_) | (with_reducible refine Below.trans ?_ (Below.mono (by assumption) (by first | omega | (simp; omega) | (simp; done) | (dsimp only; omega))))))
  clear hV
  have hWV := hb1.trans (HV.mono hb1.size)
  have HWV := HW.trans (hWV.mono HW.size)
  replace q0_0 := (hWV.cell (p := ⟨w.heap.size, 0, none⟩) z0).trans q0_0
  replace q0_1 := (hWV.cell (p := ⟨w.heap.size, 1, none⟩) z0).trans q0_1
  replace q0_2 := (hWV.cell (p := ⟨w.heap.size, 2, none⟩) z0).trans q0_2
  replace q0_3 := (hWV.cell (p := ⟨w.heap.size, 3, none⟩) z0).trans q0_3
  replace q0_4 := (hWV.cell (p := ⟨w.heap.size, 4, none⟩) z0).trans q0_4
  replace q0_5 := (hWV.cell (p := ⟨w.heap.size, 5, none⟩) z0).trans q0_5
  replace q0_6 := (hWV.cell (p := ⟨w.heap.size, 6, none⟩) z0).trans q0_6
  replace q0_7 := (hWV.cell (p := ⟨w.heap.size, 7, none⟩) z0).trans q0_7
  replace q0_8 := (hWV.cell (p := ⟨w.heap.size, 8, none⟩) z0).trans q0_8
  replace q1_0 := (hWV.cell (p := ⟨w.heap.size + 1, 0, none⟩) z1).trans q1_0
  replace q1_1 := (hWV.cell (p := ⟨w.heap.size + 1, 1, none⟩) z1).trans q1_1
  replace q1_2 := (hWV.cell (p := ⟨w.heap.size + 1, 2, none⟩) z1).trans q1_2
  replace z0 := Nat.lt_of_lt_of_le z0 hWV.size
  replace z1 := Nat.lt_of_lt_of_le z1 hWV.size
  clear hc1 hf1 hb1 hz1 hw10 hw11 HW HV hWV fp0
  generalize w1.heap.size = B at *
  go_upto_region 4 with (first | (go_at_call 16; (with_reducible refine (HA.out _).mono ?_); rintro e w2 ⟨rfl, hb2⟩; obtain ⟨hc2, hf2⟩ := bcell hb2; have hz2 := hb2.size; (try simp at hz2); (try have hy2 := Nat.lt_of_succ_le hz2); (try have hv2 := Nat.lt_of_succ_lt hy2); (try have hw20 : w.heap.size < w2.heap.size := by omega); (try have hw21 : w.heap.size + 1 < w2.heap.size := by omega); (try have hw22 : w.heap.size + 1 + 1 < w2.heap.size := by omega); (try have hw23 : w.heap.size + 1 + 1 + 1 < w2.heap.size := by omega); (try have hx2_0 : B < w2.heap.size := by omega)) | (go_at_call 16; (with_reducible refine (HB.out _).mono ?_); rintro e w3 ⟨rfl, hb3⟩; obtain ⟨hc3, hf3⟩ := bcell hb3; have hz3 := hb3.size; (try simp at hz3); (try have hy3 := Nat.lt_of_succ_le hz3); (try have hv3 := Nat.lt_of_succ_lt hy3); (try have hw30 : w.heap.size < w3.heap.size := by omega); (try have hw31 : w.heap.size + 1 < w3.heap.size := by omega); (try have hw32 : w.heap.size + 1 + 1 < w3.heap.size := by omega); (try have hw33 : w.heap.size + 1 + 1 + 1 < w3.heap.size := by omega); (try have hx3_0 : B < w3.heap.size := by omega)))
  have HY2 := hb2.trans (hb3.mono hz2)
  have HW2 := HWV.trans (HY2.mono HWV.size)
  replace q0_0 := (HY2.cell (p := ⟨w.heap.size, 0, none⟩) z0).trans q0_0
  replace q0_1 := (HY2.cell (p := ⟨w.heap.size, 1, none⟩) z0).trans q0_1
  replace q0_2 := (HY2.cell (p := ⟨w.heap.size, 2, none⟩) z0).trans q0_2
  replace q0_3 := (HY2.cell (p := ⟨w.heap.size, 3, none⟩) z0).trans q0_3
  replace q0_4 := (HY2.cell (p := ⟨w.heap.size, 4, none⟩) z0).trans q0_4
  replace q0_5 := (HY2.cell (p := ⟨w.heap.size, 5, none⟩) z0).trans q0_5
  replace q0_6 := (HY2.cell (p := ⟨w.heap.size, 6, none⟩) z0).trans q0_6
  replace q0_7 := (HY2.cell (p := ⟨w.heap.size, 7, none⟩) z0).trans q0_7
  replace q0_8 := (HY2.cell (p := ⟨w.heap.size, 8, none⟩) z0).trans q0_8
  replace q1_0 := (HY2.cell (p := ⟨w.heap.size + 1, 0, none⟩) z1).trans q1_0
  replace q1_1 := (HY2.cell (p := ⟨w.heap.size + 1, 1, none⟩) z1).trans q1_1
  replace q1_2 := (HY2.cell (p := ⟨w.heap.size + 1, 2, none⟩) z1).trans q1_2
  replace z0 := Nat.lt_of_lt_of_le z0 HY2.size
  replace z1 := Nat.lt_of_lt_of_le z1 HY2.size
  replace p0_0 := (HY2.cell (p := ⟨B, 0, none⟩) zp0).trans p0_0
  replace p0_1 := (HY2.cell (p := ⟨B, 1, none⟩) zp0).trans p0_1
  replace p0_2 := (HY2.cell (p := ⟨B, 2, none⟩) zp0).trans p0_2
  replace zp0 := Nat.lt_of_lt_of_le zp0 HY2.size
  clear hc2 hf2 hb2 hz2 hc3 hf3 hb3 hz3 HY2 HWV HA HB
  generalize w3 = U at *
  refine region_seq (S := fun w' => Below U.heap.size U w') rfl (by kernel_rfl) (by kernel_rfl) (by repeat (first | (with_reducible assumption) | (with_reducible exact Below.refl _ _) | (with_reducible refine Below.alloc ?_ (by first | omega | (simp; omega) | (simp; done) | (dsimp only; omega)) _) | (with_reducible refine Below.setCell ?_ (by first | omega | (simp; omega) | (simp; done) | (dsimp only; omega)) _) | (with_reducible refine Below.drew ?_) | (with_reducible refine Below.trans ?_ (Below.mono (by assumption) (by first | omega | (simp; omega) | (simp; done) | (dsimp only; omega)))))) (fun fin hfin => ?_)
  iterate 12
    first
      | (refine SeqL.yes (v := ?_) (A' := ?_) rfl (by rfl) ?_ ?_ ?_
         rotate_left 2
         · intro w' K hS hK
           obtain ⟨hc, hf⟩ := bcell hS
           have hz := hS.size
           go_simp
           first
             | exact hK.out _ hS
             | (go_at_call 17; (with_reducible refine (HX.out _).mono ?_); rintro e w1 ⟨rfl, hb1⟩; exact hK.out _ (hS.trans (hb1.mono hz)))
             | (go_at_call 17; (with_reducible refine (HY.out _).mono ?_); rintro e w1 ⟨rfl, hb1⟩; exact hK.out _ (hS.trans (hb1.mono hz)))
             | trace_state
         · simp only [Act.put, List.setIfInBounds_toArray, List.set_cons_zero, List.set_cons_succ]; exact rfl)
      | (refine SeqL.no (A' := ?_) rfl (by rfl) ?_ ?_
         rotate_left
         · simp only [Act.put, List.setIfInBounds_toArray, List.set_cons_zero, List.set_cons_succ]; exact rfl)
  refine SeqL.nil (hfin.out _ ?_)
  clear hfin fin
  intro w1 hS1
  have HW3 := HW2.trans (hS1.mono HW2.size)
  replace q0_0 := (hS1.cell (p := ⟨w.heap.size, 0, none⟩) z0).trans q0_0
  replace q0_1 := (hS1.cell (p := ⟨w.heap.size, 1, none⟩) z0).trans q0_1
  replace q0_2 := (hS1.cell (p := ⟨w.heap.size, 2, none⟩) z0).trans q0_2
  replace q0_3 := (hS1.cell (p := ⟨w.heap.size, 3, none⟩) z0).trans q0_3
  replace q0_4 := (hS1.cell (p := ⟨w.heap.size, 4, none⟩) z0).trans q0_4
  replace q0_5 := (hS1.cell (p := ⟨w.heap.size, 5, none⟩) z0).trans q0_5
  replace q0_6 := (hS1.cell (p := ⟨w.heap.size, 6, none⟩) z0).trans q0_6
  replace q0_7 := (hS1.cell (p := ⟨w.heap.size, 7, none⟩) z0).trans q0_7
  replace q0_8 := (hS1.cell (p := ⟨w.heap.size, 8, none⟩) z0).trans q0_8
  replace q1_0 := (hS1.cell (p := ⟨w.heap.size + 1, 0, none⟩) z1).trans q1_0
  replace q1_1 := (hS1.cell (p := ⟨w.heap.size + 1, 1, none⟩) z1).trans q1_1
  replace q1_2 := (hS1.cell (p := ⟨w.heap.size + 1, 2, none⟩) z1).trans q1_2
  replace z0 := Nat.lt_of_lt_of_le z0 hS1.size
  replace z1 := Nat.lt_of_lt_of_le z1 hS1.size
  replace p0_0 := (hS1.cell (p := ⟨B, 0, none⟩) zp0).trans p0_0
  replace p0_1 := (hS1.cell (p := ⟨B, 1, none⟩) zp0).trans p0_1
  replace p0_2 := (hS1.cell (p := ⟨B, 2, none⟩) zp0).trans p0_2
  replace zp0 := Nat.lt_of_lt_of_le zp0 hS1.size
  clear hS1 HW2 HX HY
  generalize w1 = T at *
  go_upto_region 7 with (first | (go_at_call 18; (with_reducible refine (H4.out _).mono ?_); rintro e w4 ⟨rfl, hb4⟩; obtain ⟨hc4, hf4⟩ := bcell hb4; have hz4 := hb4.size; (try simp at hz4); (try have hy4 := Nat.lt_of_succ_le hz4); (try have hv4 := Nat.lt_of_succ_lt hy4); (try have hw40 : w.heap.size < w4.heap.size := by omega); (try have hw41 : w.heap.size + 1 < w4.heap.size := by omega); (try have hw42 : w.heap.size + 1 + 1 < w4.heap.size := by omega); (try have hw43 : w.heap.size + 1 + 1 + 1 < w4.heap.size := by omega); (try have hx4_0 : B < w4.heap.size := by omega)) | (go_at_call 19; (with_reducible refine (H5.out _).mono ?_); rintro e w5 ⟨rfl, hb5⟩; obtain ⟨hc5, hf5⟩ := bcell hb5; have hz5 := hb5.size; (try simp at hz5); (try have hy5 := Nat.lt_of_succ_le hz5); (try have hv5 := Nat.lt_of_succ_lt hy5); (try have hw50 : w.heap.size < w5.heap.size := by omega); (try have hw51 : w.heap.size + 1 < w5.heap.size := by omega); (try have hw52 : w.heap.size + 1 + 1 < w5.heap.size := by omega); (try have hw53 : w.heap.size + 1 + 1 + 1 < w5.heap.size := by omega); (try have hx5_0 : B < w5.heap.size := by omega)))
  have HY4 := hb4.trans (hb5.mono hz4)
  have HW4 := HW3.trans (HY4.mono HW3.size)
  replace q0_0 := (HY4.cell (p := ⟨w.heap.size, 0, none⟩) z0).trans q0_0
  replace q0_1 := (HY4.cell (p := ⟨w.heap.size, 1, none⟩) z0).trans q0_1
  replace q0_2 := (HY4.cell (p := ⟨w.heap.size, 2, none⟩) z0).trans q0_2
  replace q0_3 := (HY4.cell (p := ⟨w.heap.size, 3, none⟩) z0).trans q0_3
  replace q0_4 := (HY4.cell (p := ⟨w.heap.size, 4, none⟩) z0).trans q0_4
  replace q0_5 := (HY4.cell (p := ⟨w.heap.size, 5, none⟩) z0).trans q0_5
  replace q0_6 := (HY4.cell (p := ⟨w.heap.size, 6, none⟩) z0).trans q0_6
  replace q0_7 := (HY4.cell (p := ⟨w.heap.size, 7, none⟩) z0).trans q0_7
  replace q0_8 := (HY4.cell (p := ⟨w.heap.size, 8, none⟩) z0).trans q0_8
  replace q1_0 := (HY4.cell (p := ⟨w.heap.size + 1, 0, none⟩) z1).trans q1_0
  replace q1_1 := (HY4.cell (p := ⟨w.heap.size + 1, 1, none⟩) z1).trans q1_1
  replace q1_2 := (HY4.cell (p := ⟨w.heap.size + 1, 2, none⟩) z1).trans q1_2
  replace z0 := Nat.lt_of_lt_of_le z0 HY4.size
  replace z1 := Nat.lt_of_lt_of_le z1 HY4.size
  replace p0_0 := (HY4.cell (p := ⟨B, 0, none⟩) zp0).trans p0_0
  replace p0_1 := (HY4.cell (p := ⟨B, 1, none⟩) zp0).trans p0_1
  replace p0_2 := (HY4.cell (p := ⟨B, 2, none⟩) zp0).trans p0_2
  replace zp0 := Nat.lt_of_lt_of_le zp0 HY4.size
  clear hc4 hf4 hb4 hz4 hc5 hf5 hb5 hz5 HY4 HW3 H4 H5
  generalize w5 = R at *
  go_cut [80] (fun s80 wx => s80 = .bool false ∧ Below R.heap.size R wx)
  case first =>
    clear D2 D3 D4 L2 L3 L4 O2 HJ
    by_cases he : e = 0
    · have K6 := H6 he
      subst he
      by_cases hf : f = 0
      · have K8 := H8 hf
        subst hf
        clear H6 H8
        go_wp2_with (first | (go_at_call 20; (with_reducible refine (K6.out _).mono ?_); rintro e w6 ⟨rfl, hb6⟩; obtain ⟨hc6, hf6⟩ := bcell hb6; have hz6 := hb6.size; (try simp at hz6); (try have hy6 := Nat.lt_of_succ_le hz6); (try have hv6 := Nat.lt_of_succ_lt hy6); (try have hw60 : w.heap.size < w6.heap.size := by omega); (try have hw61 : w.heap.size + 1 < w6.heap.size := by omega); (try have hw62 : w.heap.size + 1 + 1 < w6.heap.size := by omega); (try have hw63 : w.heap.size + 1 + 1 + 1 < w6.heap.size := by omega); (try have hx6_0 : B < w6.heap.size := by omega)) | (go_at_call 12; (with_reducible refine (H7.out _).mono ?_); rintro e w7 ⟨rfl, hb7⟩; obtain ⟨hc7, hf7⟩ := bcell hb7; have hz7 := hb7.size; (try simp at hz7); (try have hy7 := Nat.lt_of_succ_le hz7); (try have hv7 := Nat.lt_of_succ_lt hy7); (try have hw70 : w.heap.size < w7.heap.size := by omega); (try have hw71 : w.heap.size + 1 < w7.heap.size := by omega); (try have hw72 : w.heap.size + 1 + 1 < w7.heap.size := by omega); (try have hw73 : w.heap.size + 1 + 1 + 1 < w7.heap.size := by omega); (try have hx7_0 : B < w7.heap.size := by omega)) | (go_at_call 20; (with_reducible refine (K8.out _).mono ?_); rintro e w8 ⟨rfl, hb8⟩; obtain ⟨hc8, hf8⟩ := bcell hb8; have hz8 := hb8.size; (try simp at hz8); (try have hy8 := Nat.lt_of_succ_le hz8); (try have hv8 := Nat.lt_of_succ_lt hy8); (try have hw80 : w.heap.size < w8.heap.size := by omega); (try have hw81 : w.heap.size + 1 < w8.heap.size := by omega); (try have hw82 : w.heap.size + 1 + 1 < w8.heap.size := by omega); (try have hw83 : w.heap.size + 1 + 1 + 1 < w8.heap.size := by omega); (try have hx8_0 : B < w8.heap.size := by omega)))
        go_meet
        exact ⟨rfl, hb6.trans ((hb7.trans (hb8.mono hz7)).mono hz6)⟩
      · have kf : (f == 0) = false := by simpa using hf
        clear H6 H8
        go_wp2_with (go_at_call 20; (with_reducible refine (K6.out _).mono ?_); rintro e w6 ⟨rfl, hb6⟩; obtain ⟨hc6, hf6⟩ := bcell hb6; have hz6 := hb6.size; (try simp at hz6); (try have hy6 := Nat.lt_of_succ_le hz6); (try have hv6 := Nat.lt_of_succ_lt hy6); (try have hw60 : w.heap.size < w6.heap.size := by omega); (try have hw61 : w.heap.size + 1 < w6.heap.size := by omega); (try have hw62 : w.heap.size + 1 + 1 < w6.heap.size := by omega); (try have hw63 : w.heap.size + 1 + 1 + 1 < w6.heap.size := by omega); (try have hx6_0 : B < w6.heap.size := by omega))
        go_meet
        exact ⟨rfl, hb6⟩
    · have ke : (e == 0) = false := by simpa using he
      by_cases hf : f = 0
      · have K8 := H8 hf
        subst hf
        clear H6 H8
        go_wp2_with (first | (go_at_call 12; (with_reducible refine (H7.out _).mono ?_); rintro e w7 ⟨rfl, hb7⟩; obtain ⟨hc7, hf7⟩ := bcell hb7; have hz7 := hb7.size; (try simp at hz7); (try have hy7 := Nat.lt_of_succ_le hz7); (try have hv7 := Nat.lt_of_succ_lt hy7); (try have hw70 : w.heap.size < w7.heap.size := by omega); (try have hw71 : w.heap.size + 1 < w7.heap.size := by omega); (try have hw72 : w.heap.size + 1 + 1 < w7.heap.size := by omega); (try have hw73 : w.heap.size + 1 + 1 + 1 < w7.heap.size := by omega); (try have hx7_0 : B < w7.heap.size := by omega)) | (go_at_call 20; (with_reducible refine (K8.out _).mono ?_); rintro e w8 ⟨rfl, hb8⟩; obtain ⟨hc8, hf8⟩ := bcell hb8; have hz8 := hb8.size; (try simp at hz8); (try have hy8 := Nat.lt_of_succ_le hz8); (try have hv8 := Nat.lt_of_succ_lt hy8); (try have hw80 : w.heap.size < w8.heap.size := by omega); (try have hw81 : w.heap.size + 1 < w8.heap.size := by omega); (try have hw82 : w.heap.size + 1 + 1 < w8.heap.size := by omega); (try have hw83 : w.heap.size + 1 + 1 + 1 < w8.heap.size := by omega); (try have hx8_0 : B < w8.heap.size := by omega)))
        go_meet
        exact ⟨rfl, hb7.trans (hb8.mono hz7)⟩
      · have kf : (f == 0) = false := by simpa using hf
        clear H6 H8
        go_wp2
        go_meet
        exact ⟨rfl, Below.refl _ _⟩
  case rest =>
    obtain ⟨rfl, hR⟩ := hcut
    have HW5 := HW4.trans (hR.mono HW4.size)
    replace q0_0 := (hR.cell (p := ⟨w.heap.size, 0, none⟩) z0).trans q0_0
    replace q0_1 := (hR.cell (p := ⟨w.heap.size, 1, none⟩) z0).trans q0_1
    replace q0_2 := (hR.cell (p := ⟨w.heap.size, 2, none⟩) z0).trans q0_2
    replace q0_3 := (hR.cell (p := ⟨w.heap.size, 3, none⟩) z0).trans q0_3
    replace q0_4 := (hR.cell (p := ⟨w.heap.size, 4, none⟩) z0).trans q0_4
    replace q0_5 := (hR.cell (p := ⟨w.heap.size, 5, none⟩) z0).trans q0_5
    replace q0_6 := (hR.cell (p := ⟨w.heap.size, 6, none⟩) z0).trans q0_6
    replace q0_7 := (hR.cell (p := ⟨w.heap.size, 7, none⟩) z0).trans q0_7
    replace q0_8 := (hR.cell (p := ⟨w.heap.size, 8, none⟩) z0).trans q0_8
    replace q1_0 := (hR.cell (p := ⟨w.heap.size + 1, 0, none⟩) z1).trans q1_0
    replace q1_1 := (hR.cell (p := ⟨w.heap.size + 1, 1, none⟩) z1).trans q1_1
    replace q1_2 := (hR.cell (p := ⟨w.heap.size + 1, 2, none⟩) z1).trans q1_2
    replace z0 := Nat.lt_of_lt_of_le z0 hR.size
    replace z1 := Nat.lt_of_lt_of_le z1 hR.size
    replace p0_0 := (hR.cell (p := ⟨B, 0, none⟩) zp0).trans p0_0
    replace p0_1 := (hR.cell (p := ⟨B, 1, none⟩) zp0).trans p0_1
    replace p0_2 := (hR.cell (p := ⟨B, 2, none⟩) zp0).trans p0_2
    replace zp0 := Nat.lt_of_lt_of_le zp0 hR.size
    clear hR HW4 H6 H8
    go_upto_region 10 with (go_at_call 21; (with_reducible refine (HJ.out _).mono ?_); rintro e w6 ⟨rfl, hb6⟩; obtain ⟨hc6, hf6⟩ := bcell hb6; have hz6 := hb6.size; (try simp at hz6); (try have hy6 := Nat.lt_of_succ_le hz6); (try have hv6 := Nat.lt_of_succ_lt hy6); (try have hw60 : w.heap.size < w6.heap.size := by omega); (try have hw61 : w.heap.size + 1 < w6.heap.size := by omega); (try have hw62 : w.heap.size + 1 + 1 < w6.heap.size := by omega); (try have hw63 : w.heap.size + 1 + 1 + 1 < w6.heap.size := by omega); (try have hx6_0 : B < w6.heap.size := by omega))
    generalize hV2 : (w6.alloc (.cells #[.bool j.s, .int .i64 j.lo, .int .i64 j.hi] 23)) = V2
    have r0_0 : V2.cell? ⟨w6.heap.size, 0, none⟩ = some (.bool j.s) := by rw [← hV2]; simp [go_sem]
    have r0_1 : V2.cell? ⟨w6.heap.size, 1, none⟩ = some (.int .i64 j.lo) := by rw [← hV2]; simp [go_sem]
    have r0_2 : V2.cell? ⟨w6.heap.size, 2, none⟩ = some (.int .i64 j.hi) := by rw [← hV2]; simp [go_sem]
    have fr0 : ∀ o, V2.frozen? ⟨w6.heap.size, o, none⟩ = false := by intro o; rw [← hV2]; simp [go_sem]
    have zr0 : w6.heap.size < V2.heap.size := by rw [← hV2]; first | (simp; done) | (simp; omega)
    have HV2 : Below w6.heap.size w6 V2 := by rw [← hV2]; exact (by repeat (first | (with_reducible assumption) | (with_reducible exact Below.refl _ _) | (with_reducible refine Below.alloc ?_ (by first | omega | (simp; omega) | (simp; done) | (dsimp only; omega)) _) | (with_reducible refine Below.setCell ?_ (by first | omega | (simp; omega) | (simp; done) | (dsimp only; omega)) _) | (with_reducible refine Below.drew ?_) | (with_reducible refine Below.trans ?_ (Below.mono (by assumption) (by first | omega | (simp; omega) | (simp; done) | (dsimp only; omega))))))
    clear hV2
    have hWV2 := hb6.trans (HV2.mono hb6.size)
    have HW6 := HW5.trans (hWV2.mono HW5.size)
    replace q0_0 := (hWV2.cell (p := ⟨w.heap.size, 0, none⟩) z0).trans q0_0
    replace q0_1 := (hWV2.cell (p := ⟨w.heap.size, 1, none⟩) z0).trans q0_1
    replace q0_2 := (hWV2.cell (p := ⟨w.heap.size, 2, none⟩) z0).trans q0_2
    replace q0_3 := (hWV2.cell (p := ⟨w.heap.size, 3, none⟩) z0).trans q0_3
    replace q0_4 := (hWV2.cell (p := ⟨w.heap.size, 4, none⟩) z0).trans q0_4
    replace q0_5 := (hWV2.cell (p := ⟨w.heap.size, 5, none⟩) z0).trans q0_5
    replace q0_6 := (hWV2.cell (p := ⟨w.heap.size, 6, none⟩) z0).trans q0_6
    replace q0_7 := (hWV2.cell (p := ⟨w.heap.size, 7, none⟩) z0).trans q0_7
    replace q0_8 := (hWV2.cell (p := ⟨w.heap.size, 8, none⟩) z0).trans q0_8
    replace q1_0 := (hWV2.cell (p := ⟨w.heap.size + 1, 0, none⟩) z1).trans q1_0
    replace q1_1 := (hWV2.cell (p := ⟨w.heap.size + 1, 1, none⟩) z1).trans q1_1
    replace q1_2 := (hWV2.cell (p := ⟨w.heap.size + 1, 2, none⟩) z1).trans q1_2
    replace z0 := Nat.lt_of_lt_of_le z0 hWV2.size
    replace z1 := Nat.lt_of_lt_of_le z1 hWV2.size
    replace p0_0 := (hWV2.cell (p := ⟨B, 0, none⟩) zp0).trans p0_0
    replace p0_1 := (hWV2.cell (p := ⟨B, 1, none⟩) zp0).trans p0_1
    replace p0_2 := (hWV2.cell (p := ⟨B, 2, none⟩) zp0).trans p0_2
    replace zp0 := Nat.lt_of_lt_of_le zp0 hWV2.size
    clear hc6 hf6 hb6 hz6 HV2 hWV2 HW5 fr0 HJ
    generalize w6.heap.size = B2 at *
    refine region_seq (S := fun w' => Below V2.heap.size V2 w') rfl (by kernel_rfl) (by kernel_rfl) (by repeat (first | (with_reducible assumption) | (with_reducible exact Below.refl _ _) | (with_reducible refine Below.alloc ?_ (by first | omega | (simp; omega) | (simp; done) | (dsimp only; omega)) _) | (with_reducible refine Below.setCell ?_ (by first | omega | (simp; omega) | (simp; done) | (dsimp only; omega)) _) | (with_reducible refine Below.drew ?_) | (with_reducible refine Below.trans ?_ (Below.mono (by assumption) (by first | omega | (simp; omega) | (simp; done) | (dsimp only; omega)))))) (fun fin hfin => ?_)
    iterate 40
      first
        | (refine SeqL.yes (v := ?_) (A' := ?_) rfl (by rfl) ?_ ?_ ?_
           rotate_left 2
           · intro w' K hS hK
             obtain ⟨hc, hf⟩ := bcell hS
             have hz := hS.size
             go_simp
             first
               | exact hK.out _ hS
               | (go_at_call 7; (with_reducible refine (D2.out _).mono ?_); rintro e w1 ⟨rfl, hb1⟩; exact hK.out _ (hS.trans (hb1.mono hz)))
               | (go_at_call 22; (with_reducible refine (L2.out _).mono ?_); rintro e w1 ⟨rfl, hb1⟩; exact hK.out _ (hS.trans (hb1.mono hz)))
               | (go_at_call 7; (with_reducible refine (D3.out _).mono ?_); rintro e w1 ⟨rfl, hb1⟩; exact hK.out _ (hS.trans (hb1.mono hz)))
               | (go_at_call 7; (with_reducible refine (D4.out _).mono ?_); rintro e w1 ⟨rfl, hb1⟩; exact hK.out _ (hS.trans (hb1.mono hz)))
               | (go_at_call 22; (with_reducible refine (L3.out _).mono ?_); rintro e w1 ⟨rfl, hb1⟩; exact hK.out _ (hS.trans (hb1.mono hz)))
               | (go_at_call 12; (with_reducible refine (H7.out _).mono ?_); rintro e w1 ⟨rfl, hb1⟩; exact hK.out _ (hS.trans (hb1.mono hz)))
               | (go_at_call 12; (with_reducible refine (O2.out _).mono ?_); rintro e w1 ⟨rfl, hb1⟩; exact hK.out _ (hS.trans (hb1.mono hz)))
               | (go_at_call 22; (with_reducible refine (L4.out _).mono ?_); rintro e w1 ⟨rfl, hb1⟩; exact hK.out _ (hS.trans (hb1.mono hz)))
               | (go_at_call 11; (with_reducible refine (HL.out _).mono ?_); rintro e w1 ⟨rfl, hb1⟩; exact hK.out _ (hS.trans (hb1.mono hz)))
               | trace_state
           · simp only [Act.put, List.setIfInBounds_toArray, List.set_cons_zero, List.set_cons_succ]; exact rfl)
        | (refine SeqL.no (A' := ?_) rfl (by rfl) ?_ ?_
           rotate_left
           · simp only [Act.put, List.setIfInBounds_toArray, List.set_cons_zero, List.set_cons_succ]; exact rfl)
    refine SeqL.nil (hfin.out _ ?_)
    clear hfin fin
    intro w1 hS1
    go_wp2
    go_ret
    exact ⟨rfl, HW6.trans (hS1.mono HW6.size)⟩

theorem join_up {a : Sp} (more : Sp) (ha : a.none = false) : (a.join more).none = false ∧ (a.join more).lo ≤ a.lo ∧ a.hi ≤ (a.join more).hi ∧ ((a.join more).lo = a.lo ∨ (a.join more).lo = more.lo) ∧ ((a.join more).hi = a.hi ∨ (a.join more).hi = more.hi) := by
  have l := (none_parts ha).2
  cases hm : more.none
  · rw [Sp.join_00' ha hm]
    have := (none_parts hm).2
    rw [Sp.of_f (by omega)]
    refine ⟨Sp.none_f (by omega), ?_, ?_, ?_, ?_⟩ <;> dsimp only <;> omega
  · rw [Sp.join_01 ha hm]
    exact ⟨ha, Int.le_refl _, Int.le_refl _, Or.inl rfl, Or.inl rfl⟩

theorem law_reckonSound (op : Int) (a b : Sp) (X Y : Int) (more : Sp) (ha : I64 a.lo ∧ I64 a.hi) (hb : I64 b.lo ∧ I64 b.hi) (hm : I64 more.lo ∧ I64 more.hi) (w : World) :
    Calls Try.prog 5 #[.agg #[.int .i64 op, .bool a.s, .int .i64 a.lo, .int .i64 a.hi, .bool b.s, .int .i64 b.lo, .int .i64 b.hi, .int .i64 X, .int .i64 Y], .agg #[.bool more.s, .int .i64 more.lo, .int .i64 more.hi]] w fun e w' => e = .returned (.bool true) ∧ Below w.heap.size w w' := by
  cases h : (a.none || b.none)
  · rw [Bool.or_eq_false_iff] at h
    obtain ⟨h1, h2⟩ := h
    obtain ⟨x1, x2⟩ := inW_in h1 X
    obtain ⟨y1, y2⟩ := inW_in h2 Y
    have ix : I64 (inW a X) := by unfold I64 at *; omega
    have iy : I64 (inW b Y) := by unfold I64 at *; omega
    obtain ⟨n, e, hd, hD⟩ := r2_do_any op (inW a X) (inW b Y) ix iy
    obtain ⟨m, f, ho, hO⟩ := r2_one_any op (inW a X) ix
    obtain ⟨jn, j1, j2, j3, j4⟩ := join_up more h1
    have ij : I64 (a.join more).lo ∧ I64 (a.join more).hi := ⟨by rcases j3 with h | h <;> rw [h]; exact ha.1; exact hm.1, by rcases j4 with h | h <;> rw [h]; exact ha.2; exact hm.2⟩
    have hA := r3_None a
    have hB := r3_None b
    rw [h1] at hA
    rw [h2] at hB
    have c1 := span_leq (doS op a b) (doS op (a.join more) b)
    rw [do_leq op h1 h2 jn h2 ha hb ij hb j1 j2 (Int.le_refl _) (Int.le_refl _)] at c1
    have c2 := span_leq (doS op b a) (doS op b (a.join more))
    rw [do_leq op h2 h1 h2 jn hb ha hb ij (Int.le_refl _) (Int.le_refl _) j1 j2] at c2
    have c3 := span_leq (oneS op a) (oneS op (a.join more))
    rw [one_leq op h1 jn ha ij j1 j2] at c3
    exact law_sound_of op a b X Y _ _ n e m f more _ _ _ _ _ _ _ (Lib.hid (reckon_do op a b ha hb)) (Lib.hid hA) (Lib.hid hB) (Lib.hid (law_within a X)) (Lib.hid (law_within b Y)) (Lib.hid hD) (Lib.hid hO)
      (fun he => Lib.hid (by have k := span_has (doS op a b) n; rw [do_has hd he h1 h2 ha hb x1 x2 y1 y2] at k; exact k)) (Lib.hid (reckon_one op a ha))
      (fun hf => Lib.hid (by have k := span_has (oneS op a) m; rw [one_has ho hf h1 ha x1 x2] at k; exact k)) (Lib.hid (span_join a more)) (Lib.hid (reckon_do op _ b ij hb)) (Lib.hid c1) (Lib.hid (reckon_do op b a hb ha)) (Lib.hid (reckon_do op b _ hb ij)) (Lib.hid c2) (Lib.hid (reckon_one op _ ij)) (Lib.hid c3) w
  · exact law_sound_none op a b X Y more ha hb h w
end Go.Proofs.Ytdphjfppfngcmaa
