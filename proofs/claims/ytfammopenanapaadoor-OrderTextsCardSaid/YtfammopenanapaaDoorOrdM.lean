/- X-PARTIAL The document's own Text of a command: layer 37. -/
import Derived.Test.YtfammopenanapaaDoorOrdK
import Derived.Test.YtfammopenanapaaDoorOrdL
import Derived.Test.YtfammopenanapaaDoorKeyR
namespace Go.Proofs.YtfammopenanapaaDoor
open Go.RowKit Go.Lib

theorem srow_at {w : World} {g k : Nat} {L : List Str} (hr : SRow w (some ⟨g, 0, none⟩) L) (hk : k < L.length) : w.cell? ⟨g, k, none⟩ = some (encStr (L.getD k [])) := by
  obtain ⟨b, o, hA, h0, -⟩ := hr.cell hk
  cases hA
  rw [Nat.zero_add] at h0
  rw [h0, List.getD_eq_getElem?_getD, List.getElem?_eq_getElem hk]
  rfl

set_option maxRecDepth 1000000 in
set_option maxHeartbeats 8000000 in
theorem r37_Text_1 (f : Str) (d : Int) (n : Str) (m : Int) (t : Str) (w : World) (hd0 : -9223372036854775808 ≤ d) (hd1 : d ≤ 9223372036854775807) (hm0 : -9223372036854775808 ≤ m) (hm1 : m ≤ 9223372036854775807) (hf : f.length + n.length ≤ 281474976710000) (ht : t.length ≤ 281474976710000)  :
    Calls Tryd.prog 11 #[.agg #[.int .i64 1, encStr f, .int .i64 d, encStr n, .int .i64 m, encStr t]] w fun e w' => e = .returned (encStr (wordsO.getD 1 [] ++ [32] ++ t)) ∧ Below w.heap.size w w' := by
  have HT := Lib.hid (fun w' => r26_Text ⟨f, d⟩ w' hd1 (by simp only; omega))
  have HI := Lib.hid (fun w' => r14_NumZ m w' hm0 hm1)
  have hl := textKd_len f d hd0 hd1
  have hi := Lib.itoa_length_le m hm0 hm1
  have hwl := words_len ⟨1, by decide⟩
  have HW0 := Lib.hid (fun w' => (r37_Words w').mono (fun e w2 (h : (∃ g c : Nat, e = .returned (.slice (some ⟨g, 0, none⟩) 10 c) ∧ SRow w2 (some ⟨g, 0, none⟩) wordsO) ∧ Below w'.heap.size w' w2) => (show (∃ g c : Nat, e = .returned (.slice (some ⟨g, 0, none⟩) 10 c) ∧ w2.cell? ⟨g, 1, none⟩ = some (encStr (wordsO.getD 1 [])) ∧ g < w2.heap.size) ∧ Below w'.heap.size w' w2 from ⟨by obtain ⟨⟨g, c, he, hr⟩, -⟩ := h; exact ⟨g, c, he, srow_at hr (by decide), by obtain ⟨b, o, hA, -, hl⟩ := SRow.cell hr (k := 0) (by decide); cases hA; exact hl⟩, h.2⟩)))
  simp only at hwl HT
  generalize wordsO.getD 1 [] = wd at *
  generalize textK ⟨f, d⟩ = at' at *
  generalize Lib.itoa m = im at *
  have A1 := add_run wd [32] (by simp; omega)
  have A2 := add_run (wd ++ [32]) t (by simp; omega)
  clear hwl hl hi hf hd0 hd1 hm0 hm1
  generalize wd ++ [32] ++ t = z at *
  generalize wd ++ [32] = y at *
  go_enter Tryd.func11, Tryd.ntmps11
  go_upto_region 1 with fail
  generalize hW : (w.alloc (.cells #[.int .i64 1, encStr f, .int .i64 d, encStr n, .int .i64 m, encStr t] 24)) = W
  have q0_0 : W.cell? ⟨w.heap.size, 0, none⟩ = some (.int .i64 1) := by rw [← hW]; simp [go_sem]
  have q0_1 : W.cell? ⟨w.heap.size, 1, none⟩ = some (encStr f) := by rw [← hW]; simp [go_sem]
  have q0_2 : W.cell? ⟨w.heap.size, 2, none⟩ = some (.int .i64 d) := by rw [← hW]; simp [go_sem]
  have q0_3 : W.cell? ⟨w.heap.size, 3, none⟩ = some (encStr n) := by rw [← hW]; simp [go_sem]
  have q0_4 : W.cell? ⟨w.heap.size, 4, none⟩ = some (.int .i64 m) := by rw [← hW]; simp [go_sem]
  have q0_5 : W.cell? ⟨w.heap.size, 5, none⟩ = some (encStr t) := by rw [← hW]; simp [go_sem]
  have z0 : w.heap.size < W.heap.size := by rw [← hW]; first | (simp; done) | (simp; omega)
  have HW : Below w.heap.size w W := by rw [← hW]; exact (by repeat (first | (with_reducible assumption) | (with_reducible exact Below.refl _ _) | (with_reducible refine Below.alloc ?_ (by first | omega | (simp; omega) | (simp; done) | (dsimp only; omega)) _) | (with_reducible refine Below.setCell ?_ (by first | omega | (simp; omega) | (simp; done) | (dsimp only; omega)) _) | (with_reducible refine Below.drew ?_) | (with_reducible refine Below.trans ?_ (Below.mono (by assumption) (by first | omega | (simp; omega) | (simp; done) | (dsimp only; omega))))))
  clear hW
  go_wp2_with fail
  go_at_call 18
  refine (HW0.out _).mono ?_
  rintro e w0 ⟨⟨g, cp, rfl, cw, hgl⟩, hb0⟩
  have hc0 := HW.trans (hb0.mono HW.size)
  replace q0_0 := (hb0.cell (p := ⟨w.heap.size, 0, none⟩) z0).trans q0_0
  replace q0_1 := (hb0.cell (p := ⟨w.heap.size, 1, none⟩) z0).trans q0_1
  replace q0_2 := (hb0.cell (p := ⟨w.heap.size, 2, none⟩) z0).trans q0_2
  replace q0_3 := (hb0.cell (p := ⟨w.heap.size, 3, none⟩) z0).trans q0_3
  replace q0_4 := (hb0.cell (p := ⟨w.heap.size, 4, none⟩) z0).trans q0_4
  replace q0_5 := (hb0.cell (p := ⟨w.heap.size, 5, none⟩) z0).trans q0_5
  replace z0 := Nat.lt_of_lt_of_le z0 hb0.size
  clear hb0 HW HW0
  go_wp2_with fail
  go_at_call 23
  refine (HT.out _).mono ?_
  rintro e w1 ⟨rfl, hb1⟩
  have hc1 := hc0.trans (hb1.mono hc0.size)
  replace q0_0 := (hb1.cell (p := ⟨w.heap.size, 0, none⟩) z0).trans q0_0
  replace q0_1 := (hb1.cell (p := ⟨w.heap.size, 1, none⟩) z0).trans q0_1
  replace q0_2 := (hb1.cell (p := ⟨w.heap.size, 2, none⟩) z0).trans q0_2
  replace q0_3 := (hb1.cell (p := ⟨w.heap.size, 3, none⟩) z0).trans q0_3
  replace q0_4 := (hb1.cell (p := ⟨w.heap.size, 4, none⟩) z0).trans q0_4
  replace q0_5 := (hb1.cell (p := ⟨w.heap.size, 5, none⟩) z0).trans q0_5
  replace z0 := Nat.lt_of_lt_of_le z0 hb1.size
  clear hb1 HT cw
  go_wp2_with fail
  go_ret
  exact ⟨rfl, (by repeat (first | (with_reducible assumption) | (with_reducible exact Below.refl _ _) | (with_reducible refine Below.alloc ?_ (by first | omega | (simp; omega) | (simp; done) | (dsimp only; omega)) _) | (with_reducible refine Below.setCell ?_ (by first | omega | (simp; omega) | (simp; done) | (dsimp only; omega)) _) | (with_reducible refine Below.drew ?_) | (with_reducible refine Below.trans ?_ (Below.mono (by assumption) (by first | omega | (simp; omega) | (simp; done) | (dsimp only; omega))))))⟩

set_option maxRecDepth 1000000 in
set_option maxHeartbeats 8000000 in
theorem r37_Text_2 (f : Str) (d : Int) (n : Str) (m : Int) (t : Str) (w : World) (hd0 : -9223372036854775808 ≤ d) (hd1 : d ≤ 9223372036854775807) (hm0 : -9223372036854775808 ≤ m) (hm1 : m ≤ 9223372036854775807) (hf : f.length + n.length ≤ 281474976710000) (ht : t.length ≤ 281474976710000)  :
    Calls Tryd.prog 11 #[.agg #[.int .i64 2, encStr f, .int .i64 d, encStr n, .int .i64 m, encStr t]] w fun e w' => e = .returned (encStr (wordsO.getD 2 [] ++ [32] ++ t)) ∧ Below w.heap.size w w' := by
  have HT := Lib.hid (fun w' => r26_Text ⟨f, d⟩ w' hd1 (by simp only; omega))
  have HI := Lib.hid (fun w' => r14_NumZ m w' hm0 hm1)
  have hl := textKd_len f d hd0 hd1
  have hi := Lib.itoa_length_le m hm0 hm1
  have hwl := words_len ⟨2, by decide⟩
  have HW0 := Lib.hid (fun w' => (r37_Words w').mono (fun e w2 (h : (∃ g c : Nat, e = .returned (.slice (some ⟨g, 0, none⟩) 10 c) ∧ SRow w2 (some ⟨g, 0, none⟩) wordsO) ∧ Below w'.heap.size w' w2) => (show (∃ g c : Nat, e = .returned (.slice (some ⟨g, 0, none⟩) 10 c) ∧ w2.cell? ⟨g, 2, none⟩ = some (encStr (wordsO.getD 2 [])) ∧ g < w2.heap.size) ∧ Below w'.heap.size w' w2 from ⟨by obtain ⟨⟨g, c, he, hr⟩, -⟩ := h; exact ⟨g, c, he, srow_at hr (by decide), by obtain ⟨b, o, hA, -, hl⟩ := SRow.cell hr (k := 0) (by decide); cases hA; exact hl⟩, h.2⟩)))
  simp only at hwl HT
  generalize wordsO.getD 2 [] = wd at *
  generalize textK ⟨f, d⟩ = at' at *
  generalize Lib.itoa m = im at *
  have A1 := add_run wd [32] (by simp; omega)
  have A2 := add_run (wd ++ [32]) t (by simp; omega)
  clear hwl hl hi hf hd0 hd1 hm0 hm1
  generalize wd ++ [32] ++ t = z at *
  generalize wd ++ [32] = y at *
  go_enter Tryd.func11, Tryd.ntmps11
  go_upto_region 1 with fail
  generalize hW : (w.alloc (.cells #[.int .i64 2, encStr f, .int .i64 d, encStr n, .int .i64 m, encStr t] 24)) = W
  have q0_0 : W.cell? ⟨w.heap.size, 0, none⟩ = some (.int .i64 2) := by rw [← hW]; simp [go_sem]
  have q0_1 : W.cell? ⟨w.heap.size, 1, none⟩ = some (encStr f) := by rw [← hW]; simp [go_sem]
  have q0_2 : W.cell? ⟨w.heap.size, 2, none⟩ = some (.int .i64 d) := by rw [← hW]; simp [go_sem]
  have q0_3 : W.cell? ⟨w.heap.size, 3, none⟩ = some (encStr n) := by rw [← hW]; simp [go_sem]
  have q0_4 : W.cell? ⟨w.heap.size, 4, none⟩ = some (.int .i64 m) := by rw [← hW]; simp [go_sem]
  have q0_5 : W.cell? ⟨w.heap.size, 5, none⟩ = some (encStr t) := by rw [← hW]; simp [go_sem]
  have z0 : w.heap.size < W.heap.size := by rw [← hW]; first | (simp; done) | (simp; omega)
  have HW : Below w.heap.size w W := by rw [← hW]; exact (by repeat (first | (with_reducible assumption) | (with_reducible exact Below.refl _ _) | (with_reducible refine Below.alloc ?_ (by first | omega | (simp; omega) | (simp; done) | (dsimp only; omega)) _) | (with_reducible refine Below.setCell ?_ (by first | omega | (simp; omega) | (simp; done) | (dsimp only; omega)) _) | (with_reducible refine Below.drew ?_) | (with_reducible refine Below.trans ?_ (Below.mono (by assumption) (by first | omega | (simp; omega) | (simp; done) | (dsimp only; omega))))))
  clear hW
  go_wp2_with fail
  go_at_call 18
  refine (HW0.out _).mono ?_
  rintro e w0 ⟨⟨g, cp, rfl, cw, hgl⟩, hb0⟩
  have hc0 := HW.trans (hb0.mono HW.size)
  replace q0_0 := (hb0.cell (p := ⟨w.heap.size, 0, none⟩) z0).trans q0_0
  replace q0_1 := (hb0.cell (p := ⟨w.heap.size, 1, none⟩) z0).trans q0_1
  replace q0_2 := (hb0.cell (p := ⟨w.heap.size, 2, none⟩) z0).trans q0_2
  replace q0_3 := (hb0.cell (p := ⟨w.heap.size, 3, none⟩) z0).trans q0_3
  replace q0_4 := (hb0.cell (p := ⟨w.heap.size, 4, none⟩) z0).trans q0_4
  replace q0_5 := (hb0.cell (p := ⟨w.heap.size, 5, none⟩) z0).trans q0_5
  replace z0 := Nat.lt_of_lt_of_le z0 hb0.size
  clear hb0 HW HW0
  go_wp2_with fail
  go_at_call 23
  refine (HT.out _).mono ?_
  rintro e w1 ⟨rfl, hb1⟩
  have hc1 := hc0.trans (hb1.mono hc0.size)
  replace q0_0 := (hb1.cell (p := ⟨w.heap.size, 0, none⟩) z0).trans q0_0
  replace q0_1 := (hb1.cell (p := ⟨w.heap.size, 1, none⟩) z0).trans q0_1
  replace q0_2 := (hb1.cell (p := ⟨w.heap.size, 2, none⟩) z0).trans q0_2
  replace q0_3 := (hb1.cell (p := ⟨w.heap.size, 3, none⟩) z0).trans q0_3
  replace q0_4 := (hb1.cell (p := ⟨w.heap.size, 4, none⟩) z0).trans q0_4
  replace q0_5 := (hb1.cell (p := ⟨w.heap.size, 5, none⟩) z0).trans q0_5
  replace z0 := Nat.lt_of_lt_of_le z0 hb1.size
  clear hb1 HT cw
  go_wp2_with fail
  go_ret
  exact ⟨rfl, (by repeat (first | (with_reducible assumption) | (with_reducible exact Below.refl _ _) | (with_reducible refine Below.alloc ?_ (by first | omega | (simp; omega) | (simp; done) | (dsimp only; omega)) _) | (with_reducible refine Below.setCell ?_ (by first | omega | (simp; omega) | (simp; done) | (dsimp only; omega)) _) | (with_reducible refine Below.drew ?_) | (with_reducible refine Below.trans ?_ (Below.mono (by assumption) (by first | omega | (simp; omega) | (simp; done) | (dsimp only; omega))))))⟩

set_option maxRecDepth 1000000 in
set_option maxHeartbeats 8000000 in
theorem r37_Text_3 (f : Str) (d : Int) (n : Str) (m : Int) (t : Str) (w : World) (hd0 : -9223372036854775808 ≤ d) (hd1 : d ≤ 9223372036854775807) (hm0 : -9223372036854775808 ≤ m) (hm1 : m ≤ 9223372036854775807) (hf : f.length + n.length ≤ 281474976710000) (_ht : t.length ≤ 281474976710000)  :
    Calls Tryd.prog 11 #[.agg #[.int .i64 3, encStr f, .int .i64 d, encStr n, .int .i64 m, encStr t]] w fun e w' => e = .returned (encStr (wordsO.getD 3 [] ++ [32] ++ n)) ∧ Below w.heap.size w w' := by
  have HT := Lib.hid (fun w' => r26_Text ⟨f, d⟩ w' hd1 (by simp only; omega))
  have HI := Lib.hid (fun w' => r14_NumZ m w' hm0 hm1)
  have hl := textKd_len f d hd0 hd1
  have hi := Lib.itoa_length_le m hm0 hm1
  have hwl := words_len ⟨3, by decide⟩
  have HW0 := Lib.hid (fun w' => (r37_Words w').mono (fun e w2 (h : (∃ g c : Nat, e = .returned (.slice (some ⟨g, 0, none⟩) 10 c) ∧ SRow w2 (some ⟨g, 0, none⟩) wordsO) ∧ Below w'.heap.size w' w2) => (show (∃ g c : Nat, e = .returned (.slice (some ⟨g, 0, none⟩) 10 c) ∧ w2.cell? ⟨g, 3, none⟩ = some (encStr (wordsO.getD 3 [])) ∧ g < w2.heap.size) ∧ Below w'.heap.size w' w2 from ⟨by obtain ⟨⟨g, c, he, hr⟩, -⟩ := h; exact ⟨g, c, he, srow_at hr (by decide), by obtain ⟨b, o, hA, -, hl⟩ := SRow.cell hr (k := 0) (by decide); cases hA; exact hl⟩, h.2⟩)))
  simp only at hwl HT
  generalize wordsO.getD 3 [] = wd at *
  generalize textK ⟨f, d⟩ = at' at *
  generalize Lib.itoa m = im at *
  have A1 := add_run wd [32] (by simp; omega)
  have A2 := add_run (wd ++ [32]) n (by simp; omega)
  clear hwl hl hi hf hd0 hd1 hm0 hm1
  generalize wd ++ [32] ++ n = z at *
  generalize wd ++ [32] = y at *
  go_enter Tryd.func11, Tryd.ntmps11
  go_upto_region 1 with fail
  generalize hW : (w.alloc (.cells #[.int .i64 3, encStr f, .int .i64 d, encStr n, .int .i64 m, encStr t] 24)) = W
  have q0_0 : W.cell? ⟨w.heap.size, 0, none⟩ = some (.int .i64 3) := by rw [← hW]; simp [go_sem]
  have q0_1 : W.cell? ⟨w.heap.size, 1, none⟩ = some (encStr f) := by rw [← hW]; simp [go_sem]
  have q0_2 : W.cell? ⟨w.heap.size, 2, none⟩ = some (.int .i64 d) := by rw [← hW]; simp [go_sem]
  have q0_3 : W.cell? ⟨w.heap.size, 3, none⟩ = some (encStr n) := by rw [← hW]; simp [go_sem]
  have q0_4 : W.cell? ⟨w.heap.size, 4, none⟩ = some (.int .i64 m) := by rw [← hW]; simp [go_sem]
  have q0_5 : W.cell? ⟨w.heap.size, 5, none⟩ = some (encStr t) := by rw [← hW]; simp [go_sem]
  have z0 : w.heap.size < W.heap.size := by rw [← hW]; first | (simp; done) | (simp; omega)
  have HW : Below w.heap.size w W := by rw [← hW]; exact (by repeat (first | (with_reducible assumption) | (with_reducible exact Below.refl _ _) | (with_reducible refine Below.alloc ?_ (by first | omega | (simp; omega) | (simp; done) | (dsimp only; omega)) _) | (with_reducible refine Below.setCell ?_ (by first | omega | (simp; omega) | (simp; done) | (dsimp only; omega)) _) | (with_reducible refine Below.drew ?_) | (with_reducible refine Below.trans ?_ (Below.mono (by assumption) (by first | omega | (simp; omega) | (simp; done) | (dsimp only; omega))))))
  clear hW
  go_wp2_with fail
  go_at_call 18
  refine (HW0.out _).mono ?_
  rintro e w0 ⟨⟨g, cp, rfl, cw, hgl⟩, hb0⟩
  have hc0 := HW.trans (hb0.mono HW.size)
  replace q0_0 := (hb0.cell (p := ⟨w.heap.size, 0, none⟩) z0).trans q0_0
  replace q0_1 := (hb0.cell (p := ⟨w.heap.size, 1, none⟩) z0).trans q0_1
  replace q0_2 := (hb0.cell (p := ⟨w.heap.size, 2, none⟩) z0).trans q0_2
  replace q0_3 := (hb0.cell (p := ⟨w.heap.size, 3, none⟩) z0).trans q0_3
  replace q0_4 := (hb0.cell (p := ⟨w.heap.size, 4, none⟩) z0).trans q0_4
  replace q0_5 := (hb0.cell (p := ⟨w.heap.size, 5, none⟩) z0).trans q0_5
  replace z0 := Nat.lt_of_lt_of_le z0 hb0.size
  clear hb0 HW HW0
  go_wp2_with fail
  go_at_call 23
  refine (HT.out _).mono ?_
  rintro e w1 ⟨rfl, hb1⟩
  have hc1 := hc0.trans (hb1.mono hc0.size)
  replace q0_0 := (hb1.cell (p := ⟨w.heap.size, 0, none⟩) z0).trans q0_0
  replace q0_1 := (hb1.cell (p := ⟨w.heap.size, 1, none⟩) z0).trans q0_1
  replace q0_2 := (hb1.cell (p := ⟨w.heap.size, 2, none⟩) z0).trans q0_2
  replace q0_3 := (hb1.cell (p := ⟨w.heap.size, 3, none⟩) z0).trans q0_3
  replace q0_4 := (hb1.cell (p := ⟨w.heap.size, 4, none⟩) z0).trans q0_4
  replace q0_5 := (hb1.cell (p := ⟨w.heap.size, 5, none⟩) z0).trans q0_5
  replace z0 := Nat.lt_of_lt_of_le z0 hb1.size
  clear hb1 HT cw
  go_wp2_with fail
  go_ret
  exact ⟨rfl, (by repeat (first | (with_reducible assumption) | (with_reducible exact Below.refl _ _) | (with_reducible refine Below.alloc ?_ (by first | omega | (simp; omega) | (simp; done) | (dsimp only; omega)) _) | (with_reducible refine Below.setCell ?_ (by first | omega | (simp; omega) | (simp; done) | (dsimp only; omega)) _) | (with_reducible refine Below.drew ?_) | (with_reducible refine Below.trans ?_ (Below.mono (by assumption) (by first | omega | (simp; omega) | (simp; done) | (dsimp only; omega))))))⟩

set_option maxRecDepth 1000000 in
set_option maxHeartbeats 8000000 in
theorem r37_Text_8 (f : Str) (d : Int) (n : Str) (m : Int) (t : Str) (w : World) (hd0 : -9223372036854775808 ≤ d) (hd1 : d ≤ 9223372036854775807) (hm0 : -9223372036854775808 ≤ m) (hm1 : m ≤ 9223372036854775807) (hf : f.length + n.length ≤ 281474976710000) (_ht : t.length ≤ 281474976710000)  :
    Calls Tryd.prog 11 #[.agg #[.int .i64 8, encStr f, .int .i64 d, encStr n, .int .i64 m, encStr t]] w fun e w' => e = .returned (encStr (wordsO.getD 8 [] ++ [32] ++ n)) ∧ Below w.heap.size w w' := by
  have HT := Lib.hid (fun w' => r26_Text ⟨f, d⟩ w' hd1 (by simp only; omega))
  have HI := Lib.hid (fun w' => r14_NumZ m w' hm0 hm1)
  have hl := textKd_len f d hd0 hd1
  have hi := Lib.itoa_length_le m hm0 hm1
  have hwl := words_len ⟨8, by decide⟩
  have HW0 := Lib.hid (fun w' => (r37_Words w').mono (fun e w2 (h : (∃ g c : Nat, e = .returned (.slice (some ⟨g, 0, none⟩) 10 c) ∧ SRow w2 (some ⟨g, 0, none⟩) wordsO) ∧ Below w'.heap.size w' w2) => (show (∃ g c : Nat, e = .returned (.slice (some ⟨g, 0, none⟩) 10 c) ∧ w2.cell? ⟨g, 8, none⟩ = some (encStr (wordsO.getD 8 [])) ∧ g < w2.heap.size) ∧ Below w'.heap.size w' w2 from ⟨by obtain ⟨⟨g, c, he, hr⟩, -⟩ := h; exact ⟨g, c, he, srow_at hr (by decide), by obtain ⟨b, o, hA, -, hl⟩ := SRow.cell hr (k := 0) (by decide); cases hA; exact hl⟩, h.2⟩)))
  simp only at hwl HT
  generalize wordsO.getD 8 [] = wd at *
  generalize textK ⟨f, d⟩ = at' at *
  generalize Lib.itoa m = im at *
  have A1 := add_run wd [32] (by simp; omega)
  have A2 := add_run (wd ++ [32]) n (by simp; omega)
  clear hwl hl hi hf hd0 hd1 hm0 hm1
  generalize wd ++ [32] ++ n = z at *
  generalize wd ++ [32] = y at *
  go_enter Tryd.func11, Tryd.ntmps11
  go_upto_region 1 with fail
  generalize hW : (w.alloc (.cells #[.int .i64 8, encStr f, .int .i64 d, encStr n, .int .i64 m, encStr t] 24)) = W
  have q0_0 : W.cell? ⟨w.heap.size, 0, none⟩ = some (.int .i64 8) := by rw [← hW]; simp [go_sem]
  have q0_1 : W.cell? ⟨w.heap.size, 1, none⟩ = some (encStr f) := by rw [← hW]; simp [go_sem]
  have q0_2 : W.cell? ⟨w.heap.size, 2, none⟩ = some (.int .i64 d) := by rw [← hW]; simp [go_sem]
  have q0_3 : W.cell? ⟨w.heap.size, 3, none⟩ = some (encStr n) := by rw [← hW]; simp [go_sem]
  have q0_4 : W.cell? ⟨w.heap.size, 4, none⟩ = some (.int .i64 m) := by rw [← hW]; simp [go_sem]
  have q0_5 : W.cell? ⟨w.heap.size, 5, none⟩ = some (encStr t) := by rw [← hW]; simp [go_sem]
  have z0 : w.heap.size < W.heap.size := by rw [← hW]; first | (simp; done) | (simp; omega)
  have HW : Below w.heap.size w W := by rw [← hW]; exact (by repeat (first | (with_reducible assumption) | (with_reducible exact Below.refl _ _) | (with_reducible refine Below.alloc ?_ (by first | omega | (simp; omega) | (simp; done) | (dsimp only; omega)) _) | (with_reducible refine Below.setCell ?_ (by first | omega | (simp; omega) | (simp; done) | (dsimp only; omega)) _) | (with_reducible refine Below.drew ?_) | (with_reducible refine Below.trans ?_ (Below.mono (by assumption) (by first | omega | (simp; omega) | (simp; done) | (dsimp only; omega))))))
  clear hW
  go_wp2_with fail
  go_at_call 18
  refine (HW0.out _).mono ?_
  rintro e w0 ⟨⟨g, cp, rfl, cw, hgl⟩, hb0⟩
  have hc0 := HW.trans (hb0.mono HW.size)
  replace q0_0 := (hb0.cell (p := ⟨w.heap.size, 0, none⟩) z0).trans q0_0
  replace q0_1 := (hb0.cell (p := ⟨w.heap.size, 1, none⟩) z0).trans q0_1
  replace q0_2 := (hb0.cell (p := ⟨w.heap.size, 2, none⟩) z0).trans q0_2
  replace q0_3 := (hb0.cell (p := ⟨w.heap.size, 3, none⟩) z0).trans q0_3
  replace q0_4 := (hb0.cell (p := ⟨w.heap.size, 4, none⟩) z0).trans q0_4
  replace q0_5 := (hb0.cell (p := ⟨w.heap.size, 5, none⟩) z0).trans q0_5
  replace z0 := Nat.lt_of_lt_of_le z0 hb0.size
  clear hb0 HW HW0
  go_wp2_with fail
  go_at_call 23
  refine (HT.out _).mono ?_
  rintro e w1 ⟨rfl, hb1⟩
  have hc1 := hc0.trans (hb1.mono hc0.size)
  replace q0_0 := (hb1.cell (p := ⟨w.heap.size, 0, none⟩) z0).trans q0_0
  replace q0_1 := (hb1.cell (p := ⟨w.heap.size, 1, none⟩) z0).trans q0_1
  replace q0_2 := (hb1.cell (p := ⟨w.heap.size, 2, none⟩) z0).trans q0_2
  replace q0_3 := (hb1.cell (p := ⟨w.heap.size, 3, none⟩) z0).trans q0_3
  replace q0_4 := (hb1.cell (p := ⟨w.heap.size, 4, none⟩) z0).trans q0_4
  replace q0_5 := (hb1.cell (p := ⟨w.heap.size, 5, none⟩) z0).trans q0_5
  replace z0 := Nat.lt_of_lt_of_le z0 hb1.size
  clear hb1 HT cw
  go_wp2_with fail
  go_ret
  exact ⟨rfl, (by repeat (first | (with_reducible assumption) | (with_reducible exact Below.refl _ _) | (with_reducible refine Below.alloc ?_ (by first | omega | (simp; omega) | (simp; done) | (dsimp only; omega)) _) | (with_reducible refine Below.setCell ?_ (by first | omega | (simp; omega) | (simp; done) | (dsimp only; omega)) _) | (with_reducible refine Below.drew ?_) | (with_reducible refine Below.trans ?_ (Below.mono (by assumption) (by first | omega | (simp; omega) | (simp; done) | (dsimp only; omega))))))⟩

set_option maxRecDepth 1000000 in
set_option maxHeartbeats 8000000 in
theorem r37_Text_9 (f : Str) (d : Int) (n : Str) (m : Int) (t : Str) (w : World) (hd0 : -9223372036854775808 ≤ d) (hd1 : d ≤ 9223372036854775807) (hm0 : -9223372036854775808 ≤ m) (hm1 : m ≤ 9223372036854775807) (hf : f.length + n.length ≤ 281474976710000) (_ht : t.length ≤ 281474976710000)  :
    Calls Tryd.prog 11 #[.agg #[.int .i64 9, encStr f, .int .i64 d, encStr n, .int .i64 m, encStr t]] w fun e w' => e = .returned (encStr (wordsO.getD 9 [] ++ [32] ++ Lib.itoa m)) ∧ Below w.heap.size w w' := by
  have HT := Lib.hid (fun w' => r26_Text ⟨f, d⟩ w' hd1 (by simp only; omega))
  have HI := Lib.hid (fun w' => r14_NumZ m w' hm0 hm1)
  have hl := textKd_len f d hd0 hd1
  have hi := Lib.itoa_length_le m hm0 hm1
  have hwl := words_len ⟨9, by decide⟩
  have HW0 := Lib.hid (fun w' => (r37_Words w').mono (fun e w2 (h : (∃ g c : Nat, e = .returned (.slice (some ⟨g, 0, none⟩) 10 c) ∧ SRow w2 (some ⟨g, 0, none⟩) wordsO) ∧ Below w'.heap.size w' w2) => (show (∃ g c : Nat, e = .returned (.slice (some ⟨g, 0, none⟩) 10 c) ∧ w2.cell? ⟨g, 9, none⟩ = some (encStr (wordsO.getD 9 [])) ∧ g < w2.heap.size) ∧ Below w'.heap.size w' w2 from ⟨by obtain ⟨⟨g, c, he, hr⟩, -⟩ := h; exact ⟨g, c, he, srow_at hr (by decide), by obtain ⟨b, o, hA, -, hl⟩ := SRow.cell hr (k := 0) (by decide); cases hA; exact hl⟩, h.2⟩)))
  simp only at hwl HT
  generalize wordsO.getD 9 [] = wd at *
  generalize textK ⟨f, d⟩ = at' at *
  generalize Lib.itoa m = im at *
  have A1 := add_run wd [32] (by simp; omega)
  have A2 := add_run (wd ++ [32]) im (by simp; omega)
  clear hwl hl hi hf hd0 hd1 hm0 hm1
  generalize wd ++ [32] ++ im = z at *
  generalize wd ++ [32] = y at *
  go_enter Tryd.func11, Tryd.ntmps11
  go_upto_region 1 with fail
  generalize hW : (w.alloc (.cells #[.int .i64 9, encStr f, .int .i64 d, encStr n, .int .i64 m, encStr t] 24)) = W
  have q0_0 : W.cell? ⟨w.heap.size, 0, none⟩ = some (.int .i64 9) := by rw [← hW]; simp [go_sem]
  have q0_1 : W.cell? ⟨w.heap.size, 1, none⟩ = some (encStr f) := by rw [← hW]; simp [go_sem]
  have q0_2 : W.cell? ⟨w.heap.size, 2, none⟩ = some (.int .i64 d) := by rw [← hW]; simp [go_sem]
  have q0_3 : W.cell? ⟨w.heap.size, 3, none⟩ = some (encStr n) := by rw [← hW]; simp [go_sem]
  have q0_4 : W.cell? ⟨w.heap.size, 4, none⟩ = some (.int .i64 m) := by rw [← hW]; simp [go_sem]
  have q0_5 : W.cell? ⟨w.heap.size, 5, none⟩ = some (encStr t) := by rw [← hW]; simp [go_sem]
  have z0 : w.heap.size < W.heap.size := by rw [← hW]; first | (simp; done) | (simp; omega)
  have HW : Below w.heap.size w W := by rw [← hW]; exact (by repeat (first | (with_reducible assumption) | (with_reducible exact Below.refl _ _) | (with_reducible refine Below.alloc ?_ (by first | omega | (simp; omega) | (simp; done) | (dsimp only; omega)) _) | (with_reducible refine Below.setCell ?_ (by first | omega | (simp; omega) | (simp; done) | (dsimp only; omega)) _) | (with_reducible refine Below.drew ?_) | (with_reducible refine Below.trans ?_ (Below.mono (by assumption) (by first | omega | (simp; omega) | (simp; done) | (dsimp only; omega))))))
  clear hW
  go_wp2_with fail
  go_at_call 18
  refine (HW0.out _).mono ?_
  rintro e w0 ⟨⟨g, cp, rfl, cw, hgl⟩, hb0⟩
  have hc0 := HW.trans (hb0.mono HW.size)
  replace q0_0 := (hb0.cell (p := ⟨w.heap.size, 0, none⟩) z0).trans q0_0
  replace q0_1 := (hb0.cell (p := ⟨w.heap.size, 1, none⟩) z0).trans q0_1
  replace q0_2 := (hb0.cell (p := ⟨w.heap.size, 2, none⟩) z0).trans q0_2
  replace q0_3 := (hb0.cell (p := ⟨w.heap.size, 3, none⟩) z0).trans q0_3
  replace q0_4 := (hb0.cell (p := ⟨w.heap.size, 4, none⟩) z0).trans q0_4
  replace q0_5 := (hb0.cell (p := ⟨w.heap.size, 5, none⟩) z0).trans q0_5
  replace z0 := Nat.lt_of_lt_of_le z0 hb0.size
  clear hb0 HW HW0
  go_wp2_with fail
  go_at_call 23
  refine (HT.out _).mono ?_
  rintro e w1 ⟨rfl, hb1⟩
  have hc1 := hc0.trans (hb1.mono hc0.size)
  replace q0_0 := (hb1.cell (p := ⟨w.heap.size, 0, none⟩) z0).trans q0_0
  replace q0_1 := (hb1.cell (p := ⟨w.heap.size, 1, none⟩) z0).trans q0_1
  replace q0_2 := (hb1.cell (p := ⟨w.heap.size, 2, none⟩) z0).trans q0_2
  replace q0_3 := (hb1.cell (p := ⟨w.heap.size, 3, none⟩) z0).trans q0_3
  replace q0_4 := (hb1.cell (p := ⟨w.heap.size, 4, none⟩) z0).trans q0_4
  replace q0_5 := (hb1.cell (p := ⟨w.heap.size, 5, none⟩) z0).trans q0_5
  replace z0 := Nat.lt_of_lt_of_le z0 hb1.size
  clear hb1 HT cw
  go_wp2_with fail
  go_at_call 24
  refine (HI.out _).mono ?_
  rintro e w2 ⟨rfl, hb2⟩
  have hc2 := hc1.trans (hb2.mono hc1.size)
  clear hb2 hc1
  go_wp2_with fail
  go_ret
  exact ⟨rfl, (by repeat (first | (with_reducible assumption) | (with_reducible exact Below.refl _ _) | (with_reducible refine Below.alloc ?_ (by first | omega | (simp; omega) | (simp; done) | (dsimp only; omega)) _) | (with_reducible refine Below.setCell ?_ (by first | omega | (simp; omega) | (simp; done) | (dsimp only; omega)) _) | (with_reducible refine Below.drew ?_) | (with_reducible refine Below.trans ?_ (Below.mono (by assumption) (by first | omega | (simp; omega) | (simp; done) | (dsimp only; omega))))))⟩

set_option maxRecDepth 1000000 in
set_option maxHeartbeats 8000000 in
theorem r37_Text_5 (f : Str) (d : Int) (n : Str) (m : Int) (t : Str) (w : World) (hd0 : -9223372036854775808 ≤ d) (hd1 : d ≤ 9223372036854775807) (hm0 : -9223372036854775808 ≤ m) (hm1 : m ≤ 9223372036854775807) (hf : f.length + n.length ≤ 281474976710000) (_ht : t.length ≤ 281474976710000)  :
    Calls Tryd.prog 11 #[.agg #[.int .i64 5, encStr f, .int .i64 d, encStr n, .int .i64 m, encStr t]] w fun e w' => e = .returned (encStr (wordsO.getD 5 [] ++ [32] ++ textK ⟨f, d⟩)) ∧ Below w.heap.size w w' := by
  have HT := Lib.hid (fun w' => r26_Text ⟨f, d⟩ w' hd1 (by simp only; omega))
  have HI := Lib.hid (fun w' => r14_NumZ m w' hm0 hm1)
  have hl := textKd_len f d hd0 hd1
  have hi := Lib.itoa_length_le m hm0 hm1
  have hwl := words_len ⟨5, by decide⟩
  have HW0 := Lib.hid (fun w' => (r37_Words w').mono (fun e w2 (h : (∃ g c : Nat, e = .returned (.slice (some ⟨g, 0, none⟩) 10 c) ∧ SRow w2 (some ⟨g, 0, none⟩) wordsO) ∧ Below w'.heap.size w' w2) => (show (∃ g c : Nat, e = .returned (.slice (some ⟨g, 0, none⟩) 10 c) ∧ w2.cell? ⟨g, 5, none⟩ = some (encStr (wordsO.getD 5 [])) ∧ g < w2.heap.size) ∧ Below w'.heap.size w' w2 from ⟨by obtain ⟨⟨g, c, he, hr⟩, -⟩ := h; exact ⟨g, c, he, srow_at hr (by decide), by obtain ⟨b, o, hA, -, hl⟩ := SRow.cell hr (k := 0) (by decide); cases hA; exact hl⟩, h.2⟩)))
  simp only at hwl HT
  generalize wordsO.getD 5 [] = wd at *
  generalize textK ⟨f, d⟩ = at' at *
  generalize Lib.itoa m = im at *
  have A1 := add_run wd [32] (by simp; omega)
  have A2 := add_run (wd ++ [32]) at' (by simp; omega)
  clear hwl hl hi hf hd0 hd1 hm0 hm1
  generalize wd ++ [32] ++ at' = z at *
  generalize wd ++ [32] = y at *
  go_enter Tryd.func11, Tryd.ntmps11
  go_upto_region 1 with fail
  generalize hW : (w.alloc (.cells #[.int .i64 5, encStr f, .int .i64 d, encStr n, .int .i64 m, encStr t] 24)) = W
  have q0_0 : W.cell? ⟨w.heap.size, 0, none⟩ = some (.int .i64 5) := by rw [← hW]; simp [go_sem]
  have q0_1 : W.cell? ⟨w.heap.size, 1, none⟩ = some (encStr f) := by rw [← hW]; simp [go_sem]
  have q0_2 : W.cell? ⟨w.heap.size, 2, none⟩ = some (.int .i64 d) := by rw [← hW]; simp [go_sem]
  have q0_3 : W.cell? ⟨w.heap.size, 3, none⟩ = some (encStr n) := by rw [← hW]; simp [go_sem]
  have q0_4 : W.cell? ⟨w.heap.size, 4, none⟩ = some (.int .i64 m) := by rw [← hW]; simp [go_sem]
  have q0_5 : W.cell? ⟨w.heap.size, 5, none⟩ = some (encStr t) := by rw [← hW]; simp [go_sem]
  have z0 : w.heap.size < W.heap.size := by rw [← hW]; first | (simp; done) | (simp; omega)
  have HW : Below w.heap.size w W := by rw [← hW]; exact (by repeat (first | (with_reducible assumption) | (with_reducible exact Below.refl _ _) | (with_reducible refine Below.alloc ?_ (by first | omega | (simp; omega) | (simp; done) | (dsimp only; omega)) _) | (with_reducible refine Below.setCell ?_ (by first | omega | (simp; omega) | (simp; done) | (dsimp only; omega)) _) | (with_reducible refine Below.drew ?_) | (with_reducible refine Below.trans ?_ (Below.mono (by assumption) (by first | omega | (simp; omega) | (simp; done) | (dsimp only; omega))))))
  clear hW
  go_wp2_with fail
  go_at_call 18
  refine (HW0.out _).mono ?_
  rintro e w0 ⟨⟨g, cp, rfl, cw, hgl⟩, hb0⟩
  have hc0 := HW.trans (hb0.mono HW.size)
  replace q0_0 := (hb0.cell (p := ⟨w.heap.size, 0, none⟩) z0).trans q0_0
  replace q0_1 := (hb0.cell (p := ⟨w.heap.size, 1, none⟩) z0).trans q0_1
  replace q0_2 := (hb0.cell (p := ⟨w.heap.size, 2, none⟩) z0).trans q0_2
  replace q0_3 := (hb0.cell (p := ⟨w.heap.size, 3, none⟩) z0).trans q0_3
  replace q0_4 := (hb0.cell (p := ⟨w.heap.size, 4, none⟩) z0).trans q0_4
  replace q0_5 := (hb0.cell (p := ⟨w.heap.size, 5, none⟩) z0).trans q0_5
  replace z0 := Nat.lt_of_lt_of_le z0 hb0.size
  clear hb0 HW HW0
  go_wp2_with fail
  go_at_call 23
  refine (HT.out _).mono ?_
  rintro e w1 ⟨rfl, hb1⟩
  have hc1 := hc0.trans (hb1.mono hc0.size)
  replace q0_0 := (hb1.cell (p := ⟨w.heap.size, 0, none⟩) z0).trans q0_0
  replace q0_1 := (hb1.cell (p := ⟨w.heap.size, 1, none⟩) z0).trans q0_1
  replace q0_2 := (hb1.cell (p := ⟨w.heap.size, 2, none⟩) z0).trans q0_2
  replace q0_3 := (hb1.cell (p := ⟨w.heap.size, 3, none⟩) z0).trans q0_3
  replace q0_4 := (hb1.cell (p := ⟨w.heap.size, 4, none⟩) z0).trans q0_4
  replace q0_5 := (hb1.cell (p := ⟨w.heap.size, 5, none⟩) z0).trans q0_5
  replace z0 := Nat.lt_of_lt_of_le z0 hb1.size
  clear hb1 HT cw
  go_wp2_with fail
  go_ret
  exact ⟨rfl, (by repeat (first | (with_reducible assumption) | (with_reducible exact Below.refl _ _) | (with_reducible refine Below.alloc ?_ (by first | omega | (simp; omega) | (simp; done) | (dsimp only; omega)) _) | (with_reducible refine Below.setCell ?_ (by first | omega | (simp; omega) | (simp; done) | (dsimp only; omega)) _) | (with_reducible refine Below.drew ?_) | (with_reducible refine Below.trans ?_ (Below.mono (by assumption) (by first | omega | (simp; omega) | (simp; done) | (dsimp only; omega))))))⟩

set_option maxRecDepth 1000000 in
set_option maxHeartbeats 8000000 in
theorem r37_Text_6 (f : Str) (d : Int) (n : Str) (m : Int) (t : Str) (w : World) (hd0 : -9223372036854775808 ≤ d) (hd1 : d ≤ 9223372036854775807) (hm0 : -9223372036854775808 ≤ m) (hm1 : m ≤ 9223372036854775807) (hf : f.length + n.length ≤ 281474976710000) (_ht : t.length ≤ 281474976710000)  :
    Calls Tryd.prog 11 #[.agg #[.int .i64 6, encStr f, .int .i64 d, encStr n, .int .i64 m, encStr t]] w fun e w' => e = .returned (encStr (wordsO.getD 6 [] ++ [32] ++ textK ⟨f, d⟩)) ∧ Below w.heap.size w w' := by
  have HT := Lib.hid (fun w' => r26_Text ⟨f, d⟩ w' hd1 (by simp only; omega))
  have HI := Lib.hid (fun w' => r14_NumZ m w' hm0 hm1)
  have hl := textKd_len f d hd0 hd1
  have hi := Lib.itoa_length_le m hm0 hm1
  have hwl := words_len ⟨6, by decide⟩
  have HW0 := Lib.hid (fun w' => (r37_Words w').mono (fun e w2 (h : (∃ g c : Nat, e = .returned (.slice (some ⟨g, 0, none⟩) 10 c) ∧ SRow w2 (some ⟨g, 0, none⟩) wordsO) ∧ Below w'.heap.size w' w2) => (show (∃ g c : Nat, e = .returned (.slice (some ⟨g, 0, none⟩) 10 c) ∧ w2.cell? ⟨g, 6, none⟩ = some (encStr (wordsO.getD 6 [])) ∧ g < w2.heap.size) ∧ Below w'.heap.size w' w2 from ⟨by obtain ⟨⟨g, c, he, hr⟩, -⟩ := h; exact ⟨g, c, he, srow_at hr (by decide), by obtain ⟨b, o, hA, -, hl⟩ := SRow.cell hr (k := 0) (by decide); cases hA; exact hl⟩, h.2⟩)))
  simp only at hwl HT
  generalize wordsO.getD 6 [] = wd at *
  generalize textK ⟨f, d⟩ = at' at *
  generalize Lib.itoa m = im at *
  have A1 := add_run wd [32] (by simp; omega)
  have A2 := add_run (wd ++ [32]) at' (by simp; omega)
  clear hwl hl hi hf hd0 hd1 hm0 hm1
  generalize wd ++ [32] ++ at' = z at *
  generalize wd ++ [32] = y at *
  go_enter Tryd.func11, Tryd.ntmps11
  go_upto_region 1 with fail
  generalize hW : (w.alloc (.cells #[.int .i64 6, encStr f, .int .i64 d, encStr n, .int .i64 m, encStr t] 24)) = W
  have q0_0 : W.cell? ⟨w.heap.size, 0, none⟩ = some (.int .i64 6) := by rw [← hW]; simp [go_sem]
  have q0_1 : W.cell? ⟨w.heap.size, 1, none⟩ = some (encStr f) := by rw [← hW]; simp [go_sem]
  have q0_2 : W.cell? ⟨w.heap.size, 2, none⟩ = some (.int .i64 d) := by rw [← hW]; simp [go_sem]
  have q0_3 : W.cell? ⟨w.heap.size, 3, none⟩ = some (encStr n) := by rw [← hW]; simp [go_sem]
  have q0_4 : W.cell? ⟨w.heap.size, 4, none⟩ = some (.int .i64 m) := by rw [← hW]; simp [go_sem]
  have q0_5 : W.cell? ⟨w.heap.size, 5, none⟩ = some (encStr t) := by rw [← hW]; simp [go_sem]
  have z0 : w.heap.size < W.heap.size := by rw [← hW]; first | (simp; done) | (simp; omega)
  have HW : Below w.heap.size w W := by rw [← hW]; exact (by repeat (first | (with_reducible assumption) | (with_reducible exact Below.refl _ _) | (with_reducible refine Below.alloc ?_ (by first | omega | (simp; omega) | (simp; done) | (dsimp only; omega)) _) | (with_reducible refine Below.setCell ?_ (by first | omega | (simp; omega) | (simp; done) | (dsimp only; omega)) _) | (with_reducible refine Below.drew ?_) | (with_reducible refine Below.trans ?_ (Below.mono (by assumption) (by first | omega | (simp; omega) | (simp; done) | (dsimp only; omega))))))
  clear hW
  go_wp2_with fail
  go_at_call 18
  refine (HW0.out _).mono ?_
  rintro e w0 ⟨⟨g, cp, rfl, cw, hgl⟩, hb0⟩
  have hc0 := HW.trans (hb0.mono HW.size)
  replace q0_0 := (hb0.cell (p := ⟨w.heap.size, 0, none⟩) z0).trans q0_0
  replace q0_1 := (hb0.cell (p := ⟨w.heap.size, 1, none⟩) z0).trans q0_1
  replace q0_2 := (hb0.cell (p := ⟨w.heap.size, 2, none⟩) z0).trans q0_2
  replace q0_3 := (hb0.cell (p := ⟨w.heap.size, 3, none⟩) z0).trans q0_3
  replace q0_4 := (hb0.cell (p := ⟨w.heap.size, 4, none⟩) z0).trans q0_4
  replace q0_5 := (hb0.cell (p := ⟨w.heap.size, 5, none⟩) z0).trans q0_5
  replace z0 := Nat.lt_of_lt_of_le z0 hb0.size
  clear hb0 HW HW0
  go_wp2_with fail
  go_at_call 23
  refine (HT.out _).mono ?_
  rintro e w1 ⟨rfl, hb1⟩
  have hc1 := hc0.trans (hb1.mono hc0.size)
  replace q0_0 := (hb1.cell (p := ⟨w.heap.size, 0, none⟩) z0).trans q0_0
  replace q0_1 := (hb1.cell (p := ⟨w.heap.size, 1, none⟩) z0).trans q0_1
  replace q0_2 := (hb1.cell (p := ⟨w.heap.size, 2, none⟩) z0).trans q0_2
  replace q0_3 := (hb1.cell (p := ⟨w.heap.size, 3, none⟩) z0).trans q0_3
  replace q0_4 := (hb1.cell (p := ⟨w.heap.size, 4, none⟩) z0).trans q0_4
  replace q0_5 := (hb1.cell (p := ⟨w.heap.size, 5, none⟩) z0).trans q0_5
  replace z0 := Nat.lt_of_lt_of_le z0 hb1.size
  clear hb1 HT cw
  go_wp2_with fail
  go_ret
  exact ⟨rfl, (by repeat (first | (with_reducible assumption) | (with_reducible exact Below.refl _ _) | (with_reducible refine Below.alloc ?_ (by first | omega | (simp; omega) | (simp; done) | (dsimp only; omega)) _) | (with_reducible refine Below.setCell ?_ (by first | omega | (simp; omega) | (simp; done) | (dsimp only; omega)) _) | (with_reducible refine Below.drew ?_) | (with_reducible refine Below.trans ?_ (Below.mono (by assumption) (by first | omega | (simp; omega) | (simp; done) | (dsimp only; omega))))))⟩

set_option maxRecDepth 1000000 in
set_option maxHeartbeats 8000000 in
theorem r37_Text_4 (f : Str) (d : Int) (n : Str) (m : Int) (t : Str) (w : World) (hd0 : -9223372036854775808 ≤ d) (hd1 : d ≤ 9223372036854775807) (hm0 : -9223372036854775808 ≤ m) (hm1 : m ≤ 9223372036854775807) (hf : f.length + n.length ≤ 281474976710000) (_ht : t.length ≤ 281474976710000) (hn : n = []) :
    Calls Tryd.prog 11 #[.agg #[.int .i64 4, encStr f, .int .i64 d, encStr n, .int .i64 m, encStr t]] w fun e w' => e = .returned (encStr (wordsO.getD 4 [] ++ [32] ++ textK ⟨f, d⟩)) ∧ Below w.heap.size w w' := by
  have HT := Lib.hid (fun w' => r26_Text ⟨f, d⟩ w' hd1 (by simp only; omega))
  have HI := Lib.hid (fun w' => r14_NumZ m w' hm0 hm1)
  have hl := textKd_len f d hd0 hd1
  have hi := Lib.itoa_length_le m hm0 hm1
  have hwl := words_len ⟨4, by decide⟩
  have HW0 := Lib.hid (fun w' => (r37_Words w').mono (fun e w2 (h : (∃ g c : Nat, e = .returned (.slice (some ⟨g, 0, none⟩) 10 c) ∧ SRow w2 (some ⟨g, 0, none⟩) wordsO) ∧ Below w'.heap.size w' w2) => (show (∃ g c : Nat, e = .returned (.slice (some ⟨g, 0, none⟩) 10 c) ∧ w2.cell? ⟨g, 4, none⟩ = some (encStr (wordsO.getD 4 [])) ∧ g < w2.heap.size) ∧ Below w'.heap.size w' w2 from ⟨by obtain ⟨⟨g, c, he, hr⟩, -⟩ := h; exact ⟨g, c, he, srow_at hr (by decide), by obtain ⟨b, o, hA, -, hl⟩ := SRow.cell hr (k := 0) (by decide); cases hA; exact hl⟩, h.2⟩)))
  simp only at hwl HT
  generalize wordsO.getD 4 [] = wd at *
  generalize textK ⟨f, d⟩ = at' at *
  generalize Lib.itoa m = im at *
  have A1 := add_run wd [32] (by simp; omega)
  have hn' : n.isEmpty = true := by rw [hn]; rfl
  clear hn
  have A2 := add_run (wd ++ [32]) at' (by simp; omega)
  clear hwl hl hi hf hd0 hd1 hm0 hm1
  generalize wd ++ [32] ++ at' = z at *
  generalize wd ++ [32] = y at *
  go_enter Tryd.func11, Tryd.ntmps11
  go_upto_region 1 with fail
  generalize hW : (w.alloc (.cells #[.int .i64 4, encStr f, .int .i64 d, encStr n, .int .i64 m, encStr t] 24)) = W
  have q0_0 : W.cell? ⟨w.heap.size, 0, none⟩ = some (.int .i64 4) := by rw [← hW]; simp [go_sem]
  have q0_1 : W.cell? ⟨w.heap.size, 1, none⟩ = some (encStr f) := by rw [← hW]; simp [go_sem]
  have q0_2 : W.cell? ⟨w.heap.size, 2, none⟩ = some (.int .i64 d) := by rw [← hW]; simp [go_sem]
  have q0_3 : W.cell? ⟨w.heap.size, 3, none⟩ = some (encStr n) := by rw [← hW]; simp [go_sem]
  have q0_4 : W.cell? ⟨w.heap.size, 4, none⟩ = some (.int .i64 m) := by rw [← hW]; simp [go_sem]
  have q0_5 : W.cell? ⟨w.heap.size, 5, none⟩ = some (encStr t) := by rw [← hW]; simp [go_sem]
  have z0 : w.heap.size < W.heap.size := by rw [← hW]; first | (simp; done) | (simp; omega)
  have HW : Below w.heap.size w W := by rw [← hW]; exact (by repeat (first | (with_reducible assumption) | (with_reducible exact Below.refl _ _) | (with_reducible refine Below.alloc ?_ (by first | omega | (simp; omega) | (simp; done) | (dsimp only; omega)) _) | (with_reducible refine Below.setCell ?_ (by first | omega | (simp; omega) | (simp; done) | (dsimp only; omega)) _) | (with_reducible refine Below.drew ?_) | (with_reducible refine Below.trans ?_ (Below.mono (by assumption) (by first | omega | (simp; omega) | (simp; done) | (dsimp only; omega))))))
  clear hW
  go_wp2_with fail
  go_at_call 18
  refine (HW0.out _).mono ?_
  rintro e w0 ⟨⟨g, cp, rfl, cw, hgl⟩, hb0⟩
  have hc0 := HW.trans (hb0.mono HW.size)
  replace q0_0 := (hb0.cell (p := ⟨w.heap.size, 0, none⟩) z0).trans q0_0
  replace q0_1 := (hb0.cell (p := ⟨w.heap.size, 1, none⟩) z0).trans q0_1
  replace q0_2 := (hb0.cell (p := ⟨w.heap.size, 2, none⟩) z0).trans q0_2
  replace q0_3 := (hb0.cell (p := ⟨w.heap.size, 3, none⟩) z0).trans q0_3
  replace q0_4 := (hb0.cell (p := ⟨w.heap.size, 4, none⟩) z0).trans q0_4
  replace q0_5 := (hb0.cell (p := ⟨w.heap.size, 5, none⟩) z0).trans q0_5
  replace z0 := Nat.lt_of_lt_of_le z0 hb0.size
  clear hb0 HW HW0
  go_wp2_with fail
  go_at_call 23
  refine (HT.out _).mono ?_
  rintro e w1 ⟨rfl, hb1⟩
  have hc1 := hc0.trans (hb1.mono hc0.size)
  replace q0_0 := (hb1.cell (p := ⟨w.heap.size, 0, none⟩) z0).trans q0_0
  replace q0_1 := (hb1.cell (p := ⟨w.heap.size, 1, none⟩) z0).trans q0_1
  replace q0_2 := (hb1.cell (p := ⟨w.heap.size, 2, none⟩) z0).trans q0_2
  replace q0_3 := (hb1.cell (p := ⟨w.heap.size, 3, none⟩) z0).trans q0_3
  replace q0_4 := (hb1.cell (p := ⟨w.heap.size, 4, none⟩) z0).trans q0_4
  replace q0_5 := (hb1.cell (p := ⟨w.heap.size, 5, none⟩) z0).trans q0_5
  replace z0 := Nat.lt_of_lt_of_le z0 hb1.size
  clear hb1 HT cw
  go_wp2_with fail
  go_ret
  exact ⟨rfl, (by repeat (first | (with_reducible assumption) | (with_reducible exact Below.refl _ _) | (with_reducible refine Below.alloc ?_ (by first | omega | (simp; omega) | (simp; done) | (dsimp only; omega)) _) | (with_reducible refine Below.setCell ?_ (by first | omega | (simp; omega) | (simp; done) | (dsimp only; omega)) _) | (with_reducible refine Below.drew ?_) | (with_reducible refine Below.trans ?_ (Below.mono (by assumption) (by first | omega | (simp; omega) | (simp; done) | (dsimp only; omega))))))⟩

set_option maxRecDepth 1000000 in
set_option maxHeartbeats 8000000 in
theorem r37_Text_7 (f : Str) (d : Int) (n : Str) (m : Int) (t : Str) (w : World) (hd0 : -9223372036854775808 ≤ d) (hd1 : d ≤ 9223372036854775807) (hm0 : -9223372036854775808 ≤ m) (hm1 : m ≤ 9223372036854775807) (hf : f.length + n.length ≤ 281474976710000) (_ht : t.length ≤ 281474976710000)  :
    Calls Tryd.prog 11 #[.agg #[.int .i64 7, encStr f, .int .i64 d, encStr n, .int .i64 m, encStr t]] w fun e w' => e = .returned (encStr (wordsO.getD 7 [] ++ [32] ++ textK ⟨f, d⟩ ++ [32] ++ n)) ∧ Below w.heap.size w w' := by
  have HT := Lib.hid (fun w' => r26_Text ⟨f, d⟩ w' hd1 (by simp only; omega))
  have HI := Lib.hid (fun w' => r14_NumZ m w' hm0 hm1)
  have hl := textKd_len f d hd0 hd1
  have hi := Lib.itoa_length_le m hm0 hm1
  have hwl := words_len ⟨7, by decide⟩
  have HW0 := Lib.hid (fun w' => (r37_Words w').mono (fun e w2 (h : (∃ g c : Nat, e = .returned (.slice (some ⟨g, 0, none⟩) 10 c) ∧ SRow w2 (some ⟨g, 0, none⟩) wordsO) ∧ Below w'.heap.size w' w2) => (show (∃ g c : Nat, e = .returned (.slice (some ⟨g, 0, none⟩) 10 c) ∧ w2.cell? ⟨g, 7, none⟩ = some (encStr (wordsO.getD 7 [])) ∧ g < w2.heap.size) ∧ Below w'.heap.size w' w2 from ⟨by obtain ⟨⟨g, c, he, hr⟩, -⟩ := h; exact ⟨g, c, he, srow_at hr (by decide), by obtain ⟨b, o, hA, -, hl⟩ := SRow.cell hr (k := 0) (by decide); cases hA; exact hl⟩, h.2⟩)))
  simp only at hwl HT
  generalize wordsO.getD 7 [] = wd at *
  generalize textK ⟨f, d⟩ = at' at *
  generalize Lib.itoa m = im at *
  have A1 := add_run wd [32] (by simp; omega)
  have A2 := add_run (wd ++ [32]) at' (by simp; omega)
  have A3 := add_run (wd ++ [32] ++ at') [32] (by simp; omega)
  have A4 := add_run (wd ++ [32] ++ at' ++ [32]) n (by simp; omega)
  clear hwl hl hi hf hd0 hd1 hm0 hm1
  generalize wd ++ [32] ++ at' ++ [32] ++ n = z4 at *
  generalize wd ++ [32] ++ at' ++ [32] = z3 at *
  generalize wd ++ [32] ++ at' = z at *
  generalize wd ++ [32] = y at *
  go_enter Tryd.func11, Tryd.ntmps11
  go_upto_region 1 with fail
  generalize hW : (w.alloc (.cells #[.int .i64 7, encStr f, .int .i64 d, encStr n, .int .i64 m, encStr t] 24)) = W
  have q0_0 : W.cell? ⟨w.heap.size, 0, none⟩ = some (.int .i64 7) := by rw [← hW]; simp [go_sem]
  have q0_1 : W.cell? ⟨w.heap.size, 1, none⟩ = some (encStr f) := by rw [← hW]; simp [go_sem]
  have q0_2 : W.cell? ⟨w.heap.size, 2, none⟩ = some (.int .i64 d) := by rw [← hW]; simp [go_sem]
  have q0_3 : W.cell? ⟨w.heap.size, 3, none⟩ = some (encStr n) := by rw [← hW]; simp [go_sem]
  have q0_4 : W.cell? ⟨w.heap.size, 4, none⟩ = some (.int .i64 m) := by rw [← hW]; simp [go_sem]
  have q0_5 : W.cell? ⟨w.heap.size, 5, none⟩ = some (encStr t) := by rw [← hW]; simp [go_sem]
  have z0 : w.heap.size < W.heap.size := by rw [← hW]; first | (simp; done) | (simp; omega)
  have HW : Below w.heap.size w W := by rw [← hW]; exact (by repeat (first | (with_reducible assumption) | (with_reducible exact Below.refl _ _) | (with_reducible refine Below.alloc ?_ (by first | omega | (simp; omega) | (simp; done) | (dsimp only; omega)) _) | (with_reducible refine Below.setCell ?_ (by first | omega | (simp; omega) | (simp; done) | (dsimp only; omega)) _) | (with_reducible refine Below.drew ?_) | (with_reducible refine Below.trans ?_ (Below.mono (by assumption) (by first | omega | (simp; omega) | (simp; done) | (dsimp only; omega))))))
  clear hW
  go_wp2_with fail
  go_at_call 18
  refine (HW0.out _).mono ?_
  rintro e w0 ⟨⟨g, cp, rfl, cw, hgl⟩, hb0⟩
  have hc0 := HW.trans (hb0.mono HW.size)
  replace q0_0 := (hb0.cell (p := ⟨w.heap.size, 0, none⟩) z0).trans q0_0
  replace q0_1 := (hb0.cell (p := ⟨w.heap.size, 1, none⟩) z0).trans q0_1
  replace q0_2 := (hb0.cell (p := ⟨w.heap.size, 2, none⟩) z0).trans q0_2
  replace q0_3 := (hb0.cell (p := ⟨w.heap.size, 3, none⟩) z0).trans q0_3
  replace q0_4 := (hb0.cell (p := ⟨w.heap.size, 4, none⟩) z0).trans q0_4
  replace q0_5 := (hb0.cell (p := ⟨w.heap.size, 5, none⟩) z0).trans q0_5
  replace z0 := Nat.lt_of_lt_of_le z0 hb0.size
  clear hb0 HW HW0
  go_wp2_with fail
  go_at_call 23
  refine (HT.out _).mono ?_
  rintro e w1 ⟨rfl, hb1⟩
  have hc1 := hc0.trans (hb1.mono hc0.size)
  replace q0_0 := (hb1.cell (p := ⟨w.heap.size, 0, none⟩) z0).trans q0_0
  replace q0_1 := (hb1.cell (p := ⟨w.heap.size, 1, none⟩) z0).trans q0_1
  replace q0_2 := (hb1.cell (p := ⟨w.heap.size, 2, none⟩) z0).trans q0_2
  replace q0_3 := (hb1.cell (p := ⟨w.heap.size, 3, none⟩) z0).trans q0_3
  replace q0_4 := (hb1.cell (p := ⟨w.heap.size, 4, none⟩) z0).trans q0_4
  replace q0_5 := (hb1.cell (p := ⟨w.heap.size, 5, none⟩) z0).trans q0_5
  replace z0 := Nat.lt_of_lt_of_le z0 hb1.size
  clear hb1 HT cw
  go_wp2_with fail
  go_ret
  exact ⟨rfl, (by repeat (first | (with_reducible assumption) | (with_reducible exact Below.refl _ _) | (with_reducible refine Below.alloc ?_ (by first | omega | (simp; omega) | (simp; done) | (dsimp only; omega)) _) | (with_reducible refine Below.setCell ?_ (by first | omega | (simp; omega) | (simp; done) | (dsimp only; omega)) _) | (with_reducible refine Below.drew ?_) | (with_reducible refine Below.trans ?_ (Below.mono (by assumption) (by first | omega | (simp; omega) | (simp; done) | (dsimp only; omega))))))⟩

set_option maxRecDepth 1000000 in
set_option maxHeartbeats 8000000 in
theorem r37_Text_4n (f : Str) (d : Int) (n : Str) (m : Int) (t : Str) (w : World) (hd0 : -9223372036854775808 ≤ d) (hd1 : d ≤ 9223372036854775807) (hm0 : -9223372036854775808 ≤ m) (hm1 : m ≤ 9223372036854775807) (hf : f.length + n.length ≤ 281474976710000) (_ht : t.length ≤ 281474976710000) (hn : n ≠ []) :
    Calls Tryd.prog 11 #[.agg #[.int .i64 4, encStr f, .int .i64 d, encStr n, .int .i64 m, encStr t]] w fun e w' => e = .returned (encStr (wordsO.getD 4 [] ++ [32] ++ textK ⟨f, d⟩ ++ [32] ++ n)) ∧ Below w.heap.size w w' := by
  have HT := Lib.hid (fun w' => r26_Text ⟨f, d⟩ w' hd1 (by simp only; omega))
  have HI := Lib.hid (fun w' => r14_NumZ m w' hm0 hm1)
  have hl := textKd_len f d hd0 hd1
  have hi := Lib.itoa_length_le m hm0 hm1
  have hwl := words_len ⟨4, by decide⟩
  have HW0 := Lib.hid (fun w' => (r37_Words w').mono (fun e w2 (h : (∃ g c : Nat, e = .returned (.slice (some ⟨g, 0, none⟩) 10 c) ∧ SRow w2 (some ⟨g, 0, none⟩) wordsO) ∧ Below w'.heap.size w' w2) => (show (∃ g c : Nat, e = .returned (.slice (some ⟨g, 0, none⟩) 10 c) ∧ w2.cell? ⟨g, 4, none⟩ = some (encStr (wordsO.getD 4 [])) ∧ g < w2.heap.size) ∧ Below w'.heap.size w' w2 from ⟨by obtain ⟨⟨g, c, he, hr⟩, -⟩ := h; exact ⟨g, c, he, srow_at hr (by decide), by obtain ⟨b, o, hA, -, hl⟩ := SRow.cell hr (k := 0) (by decide); cases hA; exact hl⟩, h.2⟩)))
  simp only at hwl HT
  generalize wordsO.getD 4 [] = wd at *
  generalize textK ⟨f, d⟩ = at' at *
  generalize Lib.itoa m = im at *
  have A1 := add_run wd [32] (by simp; omega)
  have hn' : (n == ([] : Str)) = false := by simpa using hn
  clear hn
  have A2 := add_run (wd ++ [32]) at' (by simp; omega)
  have A3 := add_run (wd ++ [32] ++ at') [32] (by simp; omega)
  have A4 := add_run (wd ++ [32] ++ at' ++ [32]) n (by simp; omega)
  clear hwl hl hi hf hd0 hd1 hm0 hm1
  generalize wd ++ [32] ++ at' ++ [32] ++ n = z4 at *
  generalize wd ++ [32] ++ at' ++ [32] = z3 at *
  generalize wd ++ [32] ++ at' = z at *
  generalize wd ++ [32] = y at *
  go_enter Tryd.func11, Tryd.ntmps11
  go_upto_region 1 with fail
  generalize hW : (w.alloc (.cells #[.int .i64 4, encStr f, .int .i64 d, encStr n, .int .i64 m, encStr t] 24)) = W
  have q0_0 : W.cell? ⟨w.heap.size, 0, none⟩ = some (.int .i64 4) := by rw [← hW]; simp [go_sem]
  have q0_1 : W.cell? ⟨w.heap.size, 1, none⟩ = some (encStr f) := by rw [← hW]; simp [go_sem]
  have q0_2 : W.cell? ⟨w.heap.size, 2, none⟩ = some (.int .i64 d) := by rw [← hW]; simp [go_sem]
  have q0_3 : W.cell? ⟨w.heap.size, 3, none⟩ = some (encStr n) := by rw [← hW]; simp [go_sem]
  have q0_4 : W.cell? ⟨w.heap.size, 4, none⟩ = some (.int .i64 m) := by rw [← hW]; simp [go_sem]
  have q0_5 : W.cell? ⟨w.heap.size, 5, none⟩ = some (encStr t) := by rw [← hW]; simp [go_sem]
  have z0 : w.heap.size < W.heap.size := by rw [← hW]; first | (simp; done) | (simp; omega)
  have HW : Below w.heap.size w W := by rw [← hW]; exact (by repeat (first | (with_reducible assumption) | (with_reducible exact Below.refl _ _) | (with_reducible refine Below.alloc ?_ (by first | omega | (simp; omega) | (simp; done) | (dsimp only; omega)) _) | (with_reducible refine Below.setCell ?_ (by first | omega | (simp; omega) | (simp; done) | (dsimp only; omega)) _) | (with_reducible refine Below.drew ?_) | (with_reducible refine Below.trans ?_ (Below.mono (by assumption) (by first | omega | (simp; omega) | (simp; done) | (dsimp only; omega))))))
  clear hW
  go_wp2_with fail
  go_at_call 18
  refine (HW0.out _).mono ?_
  rintro e w0 ⟨⟨g, cp, rfl, cw, hgl⟩, hb0⟩
  have hc0 := HW.trans (hb0.mono HW.size)
  replace q0_0 := (hb0.cell (p := ⟨w.heap.size, 0, none⟩) z0).trans q0_0
  replace q0_1 := (hb0.cell (p := ⟨w.heap.size, 1, none⟩) z0).trans q0_1
  replace q0_2 := (hb0.cell (p := ⟨w.heap.size, 2, none⟩) z0).trans q0_2
  replace q0_3 := (hb0.cell (p := ⟨w.heap.size, 3, none⟩) z0).trans q0_3
  replace q0_4 := (hb0.cell (p := ⟨w.heap.size, 4, none⟩) z0).trans q0_4
  replace q0_5 := (hb0.cell (p := ⟨w.heap.size, 5, none⟩) z0).trans q0_5
  replace z0 := Nat.lt_of_lt_of_le z0 hb0.size
  clear hb0 HW HW0
  go_wp2_with fail
  go_at_call 23
  refine (HT.out _).mono ?_
  rintro e w1 ⟨rfl, hb1⟩
  have hc1 := hc0.trans (hb1.mono hc0.size)
  replace q0_0 := (hb1.cell (p := ⟨w.heap.size, 0, none⟩) z0).trans q0_0
  replace q0_1 := (hb1.cell (p := ⟨w.heap.size, 1, none⟩) z0).trans q0_1
  replace q0_2 := (hb1.cell (p := ⟨w.heap.size, 2, none⟩) z0).trans q0_2
  replace q0_3 := (hb1.cell (p := ⟨w.heap.size, 3, none⟩) z0).trans q0_3
  replace q0_4 := (hb1.cell (p := ⟨w.heap.size, 4, none⟩) z0).trans q0_4
  replace q0_5 := (hb1.cell (p := ⟨w.heap.size, 5, none⟩) z0).trans q0_5
  replace z0 := Nat.lt_of_lt_of_le z0 hb1.size
  clear hb1 HT cw
  go_wp2_with fail
  go_ret
  exact ⟨rfl, (by repeat (first | (with_reducible assumption) | (with_reducible exact Below.refl _ _) | (with_reducible refine Below.alloc ?_ (by first | omega | (simp; omega) | (simp; done) | (dsimp only; omega)) _) | (with_reducible refine Below.setCell ?_ (by first | omega | (simp; omega) | (simp; done) | (dsimp only; omega)) _) | (with_reducible refine Below.drew ?_) | (with_reducible refine Below.trans ?_ (Below.mono (by assumption) (by first | omega | (simp; omega) | (simp; done) | (dsimp only; omega))))))⟩

set_option maxRecDepth 1000000 in
set_option maxHeartbeats 8000000 in
theorem r37_Text (c : Cmd) (w : World) (hd0 : -9223372036854775808 ≤ c.d) (hd1 : c.d ≤ 9223372036854775807) (hm0 : -9223372036854775808 ≤ c.m) (hm1 : c.m ≤ 9223372036854775807) (hf : c.f.length + c.n.length ≤ 281474976710000) (ht : c.t.length ≤ 281474976710000) :
    Calls Tryd.prog 11 #[c.v] w fun e w' => e = .returned (encStr (textO c)) ∧ Below w.heap.size w w' := by
  obtain ⟨k, f, d, n, m, t⟩ := c
  simp only at hd0 hd1 hm0 hm1 hf ht
  unfold Cmd.v
  by_cases h0 : k ≤ 0 ∨ 10 ≤ k
  · rw [textO_zero h0]
    have HW0 := Lib.hid r37_Words
    by_cases h1 : k ≤ 0
    · have h1' : k < 1 := by omega
      clear h0 h1
      simp only
      go_enter Tryd.func11, Tryd.ntmps11
      go_upto_region 1 with fail
      generalize hW : (w.alloc (.cells #[.int .i64 k, encStr f, .int .i64 d, encStr n, .int .i64 m, encStr t] 24)) = W
      have q0_0 : W.cell? ⟨w.heap.size, 0, none⟩ = some (.int .i64 k) := by rw [← hW]; simp [go_sem]
      have q0_1 : W.cell? ⟨w.heap.size, 1, none⟩ = some (encStr f) := by rw [← hW]; simp [go_sem]
      have q0_2 : W.cell? ⟨w.heap.size, 2, none⟩ = some (.int .i64 d) := by rw [← hW]; simp [go_sem]
      have q0_3 : W.cell? ⟨w.heap.size, 3, none⟩ = some (encStr n) := by rw [← hW]; simp [go_sem]
      have q0_4 : W.cell? ⟨w.heap.size, 4, none⟩ = some (.int .i64 m) := by rw [← hW]; simp [go_sem]
      have q0_5 : W.cell? ⟨w.heap.size, 5, none⟩ = some (encStr t) := by rw [← hW]; simp [go_sem]
      have z0 : w.heap.size < W.heap.size := by rw [← hW]; first | (simp; done) | (simp; omega)
      have HW : Below w.heap.size w W := by rw [← hW]; exact (by repeat (first | (with_reducible assumption) | (with_reducible exact Below.refl _ _) | (with_reducible refine Below.alloc ?_ (by first | omega | (simp; omega) | (simp; done) | (dsimp only; omega)) _) | (with_reducible refine Below.setCell ?_ (by first | omega | (simp; omega) | (simp; done) | (dsimp only; omega)) _) | (with_reducible refine Below.drew ?_) | (with_reducible refine Below.trans ?_ (Below.mono (by assumption) (by first | omega | (simp; omega) | (simp; done) | (dsimp only; omega))))))
      clear hW
      go_wp2_with fail
      go_at_call 18
      refine (HW0.out _).mono ?_
      rintro e w0 ⟨⟨g, cp, rfl, hr⟩, hb0⟩
      have hc0 := HW.trans (hb0.mono HW.size)
      replace q0_0 := (hb0.cell (p := ⟨w.heap.size, 0, none⟩) z0).trans q0_0
      replace q0_1 := (hb0.cell (p := ⟨w.heap.size, 1, none⟩) z0).trans q0_1
      replace q0_2 := (hb0.cell (p := ⟨w.heap.size, 2, none⟩) z0).trans q0_2
      replace q0_3 := (hb0.cell (p := ⟨w.heap.size, 3, none⟩) z0).trans q0_3
      replace q0_4 := (hb0.cell (p := ⟨w.heap.size, 4, none⟩) z0).trans q0_4
      replace q0_5 := (hb0.cell (p := ⟨w.heap.size, 5, none⟩) z0).trans q0_5
      replace z0 := Nat.lt_of_lt_of_le z0 hb0.size
      clear hb0 HW HW0 hr
      go_wp2_with fail
      go_ret
      exact ⟨rfl, (by repeat (first | (with_reducible assumption) | (with_reducible exact Below.refl _ _) | (with_reducible refine Below.alloc ?_ (by first | omega | (simp; omega) | (simp; done) | (dsimp only; omega)) _) | (with_reducible refine Below.setCell ?_ (by first | omega | (simp; omega) | (simp; done) | (dsimp only; omega)) _) | (with_reducible refine Below.drew ?_) | (with_reducible refine Below.trans ?_ (Below.mono (by assumption) (by first | omega | (simp; omega) | (simp; done) | (dsimp only; omega))))))⟩
    · have h2 : 10 ≤ k := by rcases h0 with h | h; exact absurd h h1; exact h
      have h1' : ¬ k < 1 := by omega
      clear h0
      simp only
      go_enter Tryd.func11, Tryd.ntmps11
      go_upto_region 1 with fail
      generalize hW : (w.alloc (.cells #[.int .i64 k, encStr f, .int .i64 d, encStr n, .int .i64 m, encStr t] 24)) = W
      have q0_0 : W.cell? ⟨w.heap.size, 0, none⟩ = some (.int .i64 k) := by rw [← hW]; simp [go_sem]
      have q0_1 : W.cell? ⟨w.heap.size, 1, none⟩ = some (encStr f) := by rw [← hW]; simp [go_sem]
      have q0_2 : W.cell? ⟨w.heap.size, 2, none⟩ = some (.int .i64 d) := by rw [← hW]; simp [go_sem]
      have q0_3 : W.cell? ⟨w.heap.size, 3, none⟩ = some (encStr n) := by rw [← hW]; simp [go_sem]
      have q0_4 : W.cell? ⟨w.heap.size, 4, none⟩ = some (.int .i64 m) := by rw [← hW]; simp [go_sem]
      have q0_5 : W.cell? ⟨w.heap.size, 5, none⟩ = some (encStr t) := by rw [← hW]; simp [go_sem]
      have z0 : w.heap.size < W.heap.size := by rw [← hW]; first | (simp; done) | (simp; omega)
      have HW : Below w.heap.size w W := by rw [← hW]; exact (by repeat (first | (with_reducible assumption) | (with_reducible exact Below.refl _ _) | (with_reducible refine Below.alloc ?_ (by first | omega | (simp; omega) | (simp; done) | (dsimp only; omega)) _) | (with_reducible refine Below.setCell ?_ (by first | omega | (simp; omega) | (simp; done) | (dsimp only; omega)) _) | (with_reducible refine Below.drew ?_) | (with_reducible refine Below.trans ?_ (Below.mono (by assumption) (by first | omega | (simp; omega) | (simp; done) | (dsimp only; omega))))))
      clear hW
      go_wp2_with fail
      go_at_call 18
      refine (HW0.out _).mono ?_
      rintro e w0 ⟨⟨g, cp, rfl, hr⟩, hb0⟩
      have hc0 := HW.trans (hb0.mono HW.size)
      replace q0_0 := (hb0.cell (p := ⟨w.heap.size, 0, none⟩) z0).trans q0_0
      replace q0_1 := (hb0.cell (p := ⟨w.heap.size, 1, none⟩) z0).trans q0_1
      replace q0_2 := (hb0.cell (p := ⟨w.heap.size, 2, none⟩) z0).trans q0_2
      replace q0_3 := (hb0.cell (p := ⟨w.heap.size, 3, none⟩) z0).trans q0_3
      replace q0_4 := (hb0.cell (p := ⟨w.heap.size, 4, none⟩) z0).trans q0_4
      replace q0_5 := (hb0.cell (p := ⟨w.heap.size, 5, none⟩) z0).trans q0_5
      replace z0 := Nat.lt_of_lt_of_le z0 hb0.size
      clear hb0 HW HW0 hr
      go_wp2_with fail
      go_ret
      exact ⟨rfl, (by repeat (first | (with_reducible assumption) | (with_reducible exact Below.refl _ _) | (with_reducible refine Below.alloc ?_ (by first | omega | (simp; omega) | (simp; done) | (dsimp only; omega)) _) | (with_reducible refine Below.setCell ?_ (by first | omega | (simp; omega) | (simp; done) | (dsimp only; omega)) _) | (with_reducible refine Below.drew ?_) | (with_reducible refine Below.trans ?_ (Below.mono (by assumption) (by first | omega | (simp; omega) | (simp; done) | (dsimp only; omega))))))⟩
  · have hk : k = 1 ∨ k = 2 ∨ k = 3 ∨ k = 4 ∨ k = 5 ∨ k = 6 ∨ k = 7 ∨ k = 8 ∨ k = 9 := by omega
    rcases hk with rfl | rfl | rfl | rfl | rfl | rfl | rfl | rfl | rfl
    · exact r37_Text_1 f d n m t w hd0 hd1 hm0 hm1 hf ht
    · exact r37_Text_2 f d n m t w hd0 hd1 hm0 hm1 hf ht
    · exact r37_Text_3 f d n m t w hd0 hd1 hm0 hm1 hf ht
    · by_cases hn : n = []
      · rw [show textO ⟨4, f, d, n, m, t⟩ = wordsO.getD 4 [] ++ [32] ++ textK ⟨f, d⟩ by subst hn; rfl]
        exact r37_Text_4 f d n m t w hd0 hd1 hm0 hm1 hf ht hn
      · rw [show textO ⟨4, f, d, n, m, t⟩ = wordsO.getD 4 [] ++ [32] ++ textK ⟨f, d⟩ ++ [32] ++ n by unfold textO; simp [hn]]
        exact r37_Text_4n f d n m t w hd0 hd1 hm0 hm1 hf ht hn
    · exact r37_Text_5 f d n m t w hd0 hd1 hm0 hm1 hf ht
    · exact r37_Text_6 f d n m t w hd0 hd1 hm0 hm1 hf ht
    · exact r37_Text_7 f d n m t w hd0 hd1 hm0 hm1 hf ht
    · exact r37_Text_8 f d n m t w hd0 hd1 hm0 hm1 hf ht
    · exact r37_Text_9 f d n m t w hd0 hd1 hm0 hm1 hf ht
end Go.Proofs.YtfammopenanapaaDoor
