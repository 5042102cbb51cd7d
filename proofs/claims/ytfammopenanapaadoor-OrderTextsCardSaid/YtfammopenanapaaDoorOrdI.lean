/- X-PARTIAL order.Text, walked: layer 37. -/
import Derived.Test.YtfammopenanapaaDoorOrdH
import Derived.Test.YtfammopenanapaaDoorKeyL
namespace Go.Proofs.YtfammopenanapaaDoor
open Go.RowKit Go.Lib

theorem add_run (x y : Str) (h : x.length + y.length ≤ 9223372036854775807) : ∀ W, (Op.stringOp .add ⟨x.toArray⟩ ⟨y.toArray⟩).run Tryd.prog W = .ok (encStr (x ++ y)) W := fun W => by
  refine (run_string_add_sum _ _ _ (by rw [mk_size, mk_size]; exact h)).trans ?_
  rw [mk_app]
theorem words_len : ∀ k : Fin 10, (wordsO.getD k.val []).length ≤ 6 := by decide
theorem textKd_len (f : Str) (d : Int) (h0 : -9223372036854775808 ≤ d) (h1 : d ≤ 9223372036854775807) : (textK ⟨f, d⟩).length ≤ f.length + 40 := by
  have := Lib.itoa_length_le d h0 h1
  unfold textK
  split <;> simp <;> omega

set_option maxRecDepth 1000000 in
set_option maxHeartbeats 8000000 in
theorem order_Text_1 (f : Str) (d : Int) (n : Str) (m : Int) (t : Str) (w : World) (hd0 : -9223372036854775808 ≤ d) (hd1 : d ≤ 9223372036854775807) (hm0 : -9223372036854775808 ≤ m) (hm1 : m ≤ 9223372036854775807) (hf : f.length + n.length ≤ 281474976710000) (ht : t.length ≤ 281474976710000) (hT : TV w) (ho : OV w)  :
    Calls Tryd.prog 10 #[.agg #[.int .i64 1, encStr f, .int .i64 d, encStr n, .int .i64 m, encStr t]] w fun e w' => e = .returned (encStr (wordsO.getD 1 [] ++ [32] ++ t)) ∧ Below w.heap.size w w' := by
  have HT := Lib.hid (fun w' (ht' : TV w') => key_Text ⟨f, d⟩ w' hd0 hd1 (by simp only; omega) ht')
  have HI := Lib.hid (fun w' (ht' : TV w') => strconv_Itoa m hm0 hm1 w' ht')
  have hl := textKd_len f d hd0 hd1
  have hi := Lib.itoa_length_le m hm0 hm1
  have hwl := words_len ⟨1, by decide⟩
  obtain ⟨o, hz, hc⟩ := ho
  have cw : w.cell? ⟨0, 1, none⟩ = some (encStr (wordsO.getD 1 [])) := hc 1 (by decide)
  have hpos : 0 < w.heap.size := blk_lt hz
  simp only at hwl HT
  generalize wordsO.getD 1 [] = wd at *
  generalize textK ⟨f, d⟩ = at' at *
  generalize Lib.itoa m = im at *
  have A1 := add_run wd [32] (by simp; omega)
  have A2 := add_run (wd ++ [32]) t (by simp; omega)
  clear hc hz hwl hl hi hf hd0 hd1 hm0 hm1
  generalize wd ++ [32] ++ t = z at *
  generalize wd ++ [32] = y at *
  go_enter Tryd.func10, Tryd.ntmps10
  go_upto_region 1 with fail
  generalize hW : (w.alloc (.cells #[.int .i64 1, encStr f, .int .i64 d, encStr n, .int .i64 m, encStr t] 24)) = W
  have q0_0 : W.cell? ⟨w.heap.size, 0, none⟩ = some (.int .i64 1) := by rw [← hW]; simp [go_sem]
  have q0_1 : W.cell? ⟨w.heap.size, 1, none⟩ = some (encStr f) := by rw [← hW]; simp [go_sem]
  have q0_2 : W.cell? ⟨w.heap.size, 2, none⟩ = some (.int .i64 d) := by rw [← hW]; simp [go_sem]
  have q0_3 : W.cell? ⟨w.heap.size, 3, none⟩ = some (encStr n) := by rw [← hW]; simp [go_sem]
  have q0_4 : W.cell? ⟨w.heap.size, 4, none⟩ = some (.int .i64 m) := by rw [← hW]; simp [go_sem]
  have q0_5 : W.cell? ⟨w.heap.size, 5, none⟩ = some (encStr t) := by rw [← hW]; simp [go_sem]
  have z0 : w.heap.size < W.heap.size := by rw [← hW]; first | (simp; done) | (simp; omega)
  have HW : Below w.heap.size w W := by rw [← hW]; exact (by repeat (first | (with_reducible assumption) | (with_reducible exact Below.refl _ _) | (with_reducible refine Below.alloc ?_ (by first | omega | (simp; omega) | (simp; done) | (dsimp only; omega)) _) | (with_reducible refine Below.setCell ?_ (by first | omega | (simp; omega) | (simp; done) | (dsimp only; omega)) _) | (with_reducible refine Below.drew ?_) | (with_reducible refine Below.trans ?_ (Below.mono (by assumption) (by first | omega | (simp; omega) | (simp; done) | (dsimp only; omega))))))
  clear hW
  have cW : W.cell? ⟨0, 1, none⟩ = some (encStr wd) := (HW.cell (p := ⟨0, 1, none⟩) hpos).trans cw
  have HTW := Lib.hid (hT.mono HW)
  clear hT cw
  go_wp2_with fail
  go_at_call 21
  refine (HT.out _ HTW.out).mono ?_
  rintro e w1 ⟨rfl, hb1⟩
  have HT2 := Lib.hid (HTW.out.mono hb1)
  have hc1 := HW.trans (hb1.mono HW.size)
  replace q0_0 := (hb1.cell (p := ⟨w.heap.size, 0, none⟩) z0).trans q0_0
  replace q0_1 := (hb1.cell (p := ⟨w.heap.size, 1, none⟩) z0).trans q0_1
  replace q0_2 := (hb1.cell (p := ⟨w.heap.size, 2, none⟩) z0).trans q0_2
  replace q0_3 := (hb1.cell (p := ⟨w.heap.size, 3, none⟩) z0).trans q0_3
  replace q0_4 := (hb1.cell (p := ⟨w.heap.size, 4, none⟩) z0).trans q0_4
  replace q0_5 := (hb1.cell (p := ⟨w.heap.size, 5, none⟩) z0).trans q0_5
  replace z0 := Nat.lt_of_lt_of_le z0 hb1.size
  clear hb1 HT HTW cW
  go_wp2_with fail
  go_ret
  exact ⟨rfl, (by repeat (first | (with_reducible assumption) | (with_reducible exact Below.refl _ _) | (with_reducible refine Below.alloc ?_ (by first | omega | (simp; omega) | (simp; done) | (dsimp only; omega)) _) | (with_reducible refine Below.setCell ?_ (by first | omega | (simp; omega) | (simp; done) | (dsimp only; omega)) _) | (with_reducible refine Below.drew ?_) | (with_reducible refine Below.trans ?_ (Below.mono (by assumption) (by first | omega | (simp; omega) | (simp; done) | (dsimp only; omega))))))⟩

set_option maxRecDepth 1000000 in
set_option maxHeartbeats 8000000 in
theorem order_Text_2 (f : Str) (d : Int) (n : Str) (m : Int) (t : Str) (w : World) (hd0 : -9223372036854775808 ≤ d) (hd1 : d ≤ 9223372036854775807) (hm0 : -9223372036854775808 ≤ m) (hm1 : m ≤ 9223372036854775807) (hf : f.length + n.length ≤ 281474976710000) (ht : t.length ≤ 281474976710000) (hT : TV w) (ho : OV w)  :
    Calls Tryd.prog 10 #[.agg #[.int .i64 2, encStr f, .int .i64 d, encStr n, .int .i64 m, encStr t]] w fun e w' => e = .returned (encStr (wordsO.getD 2 [] ++ [32] ++ t)) ∧ Below w.heap.size w w' := by
  have HT := Lib.hid (fun w' (ht' : TV w') => key_Text ⟨f, d⟩ w' hd0 hd1 (by simp only; omega) ht')
  have HI := Lib.hid (fun w' (ht' : TV w') => strconv_Itoa m hm0 hm1 w' ht')
  have hl := textKd_len f d hd0 hd1
  have hi := Lib.itoa_length_le m hm0 hm1
  have hwl := words_len ⟨2, by decide⟩
  obtain ⟨o, hz, hc⟩ := ho
  have cw : w.cell? ⟨0, 2, none⟩ = some (encStr (wordsO.getD 2 [])) := hc 2 (by decide)
  have hpos : 0 < w.heap.size := blk_lt hz
  simp only at hwl HT
  generalize wordsO.getD 2 [] = wd at *
  generalize textK ⟨f, d⟩ = at' at *
  generalize Lib.itoa m = im at *
  have A1 := add_run wd [32] (by simp; omega)
  have A2 := add_run (wd ++ [32]) t (by simp; omega)
  clear hc hz hwl hl hi hf hd0 hd1 hm0 hm1
  generalize wd ++ [32] ++ t = z at *
  generalize wd ++ [32] = y at *
  go_enter Tryd.func10, Tryd.ntmps10
  go_upto_region 1 with fail
  generalize hW : (w.alloc (.cells #[.int .i64 2, encStr f, .int .i64 d, encStr n, .int .i64 m, encStr t] 24)) = W
  have q0_0 : W.cell? ⟨w.heap.size, 0, none⟩ = some (.int .i64 2) := by rw [← hW]; simp [go_sem]
  have q0_1 : W.cell? ⟨w.heap.size, 1, none⟩ = some (encStr f) := by rw [← hW]; simp [go_sem]
  have q0_2 : W.cell? ⟨w.heap.size, 2, none⟩ = some (.int .i64 d) := by rw [← hW]; simp [go_sem]
  have q0_3 : W.cell? ⟨w.heap.size, 3, none⟩ = some (encStr n) := by rw [← hW]; simp [go_sem]
  have q0_4 : W.cell? ⟨w.heap.size, 4, none⟩ = some (.int .i64 m) := by rw [← hW]; simp [go_sem]
  have q0_5 : W.cell? ⟨w.heap.size, 5, none⟩ = some (encStr t) := by rw [← hW]; simp [go_sem]
  have z0 : w.heap.size < W.heap.size := by rw [← hW]; first | (simp; done) | (simp; omega)
  have HW : Below w.heap.size w W := by rw [← hW]; exact (by repeat (first | (with_reducible assumption) | (with_reducible exact Below.refl _ _) | (with_reducible refine Below.alloc ?_ (by first | omega | (simp; omega) | (simp; done) | (dsimp only; omega)) _) | (with_reducible refine Below.setCell ?_ (by first | omega | (simp; omega) | (simp; done) | (dsimp only; omega)) _) | (with_reducible refine Below.drew ?_) | (with_reducible refine Below.trans ?_ (Below.mono (by assumption) (by first | omega | (simp; omega) | (simp; done) | (dsimp only; omega))))))
  clear hW
  have cW : W.cell? ⟨0, 2, none⟩ = some (encStr wd) := (HW.cell (p := ⟨0, 2, none⟩) hpos).trans cw
  have HTW := Lib.hid (hT.mono HW)
  clear hT cw
  go_wp2_with fail
  go_at_call 21
  refine (HT.out _ HTW.out).mono ?_
  rintro e w1 ⟨rfl, hb1⟩
  have HT2 := Lib.hid (HTW.out.mono hb1)
  have hc1 := HW.trans (hb1.mono HW.size)
  replace q0_0 := (hb1.cell (p := ⟨w.heap.size, 0, none⟩) z0).trans q0_0
  replace q0_1 := (hb1.cell (p := ⟨w.heap.size, 1, none⟩) z0).trans q0_1
  replace q0_2 := (hb1.cell (p := ⟨w.heap.size, 2, none⟩) z0).trans q0_2
  replace q0_3 := (hb1.cell (p := ⟨w.heap.size, 3, none⟩) z0).trans q0_3
  replace q0_4 := (hb1.cell (p := ⟨w.heap.size, 4, none⟩) z0).trans q0_4
  replace q0_5 := (hb1.cell (p := ⟨w.heap.size, 5, none⟩) z0).trans q0_5
  replace z0 := Nat.lt_of_lt_of_le z0 hb1.size
  clear hb1 HT HTW cW
  go_wp2_with fail
  go_ret
  exact ⟨rfl, (by repeat (first | (with_reducible assumption) | (with_reducible exact Below.refl _ _) | (with_reducible refine Below.alloc ?_ (by first | omega | (simp; omega) | (simp; done) | (dsimp only; omega)) _) | (with_reducible refine Below.setCell ?_ (by first | omega | (simp; omega) | (simp; done) | (dsimp only; omega)) _) | (with_reducible refine Below.drew ?_) | (with_reducible refine Below.trans ?_ (Below.mono (by assumption) (by first | omega | (simp; omega) | (simp; done) | (dsimp only; omega))))))⟩

set_option maxRecDepth 1000000 in
set_option maxHeartbeats 8000000 in
theorem order_Text_3 (f : Str) (d : Int) (n : Str) (m : Int) (t : Str) (w : World) (hd0 : -9223372036854775808 ≤ d) (hd1 : d ≤ 9223372036854775807) (hm0 : -9223372036854775808 ≤ m) (hm1 : m ≤ 9223372036854775807) (hf : f.length + n.length ≤ 281474976710000) (_ht : t.length ≤ 281474976710000) (hT : TV w) (ho : OV w)  :
    Calls Tryd.prog 10 #[.agg #[.int .i64 3, encStr f, .int .i64 d, encStr n, .int .i64 m, encStr t]] w fun e w' => e = .returned (encStr (wordsO.getD 3 [] ++ [32] ++ n)) ∧ Below w.heap.size w w' := by
  have HT := Lib.hid (fun w' (ht' : TV w') => key_Text ⟨f, d⟩ w' hd0 hd1 (by simp only; omega) ht')
  have HI := Lib.hid (fun w' (ht' : TV w') => strconv_Itoa m hm0 hm1 w' ht')
  have hl := textKd_len f d hd0 hd1
  have hi := Lib.itoa_length_le m hm0 hm1
  have hwl := words_len ⟨3, by decide⟩
  obtain ⟨o, hz, hc⟩ := ho
  have cw : w.cell? ⟨0, 3, none⟩ = some (encStr (wordsO.getD 3 [])) := hc 3 (by decide)
  have hpos : 0 < w.heap.size := blk_lt hz
  simp only at hwl HT
  generalize wordsO.getD 3 [] = wd at *
  generalize textK ⟨f, d⟩ = at' at *
  generalize Lib.itoa m = im at *
  have A1 := add_run wd [32] (by simp; omega)
  have A2 := add_run (wd ++ [32]) n (by simp; omega)
  clear hc hz hwl hl hi hf hd0 hd1 hm0 hm1
  generalize wd ++ [32] ++ n = z at *
  generalize wd ++ [32] = y at *
  go_enter Tryd.func10, Tryd.ntmps10
  go_upto_region 1 with fail
  generalize hW : (w.alloc (.cells #[.int .i64 3, encStr f, .int .i64 d, encStr n, .int .i64 m, encStr t] 24)) = W
  have q0_0 : W.cell? ⟨w.heap.size, 0, none⟩ = some (.int .i64 3) := by rw [← hW]; simp [go_sem]
  have q0_1 : W.cell? ⟨w.heap.size, 1, none⟩ = some (encStr f) := by rw [← hW]; simp [go_sem]
  have q0_2 : W.cell? ⟨w.heap.size, 2, none⟩ = some (.int .i64 d) := by rw [← hW]; simp [go_sem]
  have q0_3 : W.cell? ⟨w.heap.size, 3, none⟩ = some (encStr n) := by rw [← hW]; simp [go_sem]
  have q0_4 : W.cell? ⟨w.heap.size, 4, none⟩ = some (.int .i64 m) := by rw [← hW]; simp [go_sem]
  have q0_5 : W.cell? ⟨w.heap.size, 5, none⟩ = some (encStr t) := by rw [← hW]; simp [go_sem]
  have z0 : w.heap.size < W.heap.size := by rw [← hW]; first | (simp; done) | (simp; omega)
  have HW : Below w.heap.size w W := by rw [← hW]; exact (by repeat (first | (with_reducible assumption) | (with_reducible exact Below.refl _ _) | (with_reducible refine Below.alloc ?_ (by first | omega | (simp; omega) | (simp; done) | (dsimp only; omega)) _) | (with_reducible refine Below.setCell ?_ (by first | omega | (simp; omega) | (simp; done) | (dsimp only; omega)) _) | (with_reducible refine Below.drew ?_) | (with_reducible refine Below.trans ?_ (Below.mono (by assumption) (by first | omega | (simp; omega) | (simp; done) | (dsimp only; omega))))))
  clear hW
  have cW : W.cell? ⟨0, 3, none⟩ = some (encStr wd) := (HW.cell (p := ⟨0, 3, none⟩) hpos).trans cw
  have HTW := Lib.hid (hT.mono HW)
  clear hT cw
  go_wp2_with fail
  go_at_call 21
  refine (HT.out _ HTW.out).mono ?_
  rintro e w1 ⟨rfl, hb1⟩
  have HT2 := Lib.hid (HTW.out.mono hb1)
  have hc1 := HW.trans (hb1.mono HW.size)
  replace q0_0 := (hb1.cell (p := ⟨w.heap.size, 0, none⟩) z0).trans q0_0
  replace q0_1 := (hb1.cell (p := ⟨w.heap.size, 1, none⟩) z0).trans q0_1
  replace q0_2 := (hb1.cell (p := ⟨w.heap.size, 2, none⟩) z0).trans q0_2
  replace q0_3 := (hb1.cell (p := ⟨w.heap.size, 3, none⟩) z0).trans q0_3
  replace q0_4 := (hb1.cell (p := ⟨w.heap.size, 4, none⟩) z0).trans q0_4
  replace q0_5 := (hb1.cell (p := ⟨w.heap.size, 5, none⟩) z0).trans q0_5
  replace z0 := Nat.lt_of_lt_of_le z0 hb1.size
  clear hb1 HT HTW cW
  go_wp2_with fail
  go_ret
  exact ⟨rfl, (by repeat (first | (with_reducible assumption) | (with_reducible exact Below.refl _ _) | (with_reducible refine Below.alloc ?_ (by first | omega | (simp; omega) | (simp; done) | (dsimp only; omega)) _) | (with_reducible refine Below.setCell ?_ (by first | omega | (simp; omega) | (simp; done) | (dsimp only; omega)) _) | (with_reducible refine Below.drew ?_) | (with_reducible refine Below.trans ?_ (Below.mono (by assumption) (by first | omega | (simp; omega) | (simp; done) | (dsimp only; omega))))))⟩

set_option maxRecDepth 1000000 in
set_option maxHeartbeats 8000000 in
theorem order_Text_8 (f : Str) (d : Int) (n : Str) (m : Int) (t : Str) (w : World) (hd0 : -9223372036854775808 ≤ d) (hd1 : d ≤ 9223372036854775807) (hm0 : -9223372036854775808 ≤ m) (hm1 : m ≤ 9223372036854775807) (hf : f.length + n.length ≤ 281474976710000) (_ht : t.length ≤ 281474976710000) (hT : TV w) (ho : OV w)  :
    Calls Tryd.prog 10 #[.agg #[.int .i64 8, encStr f, .int .i64 d, encStr n, .int .i64 m, encStr t]] w fun e w' => e = .returned (encStr (wordsO.getD 8 [] ++ [32] ++ n)) ∧ Below w.heap.size w w' := by
  have HT := Lib.hid (fun w' (ht' : TV w') => key_Text ⟨f, d⟩ w' hd0 hd1 (by simp only; omega) ht')
  have HI := Lib.hid (fun w' (ht' : TV w') => strconv_Itoa m hm0 hm1 w' ht')
  have hl := textKd_len f d hd0 hd1
  have hi := Lib.itoa_length_le m hm0 hm1
  have hwl := words_len ⟨8, by decide⟩
  obtain ⟨o, hz, hc⟩ := ho
  have cw : w.cell? ⟨0, 8, none⟩ = some (encStr (wordsO.getD 8 [])) := hc 8 (by decide)
  have hpos : 0 < w.heap.size := blk_lt hz
  simp only at hwl HT
  generalize wordsO.getD 8 [] = wd at *
  generalize textK ⟨f, d⟩ = at' at *
  generalize Lib.itoa m = im at *
  have A1 := add_run wd [32] (by simp; omega)
  have A2 := add_run (wd ++ [32]) n (by simp; omega)
  clear hc hz hwl hl hi hf hd0 hd1 hm0 hm1
  generalize wd ++ [32] ++ n = z at *
  generalize wd ++ [32] = y at *
  go_enter Tryd.func10, Tryd.ntmps10
  go_upto_region 1 with fail
  generalize hW : (w.alloc (.cells #[.int .i64 8, encStr f, .int .i64 d, encStr n, .int .i64 m, encStr t] 24)) = W
  have q0_0 : W.cell? ⟨w.heap.size, 0, none⟩ = some (.int .i64 8) := by rw [← hW]; simp [go_sem]
  have q0_1 : W.cell? ⟨w.heap.size, 1, none⟩ = some (encStr f) := by rw [← hW]; simp [go_sem]
  have q0_2 : W.cell? ⟨w.heap.size, 2, none⟩ = some (.int .i64 d) := by rw [← hW]; simp [go_sem]
  have q0_3 : W.cell? ⟨w.heap.size, 3, none⟩ = some (encStr n) := by rw [← hW]; simp [go_sem]
  have q0_4 : W.cell? ⟨w.heap.size, 4, none⟩ = some (.int .i64 m) := by rw [← hW]; simp [go_sem]
  have q0_5 : W.cell? ⟨w.heap.size, 5, none⟩ = some (encStr t) := by rw [← hW]; simp [go_sem]
  have z0 : w.heap.size < W.heap.size := by rw [← hW]; first | (simp; done) | (simp; omega)
  have HW : Below w.heap.size w W := by rw [← hW]; exact (by repeat (first | (with_reducible assumption) | (with_reducible exact Below.refl _ _) | (with_reducible refine Below.alloc ?_ (by first | omega | (simp; omega) | (simp; done) | (dsimp only; omega)) _) | (with_reducible refine Below.setCell ?_ (by first | omega | (simp; omega) | (simp; done) | (dsimp only; omega)) _) | (with_reducible refine Below.drew ?_) | (with_reducible refine Below.trans ?_ (Below.mono (by assumption) (by first | omega | (simp; omega) | (simp; done) | (dsimp only; omega))))))
  clear hW
  have cW : W.cell? ⟨0, 8, none⟩ = some (encStr wd) := (HW.cell (p := ⟨0, 8, none⟩) hpos).trans cw
  have HTW := Lib.hid (hT.mono HW)
  clear hT cw
  go_wp2_with fail
  go_at_call 21
  refine (HT.out _ HTW.out).mono ?_
  rintro e w1 ⟨rfl, hb1⟩
  have HT2 := Lib.hid (HTW.out.mono hb1)
  have hc1 := HW.trans (hb1.mono HW.size)
  replace q0_0 := (hb1.cell (p := ⟨w.heap.size, 0, none⟩) z0).trans q0_0
  replace q0_1 := (hb1.cell (p := ⟨w.heap.size, 1, none⟩) z0).trans q0_1
  replace q0_2 := (hb1.cell (p := ⟨w.heap.size, 2, none⟩) z0).trans q0_2
  replace q0_3 := (hb1.cell (p := ⟨w.heap.size, 3, none⟩) z0).trans q0_3
  replace q0_4 := (hb1.cell (p := ⟨w.heap.size, 4, none⟩) z0).trans q0_4
  replace q0_5 := (hb1.cell (p := ⟨w.heap.size, 5, none⟩) z0).trans q0_5
  replace z0 := Nat.lt_of_lt_of_le z0 hb1.size
  clear hb1 HT HTW cW
  go_wp2_with fail
  go_ret
  exact ⟨rfl, (by repeat (first | (with_reducible assumption) | (with_reducible exact Below.refl _ _) | (with_reducible refine Below.alloc ?_ (by first | omega | (simp; omega) | (simp; done) | (dsimp only; omega)) _) | (with_reducible refine Below.setCell ?_ (by first | omega | (simp; omega) | (simp; done) | (dsimp only; omega)) _) | (with_reducible refine Below.drew ?_) | (with_reducible refine Below.trans ?_ (Below.mono (by assumption) (by first | omega | (simp; omega) | (simp; done) | (dsimp only; omega))))))⟩

set_option maxRecDepth 1000000 in
set_option maxHeartbeats 8000000 in
theorem order_Text_9 (f : Str) (d : Int) (n : Str) (m : Int) (t : Str) (w : World) (hd0 : -9223372036854775808 ≤ d) (hd1 : d ≤ 9223372036854775807) (hm0 : -9223372036854775808 ≤ m) (hm1 : m ≤ 9223372036854775807) (hf : f.length + n.length ≤ 281474976710000) (_ht : t.length ≤ 281474976710000) (hT : TV w) (ho : OV w)  :
    Calls Tryd.prog 10 #[.agg #[.int .i64 9, encStr f, .int .i64 d, encStr n, .int .i64 m, encStr t]] w fun e w' => e = .returned (encStr (wordsO.getD 9 [] ++ [32] ++ Lib.itoa m)) ∧ Below w.heap.size w w' := by
  have HT := Lib.hid (fun w' (ht' : TV w') => key_Text ⟨f, d⟩ w' hd0 hd1 (by simp only; omega) ht')
  have HI := Lib.hid (fun w' (ht' : TV w') => strconv_Itoa m hm0 hm1 w' ht')
  have hl := textKd_len f d hd0 hd1
  have hi := Lib.itoa_length_le m hm0 hm1
  have hwl := words_len ⟨9, by decide⟩
  obtain ⟨o, hz, hc⟩ := ho
  have cw : w.cell? ⟨0, 9, none⟩ = some (encStr (wordsO.getD 9 [])) := hc 9 (by decide)
  have hpos : 0 < w.heap.size := blk_lt hz
  simp only at hwl HT
  generalize wordsO.getD 9 [] = wd at *
  generalize textK ⟨f, d⟩ = at' at *
  generalize Lib.itoa m = im at *
  have A1 := add_run wd [32] (by simp; omega)
  have A2 := add_run (wd ++ [32]) im (by simp; omega)
  clear hc hz hwl hl hi hf hd0 hd1 hm0 hm1
  generalize wd ++ [32] ++ im = z at *
  generalize wd ++ [32] = y at *
  go_enter Tryd.func10, Tryd.ntmps10
  go_upto_region 1 with fail
  generalize hW : (w.alloc (.cells #[.int .i64 9, encStr f, .int .i64 d, encStr n, .int .i64 m, encStr t] 24)) = W
  have q0_0 : W.cell? ⟨w.heap.size, 0, none⟩ = some (.int .i64 9) := by rw [← hW]; simp [go_sem]
  have q0_1 : W.cell? ⟨w.heap.size, 1, none⟩ = some (encStr f) := by rw [← hW]; simp [go_sem]
  have q0_2 : W.cell? ⟨w.heap.size, 2, none⟩ = some (.int .i64 d) := by rw [← hW]; simp [go_sem]
  have q0_3 : W.cell? ⟨w.heap.size, 3, none⟩ = some (encStr n) := by rw [← hW]; simp [go_sem]
  have q0_4 : W.cell? ⟨w.heap.size, 4, none⟩ = some (.int .i64 m) := by rw [← hW]; simp [go_sem]
  have q0_5 : W.cell? ⟨w.heap.size, 5, none⟩ = some (encStr t) := by rw [← hW]; simp [go_sem]
  have z0 : w.heap.size < W.heap.size := by rw [← hW]; first | (simp; done) | (simp; omega)
  have HW : Below w.heap.size w W := by rw [← hW]; exact (by repeat (first | (with_reducible assumption) | (with_reducible exact Below.refl _ _) | (with_reducible refine Below.alloc ?_ (by first | omega | (simp; omega) | (simp; done) | (dsimp only; omega)) _) | (with_reducible refine Below.setCell ?_ (by first | omega | (simp; omega) | (simp; done) | (dsimp only; omega)) _) | (with_reducible refine Below.drew ?_) | (with_reducible refine Below.trans ?_ (Below.mono (by assumption) (by first | omega | (simp; omega) | (simp; done) | (dsimp only; omega))))))
  clear hW
  have cW : W.cell? ⟨0, 9, none⟩ = some (encStr wd) := (HW.cell (p := ⟨0, 9, none⟩) hpos).trans cw
  have HTW := Lib.hid (hT.mono HW)
  clear hT cw
  go_wp2_with fail
  go_at_call 21
  refine (HT.out _ HTW.out).mono ?_
  rintro e w1 ⟨rfl, hb1⟩
  have HT2 := Lib.hid (HTW.out.mono hb1)
  have hc1 := HW.trans (hb1.mono HW.size)
  replace q0_0 := (hb1.cell (p := ⟨w.heap.size, 0, none⟩) z0).trans q0_0
  replace q0_1 := (hb1.cell (p := ⟨w.heap.size, 1, none⟩) z0).trans q0_1
  replace q0_2 := (hb1.cell (p := ⟨w.heap.size, 2, none⟩) z0).trans q0_2
  replace q0_3 := (hb1.cell (p := ⟨w.heap.size, 3, none⟩) z0).trans q0_3
  replace q0_4 := (hb1.cell (p := ⟨w.heap.size, 4, none⟩) z0).trans q0_4
  replace q0_5 := (hb1.cell (p := ⟨w.heap.size, 5, none⟩) z0).trans q0_5
  replace z0 := Nat.lt_of_lt_of_le z0 hb1.size
  clear hb1 HT HTW cW
  go_wp2_with fail
  go_at_call 22
  refine (HI.out _ HT2.out).mono ?_
  rintro e w2 ⟨rfl, hb2⟩
  have hc2 := hc1.trans (hb2.mono hc1.size)
  clear hb2 hc1
  go_wp2_with fail
  go_ret
  exact ⟨rfl, (by repeat (first | (with_reducible assumption) | (with_reducible exact Below.refl _ _) | (with_reducible refine Below.alloc ?_ (by first | omega | (simp; omega) | (simp; done) | (dsimp only; omega)) _) | (with_reducible refine Below.setCell ?_ (by first | omega | (simp; omega) | (simp; done) | (dsimp only; omega)) _) | (with_reducible refine Below.drew ?_) | (with_reducible refine Below.trans ?_ (Below.mono (by assumption) (by first | omega | (simp; omega) | (simp; done) | (dsimp only; omega))))))⟩

set_option maxRecDepth 1000000 in
set_option maxHeartbeats 8000000 in
theorem order_Text_5 (f : Str) (d : Int) (n : Str) (m : Int) (t : Str) (w : World) (hd0 : -9223372036854775808 ≤ d) (hd1 : d ≤ 9223372036854775807) (hm0 : -9223372036854775808 ≤ m) (hm1 : m ≤ 9223372036854775807) (hf : f.length + n.length ≤ 281474976710000) (_ht : t.length ≤ 281474976710000) (hT : TV w) (ho : OV w)  :
    Calls Tryd.prog 10 #[.agg #[.int .i64 5, encStr f, .int .i64 d, encStr n, .int .i64 m, encStr t]] w fun e w' => e = .returned (encStr (wordsO.getD 5 [] ++ [32] ++ textK ⟨f, d⟩)) ∧ Below w.heap.size w w' := by
  have HT := Lib.hid (fun w' (ht' : TV w') => key_Text ⟨f, d⟩ w' hd0 hd1 (by simp only; omega) ht')
  have HI := Lib.hid (fun w' (ht' : TV w') => strconv_Itoa m hm0 hm1 w' ht')
  have hl := textKd_len f d hd0 hd1
  have hi := Lib.itoa_length_le m hm0 hm1
  have hwl := words_len ⟨5, by decide⟩
  obtain ⟨o, hz, hc⟩ := ho
  have cw : w.cell? ⟨0, 5, none⟩ = some (encStr (wordsO.getD 5 [])) := hc 5 (by decide)
  have hpos : 0 < w.heap.size := blk_lt hz
  simp only at hwl HT
  generalize wordsO.getD 5 [] = wd at *
  generalize textK ⟨f, d⟩ = at' at *
  generalize Lib.itoa m = im at *
  have A1 := add_run wd [32] (by simp; omega)
  have A2 := add_run (wd ++ [32]) at' (by simp; omega)
  clear hc hz hwl hl hi hf hd0 hd1 hm0 hm1
  generalize wd ++ [32] ++ at' = z at *
  generalize wd ++ [32] = y at *
  go_enter Tryd.func10, Tryd.ntmps10
  go_upto_region 1 with fail
  generalize hW : (w.alloc (.cells #[.int .i64 5, encStr f, .int .i64 d, encStr n, .int .i64 m, encStr t] 24)) = W
  have q0_0 : W.cell? ⟨w.heap.size, 0, none⟩ = some (.int .i64 5) := by rw [← hW]; simp [go_sem]
  have q0_1 : W.cell? ⟨w.heap.size, 1, none⟩ = some (encStr f) := by rw [← hW]; simp [go_sem]
  have q0_2 : W.cell? ⟨w.heap.size, 2, none⟩ = some (.int .i64 d) := by rw [← hW]; simp [go_sem]
  have q0_3 : W.cell? ⟨w.heap.size, 3, none⟩ = some (encStr n) := by rw [← hW]; simp [go_sem]
  have q0_4 : W.cell? ⟨w.heap.size, 4, none⟩ = some (.int .i64 m) := by rw [← hW]; simp [go_sem]
  have q0_5 : W.cell? ⟨w.heap.size, 5, none⟩ = some (encStr t) := by rw [← hW]; simp [go_sem]
  have z0 : w.heap.size < W.heap.size := by rw [← hW]; first | (simp; done) | (simp; omega)
  have HW : Below w.heap.size w W := by rw [← hW]; exact (by repeat (first | (with_reducible assumption) | (with_reducible exact Below.refl _ _) | (with_reducible refine Below.alloc ?_ (by first | omega | (simp; omega) | (simp; done) | (dsimp only; omega)) _) | (with_reducible refine Below.setCell ?_ (by first | omega | (simp; omega) | (simp; done) | (dsimp only; omega)) _) | (with_reducible refine Below.drew ?_) | (with_reducible refine Below.trans ?_ (Below.mono (by assumption) (by first | omega | (simp; omega) | (simp; done) | (dsimp only; omega))))))
  clear hW
  have cW : W.cell? ⟨0, 5, none⟩ = some (encStr wd) := (HW.cell (p := ⟨0, 5, none⟩) hpos).trans cw
  have HTW := Lib.hid (hT.mono HW)
  clear hT cw
  go_wp2_with fail
  go_at_call 21
  refine (HT.out _ HTW.out).mono ?_
  rintro e w1 ⟨rfl, hb1⟩
  have HT2 := Lib.hid (HTW.out.mono hb1)
  have hc1 := HW.trans (hb1.mono HW.size)
  replace q0_0 := (hb1.cell (p := ⟨w.heap.size, 0, none⟩) z0).trans q0_0
  replace q0_1 := (hb1.cell (p := ⟨w.heap.size, 1, none⟩) z0).trans q0_1
  replace q0_2 := (hb1.cell (p := ⟨w.heap.size, 2, none⟩) z0).trans q0_2
  replace q0_3 := (hb1.cell (p := ⟨w.heap.size, 3, none⟩) z0).trans q0_3
  replace q0_4 := (hb1.cell (p := ⟨w.heap.size, 4, none⟩) z0).trans q0_4
  replace q0_5 := (hb1.cell (p := ⟨w.heap.size, 5, none⟩) z0).trans q0_5
  replace z0 := Nat.lt_of_lt_of_le z0 hb1.size
  clear hb1 HT HTW cW
  go_wp2_with fail
  go_ret
  exact ⟨rfl, (by repeat (first | (with_reducible assumption) | (with_reducible exact Below.refl _ _) | (with_reducible refine Below.alloc ?_ (by first | omega | (simp; omega) | (simp; done) | (dsimp only; omega)) _) | (with_reducible refine Below.setCell ?_ (by first | omega | (simp; omega) | (simp; done) | (dsimp only; omega)) _) | (with_reducible refine Below.drew ?_) | (with_reducible refine Below.trans ?_ (Below.mono (by assumption) (by first | omega | (simp; omega) | (simp; done) | (dsimp only; omega))))))⟩

set_option maxRecDepth 1000000 in
set_option maxHeartbeats 8000000 in
theorem order_Text_6 (f : Str) (d : Int) (n : Str) (m : Int) (t : Str) (w : World) (hd0 : -9223372036854775808 ≤ d) (hd1 : d ≤ 9223372036854775807) (hm0 : -9223372036854775808 ≤ m) (hm1 : m ≤ 9223372036854775807) (hf : f.length + n.length ≤ 281474976710000) (_ht : t.length ≤ 281474976710000) (hT : TV w) (ho : OV w)  :
    Calls Tryd.prog 10 #[.agg #[.int .i64 6, encStr f, .int .i64 d, encStr n, .int .i64 m, encStr t]] w fun e w' => e = .returned (encStr (wordsO.getD 6 [] ++ [32] ++ textK ⟨f, d⟩)) ∧ Below w.heap.size w w' := by
  have HT := Lib.hid (fun w' (ht' : TV w') => key_Text ⟨f, d⟩ w' hd0 hd1 (by simp only; omega) ht')
  have HI := Lib.hid (fun w' (ht' : TV w') => strconv_Itoa m hm0 hm1 w' ht')
  have hl := textKd_len f d hd0 hd1
  have hi := Lib.itoa_length_le m hm0 hm1
  have hwl := words_len ⟨6, by decide⟩
  obtain ⟨o, hz, hc⟩ := ho
  have cw : w.cell? ⟨0, 6, none⟩ = some (encStr (wordsO.getD 6 [])) := hc 6 (by decide)
  have hpos : 0 < w.heap.size := blk_lt hz
  simp only at hwl HT
  generalize wordsO.getD 6 [] = wd at *
  generalize textK ⟨f, d⟩ = at' at *
  generalize Lib.itoa m = im at *
  have A1 := add_run wd [32] (by simp; omega)
  have A2 := add_run (wd ++ [32]) at' (by simp; omega)
  clear hc hz hwl hl hi hf hd0 hd1 hm0 hm1
  generalize wd ++ [32] ++ at' = z at *
  generalize wd ++ [32] = y at *
  go_enter Tryd.func10, Tryd.ntmps10
  go_upto_region 1 with fail
  generalize hW : (w.alloc (.cells #[.int .i64 6, encStr f, .int .i64 d, encStr n, .int .i64 m, encStr t] 24)) = W
  have q0_0 : W.cell? ⟨w.heap.size, 0, none⟩ = some (.int .i64 6) := by rw [← hW]; simp [go_sem]
  have q0_1 : W.cell? ⟨w.heap.size, 1, none⟩ = some (encStr f) := by rw [← hW]; simp [go_sem]
  have q0_2 : W.cell? ⟨w.heap.size, 2, none⟩ = some (.int .i64 d) := by rw [← hW]; simp [go_sem]
  have q0_3 : W.cell? ⟨w.heap.size, 3, none⟩ = some (encStr n) := by rw [← hW]; simp [go_sem]
  have q0_4 : W.cell? ⟨w.heap.size, 4, none⟩ = some (.int .i64 m) := by rw [← hW]; simp [go_sem]
  have q0_5 : W.cell? ⟨w.heap.size, 5, none⟩ = some (encStr t) := by rw [← hW]; simp [go_sem]
  have z0 : w.heap.size < W.heap.size := by rw [← hW]; first | (simp; done) | (simp; omega)
  have HW : Below w.heap.size w W := by rw [← hW]; exact (by repeat (first | (with_reducible assumption) | (with_reducible exact Below.refl _ _) | (with_reducible refine Below.alloc ?_ (by first | omega | (simp; omega) | (simp; done) | (dsimp only; omega)) _) | (with_reducible refine Below.setCell ?_ (by first | omega | (simp; omega) | (simp; done) | (dsimp only; omega)) _) | (with_reducible refine Below.drew ?_) | (with_reducible refine Below.trans ?_ (Below.mono (by assumption) (by first | omega | (simp; omega) | (simp; done) | (dsimp only; omega))))))
  clear hW
  have cW : W.cell? ⟨0, 6, none⟩ = some (encStr wd) := (HW.cell (p := ⟨0, 6, none⟩) hpos).trans cw
  have HTW := Lib.hid (hT.mono HW)
  clear hT cw
  go_wp2_with fail
  go_at_call 21
  refine (HT.out _ HTW.out).mono ?_
  rintro e w1 ⟨rfl, hb1⟩
  have HT2 := Lib.hid (HTW.out.mono hb1)
  have hc1 := HW.trans (hb1.mono HW.size)
  replace q0_0 := (hb1.cell (p := ⟨w.heap.size, 0, none⟩) z0).trans q0_0
  replace q0_1 := (hb1.cell (p := ⟨w.heap.size, 1, none⟩) z0).trans q0_1
  replace q0_2 := (hb1.cell (p := ⟨w.heap.size, 2, none⟩) z0).trans q0_2
  replace q0_3 := (hb1.cell (p := ⟨w.heap.size, 3, none⟩) z0).trans q0_3
  replace q0_4 := (hb1.cell (p := ⟨w.heap.size, 4, none⟩) z0).trans q0_4
  replace q0_5 := (hb1.cell (p := ⟨w.heap.size, 5, none⟩) z0).trans q0_5
  replace z0 := Nat.lt_of_lt_of_le z0 hb1.size
  clear hb1 HT HTW cW
  go_wp2_with fail
  go_ret
  exact ⟨rfl, (by repeat (first | (with_reducible assumption) | (with_reducible exact Below.refl _ _) | (with_reducible refine Below.alloc ?_ (by first | omega | (simp; omega) | (simp; done) | (dsimp only; omega)) _) | (with_reducible refine Below.setCell ?_ (by first | omega | (simp; omega) | (simp; done) | (dsimp only; omega)) _) | (with_reducible refine Below.drew ?_) | (with_reducible refine Below.trans ?_ (Below.mono (by assumption) (by first | omega | (simp; omega) | (simp; done) | (dsimp only; omega))))))⟩

set_option maxRecDepth 1000000 in
set_option maxHeartbeats 8000000 in
theorem order_Text_4 (f : Str) (d : Int) (n : Str) (m : Int) (t : Str) (w : World) (hd0 : -9223372036854775808 ≤ d) (hd1 : d ≤ 9223372036854775807) (hm0 : -9223372036854775808 ≤ m) (hm1 : m ≤ 9223372036854775807) (hf : f.length + n.length ≤ 281474976710000) (_ht : t.length ≤ 281474976710000) (hT : TV w) (ho : OV w) (hn : n = []) :
    Calls Tryd.prog 10 #[.agg #[.int .i64 4, encStr f, .int .i64 d, encStr n, .int .i64 m, encStr t]] w fun e w' => e = .returned (encStr (wordsO.getD 4 [] ++ [32] ++ textK ⟨f, d⟩)) ∧ Below w.heap.size w w' := by
  have HT := Lib.hid (fun w' (ht' : TV w') => key_Text ⟨f, d⟩ w' hd0 hd1 (by simp only; omega) ht')
  have HI := Lib.hid (fun w' (ht' : TV w') => strconv_Itoa m hm0 hm1 w' ht')
  have hl := textKd_len f d hd0 hd1
  have hi := Lib.itoa_length_le m hm0 hm1
  have hwl := words_len ⟨4, by decide⟩
  obtain ⟨o, hz, hc⟩ := ho
  have cw : w.cell? ⟨0, 4, none⟩ = some (encStr (wordsO.getD 4 [])) := hc 4 (by decide)
  have hpos : 0 < w.heap.size := blk_lt hz
  simp only at hwl HT
  generalize wordsO.getD 4 [] = wd at *
  generalize textK ⟨f, d⟩ = at' at *
  generalize Lib.itoa m = im at *
  have A1 := add_run wd [32] (by simp; omega)
  have hn' : (n == ([] : Str)) = true := by simpa using hn
  clear hn
  have A2 := add_run (wd ++ [32]) at' (by simp; omega)
  clear hc hz hwl hl hi hf hd0 hd1 hm0 hm1
  generalize wd ++ [32] ++ at' = z at *
  generalize wd ++ [32] = y at *
  go_enter Tryd.func10, Tryd.ntmps10
  go_upto_region 1 with fail
  generalize hW : (w.alloc (.cells #[.int .i64 4, encStr f, .int .i64 d, encStr n, .int .i64 m, encStr t] 24)) = W
  have q0_0 : W.cell? ⟨w.heap.size, 0, none⟩ = some (.int .i64 4) := by rw [← hW]; simp [go_sem]
  have q0_1 : W.cell? ⟨w.heap.size, 1, none⟩ = some (encStr f) := by rw [← hW]; simp [go_sem]
  have q0_2 : W.cell? ⟨w.heap.size, 2, none⟩ = some (.int .i64 d) := by rw [← hW]; simp [go_sem]
  have q0_3 : W.cell? ⟨w.heap.size, 3, none⟩ = some (encStr n) := by rw [← hW]; simp [go_sem]
  have q0_4 : W.cell? ⟨w.heap.size, 4, none⟩ = some (.int .i64 m) := by rw [← hW]; simp [go_sem]
  have q0_5 : W.cell? ⟨w.heap.size, 5, none⟩ = some (encStr t) := by rw [← hW]; simp [go_sem]
  have z0 : w.heap.size < W.heap.size := by rw [← hW]; first | (simp; done) | (simp; omega)
  have HW : Below w.heap.size w W := by rw [← hW]; exact (by repeat (first | (with_reducible assumption) | (with_reducible exact Below.refl _ _) | (with_reducible refine Below.alloc ?_ (by first | omega | (simp; omega) | (simp; done) | (dsimp only; omega)) _) | (with_reducible refine Below.setCell ?_ (by first | omega | (simp; omega) | (simp; done) | (dsimp only; omega)) _) | (with_reducible refine Below.drew ?_) | (with_reducible refine Below.trans ?_ (Below.mono (by assumption) (by first | omega | (simp; omega) | (simp; done) | (dsimp only; omega))))))
  clear hW
  have cW : W.cell? ⟨0, 4, none⟩ = some (encStr wd) := (HW.cell (p := ⟨0, 4, none⟩) hpos).trans cw
  have HTW := Lib.hid (hT.mono HW)
  clear hT cw
  go_wp2_with fail
  go_at_call 21
  refine (HT.out _ HTW.out).mono ?_
  rintro e w1 ⟨rfl, hb1⟩
  have HT2 := Lib.hid (HTW.out.mono hb1)
  have hc1 := HW.trans (hb1.mono HW.size)
  replace q0_0 := (hb1.cell (p := ⟨w.heap.size, 0, none⟩) z0).trans q0_0
  replace q0_1 := (hb1.cell (p := ⟨w.heap.size, 1, none⟩) z0).trans q0_1
  replace q0_2 := (hb1.cell (p := ⟨w.heap.size, 2, none⟩) z0).trans q0_2
  replace q0_3 := (hb1.cell (p := ⟨w.heap.size, 3, none⟩) z0).trans q0_3
  replace q0_4 := (hb1.cell (p := ⟨w.heap.size, 4, none⟩) z0).trans q0_4
  replace q0_5 := (hb1.cell (p := ⟨w.heap.size, 5, none⟩) z0).trans q0_5
  replace z0 := Nat.lt_of_lt_of_le z0 hb1.size
  clear hb1 HT HTW cW
  go_wp2_with fail
  go_ret
  exact ⟨rfl, (by repeat (first | (with_reducible assumption) | (with_reducible exact Below.refl _ _) | (with_reducible refine Below.alloc ?_ (by first | omega | (simp; omega) | (simp; done) | (dsimp only; omega)) _) | (with_reducible refine Below.setCell ?_ (by first | omega | (simp; omega) | (simp; done) | (dsimp only; omega)) _) | (with_reducible refine Below.drew ?_) | (with_reducible refine Below.trans ?_ (Below.mono (by assumption) (by first | omega | (simp; omega) | (simp; done) | (dsimp only; omega))))))⟩

set_option maxRecDepth 1000000 in
set_option maxHeartbeats 8000000 in
theorem order_Text_7 (f : Str) (d : Int) (n : Str) (m : Int) (t : Str) (w : World) (hd0 : -9223372036854775808 ≤ d) (hd1 : d ≤ 9223372036854775807) (hm0 : -9223372036854775808 ≤ m) (hm1 : m ≤ 9223372036854775807) (hf : f.length + n.length ≤ 281474976710000) (_ht : t.length ≤ 281474976710000) (hT : TV w) (ho : OV w)  :
    Calls Tryd.prog 10 #[.agg #[.int .i64 7, encStr f, .int .i64 d, encStr n, .int .i64 m, encStr t]] w fun e w' => e = .returned (encStr (wordsO.getD 7 [] ++ [32] ++ textK ⟨f, d⟩ ++ [32] ++ n)) ∧ Below w.heap.size w w' := by
  have HT := Lib.hid (fun w' (ht' : TV w') => key_Text ⟨f, d⟩ w' hd0 hd1 (by simp only; omega) ht')
  have HI := Lib.hid (fun w' (ht' : TV w') => strconv_Itoa m hm0 hm1 w' ht')
  have hl := textKd_len f d hd0 hd1
  have hi := Lib.itoa_length_le m hm0 hm1
  have hwl := words_len ⟨7, by decide⟩
  obtain ⟨o, hz, hc⟩ := ho
  have cw : w.cell? ⟨0, 7, none⟩ = some (encStr (wordsO.getD 7 [])) := hc 7 (by decide)
  have hpos : 0 < w.heap.size := blk_lt hz
  simp only at hwl HT
  generalize wordsO.getD 7 [] = wd at *
  generalize textK ⟨f, d⟩ = at' at *
  generalize Lib.itoa m = im at *
  have A1 := add_run wd [32] (by simp; omega)
  have A2 := add_run (wd ++ [32]) at' (by simp; omega)
  have A3 := add_run (wd ++ [32] ++ at') [32] (by simp; omega)
  have A4 := add_run (wd ++ [32] ++ at' ++ [32]) n (by simp; omega)
  clear hc hz hwl hl hi hf hd0 hd1 hm0 hm1
  generalize wd ++ [32] ++ at' ++ [32] ++ n = z4 at *
  generalize wd ++ [32] ++ at' ++ [32] = z3 at *
  generalize wd ++ [32] ++ at' = z at *
  generalize wd ++ [32] = y at *
  go_enter Tryd.func10, Tryd.ntmps10
  go_upto_region 1 with fail
  generalize hW : (w.alloc (.cells #[.int .i64 7, encStr f, .int .i64 d, encStr n, .int .i64 m, encStr t] 24)) = W
  have q0_0 : W.cell? ⟨w.heap.size, 0, none⟩ = some (.int .i64 7) := by rw [← hW]; simp [go_sem]
  have q0_1 : W.cell? ⟨w.heap.size, 1, none⟩ = some (encStr f) := by rw [← hW]; simp [go_sem]
  have q0_2 : W.cell? ⟨w.heap.size, 2, none⟩ = some (.int .i64 d) := by rw [← hW]; simp [go_sem]
  have q0_3 : W.cell? ⟨w.heap.size, 3, none⟩ = some (encStr n) := by rw [← hW]; simp [go_sem]
  have q0_4 : W.cell? ⟨w.heap.size, 4, none⟩ = some (.int .i64 m) := by rw [← hW]; simp [go_sem]
  have q0_5 : W.cell? ⟨w.heap.size, 5, none⟩ = some (encStr t) := by rw [← hW]; simp [go_sem]
  have z0 : w.heap.size < W.heap.size := by rw [← hW]; first | (simp; done) | (simp; omega)
  have HW : Below w.heap.size w W := by rw [← hW]; exact (by repeat (first | (with_reducible assumption) | (with_reducible exact Below.refl _ _) | (with_reducible refine Below.alloc ?_ (by first | omega | (simp; omega) | (simp; done) | (dsimp only; omega)) _) | (with_reducible refine Below.setCell ?_ (by first | omega | (simp; omega) | (simp; done) | (dsimp only; omega)) _) | (with_reducible refine Below.drew ?_) | (with_reducible refine Below.trans ?_ (Below.mono (by assumption) (by first | omega | (simp; omega) | (simp; done) | (dsimp only; omega))))))
  clear hW
  have cW : W.cell? ⟨0, 7, none⟩ = some (encStr wd) := (HW.cell (p := ⟨0, 7, none⟩) hpos).trans cw
  have HTW := Lib.hid (hT.mono HW)
  clear hT cw
  go_wp2_with fail
  go_at_call 21
  refine (HT.out _ HTW.out).mono ?_
  rintro e w1 ⟨rfl, hb1⟩
  have HT2 := Lib.hid (HTW.out.mono hb1)
  have hc1 := HW.trans (hb1.mono HW.size)
  replace q0_0 := (hb1.cell (p := ⟨w.heap.size, 0, none⟩) z0).trans q0_0
  replace q0_1 := (hb1.cell (p := ⟨w.heap.size, 1, none⟩) z0).trans q0_1
  replace q0_2 := (hb1.cell (p := ⟨w.heap.size, 2, none⟩) z0).trans q0_2
  replace q0_3 := (hb1.cell (p := ⟨w.heap.size, 3, none⟩) z0).trans q0_3
  replace q0_4 := (hb1.cell (p := ⟨w.heap.size, 4, none⟩) z0).trans q0_4
  replace q0_5 := (hb1.cell (p := ⟨w.heap.size, 5, none⟩) z0).trans q0_5
  replace z0 := Nat.lt_of_lt_of_le z0 hb1.size
  clear hb1 HT HTW cW
  go_wp2_with fail
  go_ret
  exact ⟨rfl, (by repeat (first | (with_reducible assumption) | (with_reducible exact Below.refl _ _) | (with_reducible refine Below.alloc ?_ (by first | omega | (simp; omega) | (simp; done) | (dsimp only; omega)) _) | (with_reducible refine Below.setCell ?_ (by first | omega | (simp; omega) | (simp; done) | (dsimp only; omega)) _) | (with_reducible refine Below.drew ?_) | (with_reducible refine Below.trans ?_ (Below.mono (by assumption) (by first | omega | (simp; omega) | (simp; done) | (dsimp only; omega))))))⟩

set_option maxRecDepth 1000000 in
set_option maxHeartbeats 8000000 in
theorem order_Text_4n (f : Str) (d : Int) (n : Str) (m : Int) (t : Str) (w : World) (hd0 : -9223372036854775808 ≤ d) (hd1 : d ≤ 9223372036854775807) (hm0 : -9223372036854775808 ≤ m) (hm1 : m ≤ 9223372036854775807) (hf : f.length + n.length ≤ 281474976710000) (_ht : t.length ≤ 281474976710000) (hT : TV w) (ho : OV w) (hn : n ≠ []) :
    Calls Tryd.prog 10 #[.agg #[.int .i64 4, encStr f, .int .i64 d, encStr n, .int .i64 m, encStr t]] w fun e w' => e = .returned (encStr (wordsO.getD 4 [] ++ [32] ++ textK ⟨f, d⟩ ++ [32] ++ n)) ∧ Below w.heap.size w w' := by
  have HT := Lib.hid (fun w' (ht' : TV w') => key_Text ⟨f, d⟩ w' hd0 hd1 (by simp only; omega) ht')
  have HI := Lib.hid (fun w' (ht' : TV w') => strconv_Itoa m hm0 hm1 w' ht')
  have hl := textKd_len f d hd0 hd1
  have hi := Lib.itoa_length_le m hm0 hm1
  have hwl := words_len ⟨4, by decide⟩
  obtain ⟨o, hz, hc⟩ := ho
  have cw : w.cell? ⟨0, 4, none⟩ = some (encStr (wordsO.getD 4 [])) := hc 4 (by decide)
  have hpos : 0 < w.heap.size := blk_lt hz
  simp only at hwl HT
  generalize wordsO.getD 4 [] = wd at *
  generalize textK ⟨f, d⟩ = at' at *
  generalize Lib.itoa m = im at *
  have A1 := add_run wd [32] (by simp; omega)
  have hn' : (n == ([] : Str)) = false := by simpa using hn
  clear hn
  have A2 := add_run (wd ++ [32]) at' (by simp; omega)
  have A3 := add_run (wd ++ [32] ++ at') [32] (by simp; omega)
  have A4 := add_run (wd ++ [32] ++ at' ++ [32]) n (by simp; omega)
  clear hc hz hwl hl hi hf hd0 hd1 hm0 hm1
  generalize wd ++ [32] ++ at' ++ [32] ++ n = z4 at *
  generalize wd ++ [32] ++ at' ++ [32] = z3 at *
  generalize wd ++ [32] ++ at' = z at *
  generalize wd ++ [32] = y at *
  go_enter Tryd.func10, Tryd.ntmps10
  go_upto_region 1 with fail
  generalize hW : (w.alloc (.cells #[.int .i64 4, encStr f, .int .i64 d, encStr n, .int .i64 m, encStr t] 24)) = W
  have q0_0 : W.cell? ⟨w.heap.size, 0, none⟩ = some (.int .i64 4) := by rw [← hW]; simp [go_sem]
  have q0_1 : W.cell? ⟨w.heap.size, 1, none⟩ = some (encStr f) := by rw [← hW]; simp [go_sem]
  have q0_2 : W.cell? ⟨w.heap.size, 2, none⟩ = some (.int .i64 d) := by rw [← hW]; simp [go_sem]
  have q0_3 : W.cell? ⟨w.heap.size, 3, none⟩ = some (encStr n) := by rw [← hW]; simp [go_sem]
  have q0_4 : W.cell? ⟨w.heap.size, 4, none⟩ = some (.int .i64 m) := by rw [← hW]; simp [go_sem]
  have q0_5 : W.cell? ⟨w.heap.size, 5, none⟩ = some (encStr t) := by rw [← hW]; simp [go_sem]
  have z0 : w.heap.size < W.heap.size := by rw [← hW]; first | (simp; done) | (simp; omega)
  have HW : Below w.heap.size w W := by rw [← hW]; exact (by repeat (first | (with_reducible assumption) | (with_reducible exact Below.refl _ _) | (with_reducible refine Below.alloc ?_ (by first | omega | (simp; omega) | (simp; done) | (dsimp only; omega)) _) | (with_reducible refine Below.setCell ?_ (by first | omega | (simp; omega) | (simp; done) | (dsimp only; omega)) _) | (with_reducible refine Below.drew ?_) | (with_reducible refine Below.trans ?_ (Below.mono (by assumption) (by first | omega | (simp; omega) | (simp; done) | (dsimp only; omega))))))
  clear hW
  have cW : W.cell? ⟨0, 4, none⟩ = some (encStr wd) := (HW.cell (p := ⟨0, 4, none⟩) hpos).trans cw
  have HTW := Lib.hid (hT.mono HW)
  clear hT cw
  go_wp2_with fail
  go_at_call 21
  refine (HT.out _ HTW.out).mono ?_
  rintro e w1 ⟨rfl, hb1⟩
  have HT2 := Lib.hid (HTW.out.mono hb1)
  have hc1 := HW.trans (hb1.mono HW.size)
  replace q0_0 := (hb1.cell (p := ⟨w.heap.size, 0, none⟩) z0).trans q0_0
  replace q0_1 := (hb1.cell (p := ⟨w.heap.size, 1, none⟩) z0).trans q0_1
  replace q0_2 := (hb1.cell (p := ⟨w.heap.size, 2, none⟩) z0).trans q0_2
  replace q0_3 := (hb1.cell (p := ⟨w.heap.size, 3, none⟩) z0).trans q0_3
  replace q0_4 := (hb1.cell (p := ⟨w.heap.size, 4, none⟩) z0).trans q0_4
  replace q0_5 := (hb1.cell (p := ⟨w.heap.size, 5, none⟩) z0).trans q0_5
  replace z0 := Nat.lt_of_lt_of_le z0 hb1.size
  clear hb1 HT HTW cW
  go_wp2_with fail
  go_ret
  exact ⟨rfl, (by repeat (first | (with_reducible assumption) | (with_reducible exact Below.refl _ _) | (with_reducible refine Below.alloc ?_ (by first | omega | (simp; omega) | (simp; done) | (dsimp only; omega)) _) | (with_reducible refine Below.setCell ?_ (by first | omega | (simp; omega) | (simp; done) | (dsimp only; omega)) _) | (with_reducible refine Below.drew ?_) | (with_reducible refine Below.trans ?_ (Below.mono (by assumption) (by first | omega | (simp; omega) | (simp; done) | (dsimp only; omega))))))⟩

theorem textO_zero {c : Cmd} (h : c.k ≤ 0 ∨ 10 ≤ c.k) : textO c = [] := by unfold textO; rw [if_pos h]
set_option maxRecDepth 1000000 in
set_option maxHeartbeats 8000000 in
theorem order_Text (c : Cmd) (w : World) (hd0 : -9223372036854775808 ≤ c.d) (hd1 : c.d ≤ 9223372036854775807) (hm0 : -9223372036854775808 ≤ c.m) (hm1 : c.m ≤ 9223372036854775807) (hf : c.f.length + c.n.length ≤ 281474976710000) (ht : c.t.length ≤ 281474976710000) (hT : TV w) (ho : OV w) :
    Calls Tryd.prog 10 #[c.v] w fun e w' => e = .returned (encStr (textO c)) ∧ Below w.heap.size w w' := by
  obtain ⟨k, f, d, n, m, t⟩ := c
  simp only at hd0 hd1 hm0 hm1 hf ht
  unfold Cmd.v
  by_cases h0 : k ≤ 0 ∨ 10 ≤ k
  · rw [textO_zero h0]
    by_cases h1 : k ≤ 0
    · clear h0 hT ho
      simp only
      go_enter Tryd.func10, Tryd.ntmps10
      go_upto_region 1 with fail
      generalize hW : (w.alloc (.cells #[.int .i64 k, encStr f, .int .i64 d, encStr n, .int .i64 m, encStr t] 24)) = W
      have q0_0 : W.cell? ⟨w.heap.size, 0, none⟩ = some (.int .i64 k) := by rw [← hW]; simp [go_sem]
      have q0_1 : W.cell? ⟨w.heap.size, 1, none⟩ = some (encStr f) := by rw [← hW]; simp [go_sem]
      have q0_2 : W.cell? ⟨w.heap.size, 2, none⟩ = some (.int .i64 d) := by rw [← hW]; simp [go_sem]
      have q0_3 : W.cell? ⟨w.heap.size, 3, none⟩ = some (encStr n) := by rw [← hW]; simp [go_sem]
      have q0_4 : W.cell? ⟨w.heap.size, 4, none⟩ = some (.int .i64 m) := by rw [← hW]; simp [go_sem]
      have q0_5 : W.cell? ⟨w.heap.size, 5, none⟩ = some (encStr t) := by rw [← hW]; simp [go_sem]
      have z0 : w.heap.size < W.heap.size := by rw [← hW]; first | (simp; done) | (simp; omega)
      have HW : Below w.heap.size w W := by rw [← hW]; exact (by repeat (first | (with_reducible assumption) | (with_reducible exact Below.refl _ _) | (with_reducible refine Below.alloc ?_ (by first | omega | (simp; omega) | (simp; done) | (dsimp only; omega)) _) | (with_reducible refine Below.setCell ?_ (by first | omega | (simp; omega) | (simp; done) | (dsimp only; omega)) _) | (with_reducible refine Below.drew ?_) | (with_reducible refine Below.trans ?_ (Below.mono (by assumption) (by first | omega | (simp; omega) | (simp; done) | (dsimp only; omega))))))
      clear hW
      go_wp2_with fail
      go_ret
      exact ⟨rfl, (by repeat (first | (with_reducible assumption) | (with_reducible exact Below.refl _ _) | (with_reducible refine Below.alloc ?_ (by first | omega | (simp; omega) | (simp; done) | (dsimp only; omega)) _) | (with_reducible refine Below.setCell ?_ (by first | omega | (simp; omega) | (simp; done) | (dsimp only; omega)) _) | (with_reducible refine Below.drew ?_) | (with_reducible refine Below.trans ?_ (Below.mono (by assumption) (by first | omega | (simp; omega) | (simp; done) | (dsimp only; omega))))))⟩
    · have h2 : 10 ≤ k := by rcases h0 with h | h; exact absurd h h1; exact h
      clear h0 hT ho
      simp only
      go_enter Tryd.func10, Tryd.ntmps10
      go_upto_region 1 with fail
      generalize hW : (w.alloc (.cells #[.int .i64 k, encStr f, .int .i64 d, encStr n, .int .i64 m, encStr t] 24)) = W
      have q0_0 : W.cell? ⟨w.heap.size, 0, none⟩ = some (.int .i64 k) := by rw [← hW]; simp [go_sem]
      have q0_1 : W.cell? ⟨w.heap.size, 1, none⟩ = some (encStr f) := by rw [← hW]; simp [go_sem]
      have q0_2 : W.cell? ⟨w.heap.size, 2, none⟩ = some (.int .i64 d) := by rw [← hW]; simp [go_sem]
      have q0_3 : W.cell? ⟨w.heap.size, 3, none⟩ = some (encStr n) := by rw [← hW]; simp [go_sem]
      have q0_4 : W.cell? ⟨w.heap.size, 4, none⟩ = some (.int .i64 m) := by rw [← hW]; simp [go_sem]
      have q0_5 : W.cell? ⟨w.heap.size, 5, none⟩ = some (encStr t) := by rw [← hW]; simp [go_sem]
      have z0 : w.heap.size < W.heap.size := by rw [← hW]; first | (simp; done) | (simp; omega)
      have HW : Below w.heap.size w W := by rw [← hW]; exact (by repeat (first | (with_reducible assumption) | (with_reducible exact Below.refl _ _) | (with_reducible refine Below.alloc ?_ (by first | omega | (simp; omega) | (simp; done) | (dsimp only; omega)) _) | (with_reducible refine Below.setCell ?_ (by first | omega | (simp; omega) | (simp; done) | (dsimp only; omega)) _) | (with_reducible refine Below.drew ?_) | (with_reducible refine Below.trans ?_ (Below.mono (by assumption) (by first | omega | (simp; omega) | (simp; done) | (dsimp only; omega))))))
      clear hW
      go_wp2_with fail
      go_ret
      exact ⟨rfl, (by repeat (first | (with_reducible assumption) | (with_reducible exact Below.refl _ _) | (with_reducible refine Below.alloc ?_ (by first | omega | (simp; omega) | (simp; done) | (dsimp only; omega)) _) | (with_reducible refine Below.setCell ?_ (by first | omega | (simp; omega) | (simp; done) | (dsimp only; omega)) _) | (with_reducible refine Below.drew ?_) | (with_reducible refine Below.trans ?_ (Below.mono (by assumption) (by first | omega | (simp; omega) | (simp; done) | (dsimp only; omega))))))⟩
  · have hk : k = 1 ∨ k = 2 ∨ k = 3 ∨ k = 4 ∨ k = 5 ∨ k = 6 ∨ k = 7 ∨ k = 8 ∨ k = 9 := by omega
    rcases hk with rfl | rfl | rfl | rfl | rfl | rfl | rfl | rfl | rfl
    · exact order_Text_1 f d n m t w hd0 hd1 hm0 hm1 hf ht hT ho
    · exact order_Text_2 f d n m t w hd0 hd1 hm0 hm1 hf ht hT ho
    · exact order_Text_3 f d n m t w hd0 hd1 hm0 hm1 hf ht hT ho
    · by_cases hn : n = []
      · rw [show textO ⟨4, f, d, n, m, t⟩ = wordsO.getD 4 [] ++ [32] ++ textK ⟨f, d⟩ by subst hn; rfl]
        exact order_Text_4 f d n m t w hd0 hd1 hm0 hm1 hf ht hT ho hn
      · rw [show textO ⟨4, f, d, n, m, t⟩ = wordsO.getD 4 [] ++ [32] ++ textK ⟨f, d⟩ ++ [32] ++ n by unfold textO; simp [hn]]
        exact order_Text_4n f d n m t w hd0 hd1 hm0 hm1 hf ht hT ho hn
    · exact order_Text_5 f d n m t w hd0 hd1 hm0 hm1 hf ht hT ho
    · exact order_Text_6 f d n m t w hd0 hd1 hm0 hm1 hf ht hT ho
    · exact order_Text_7 f d n m t w hd0 hd1 hm0 hm1 hf ht hT ho
    · exact order_Text_8 f d n m t w hd0 hd1 hm0 hm1 hf ht hT ho
    · exact order_Text_9 f d n m t w hd0 hd1 hm0 hm1 hf ht hT ho
end Go.Proofs.YtfammopenanapaaDoor
