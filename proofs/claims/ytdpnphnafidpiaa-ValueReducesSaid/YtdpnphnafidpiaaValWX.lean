/- Texts ValW, ValX. -/
import Derived.Test.YtdpnphnafidpiaaValU
import Derived.Test.YtdpnphnafidpiaaValV
import Derived.Test.YtdpnphnafidpiaaValG
import Derived.Test.YtdpnphnafidpiaaValL
/- X-PARTIAL What sondageref08.Reduce returns; whether span and congruence know one another: layer 8. -/
namespace Go.Proofs.Ytdpnphnafidpiaa
open Go.RowKit

theorem r8_Reduce (i : In) (hi : i.ok) (n : Bool) (l : List Str) (A : Option Addr) (c : Nat) (w : World) (hm : (l.length + 1) * 16 ≤ 140737488355328) (hr : SRow w A l) :
    Calls Try.prog 8 #[.agg #[.bool i.s.s, .int .i64 i.s.lo, .int .i64 i.s.hi, .bool i.c.s, .int .i64 i.c.m, .int .i64 i.c.r, .bool n, .slice A l.length c]] w fun e w' => (∃ A' c', e = .returned (.agg #[.bool (i.red).s.s, .int .i64 (i.red).s.lo, .int .i64 (i.red).s.hi, .bool (i.red).c.s, .int .i64 (i.red).c.m, .int .i64 (i.red).c.r, .bool n, .slice A' (srt l).length c']) ∧ MadeV w.heap.size w' A' c' (srt l)) ∧ Below w.heap.size w w' := by
  have HC : Hid (∀ w', Below w.heap.size w w' → _) := Lib.hid (fun w' h => r8_Clean i hi n l A c w' hm (hr.mono h))
  have hx := In.clean_std hi
  unfold In.red
  generalize i.clean = x at *
  rcases In.red_cases hx with ⟨e0, e⟩ | ⟨h1, h2, h3, h4, e⟩ | ⟨h1, h2, h3, h4, e⟩ | ⟨h1, h2, h3, h4, e⟩ | ⟨h1, h2, h3, a, b, ea, eb, g1, g2, g3, g4, g5, g6, e⟩
  · exact r8_Reduce_1 x i n l A c w HC e0 e
  · exact r8_Reduce_2 x i n l A c w HC h1 h2 h3 h4 e
  · exact r8_Reduce_3 x i n l A c w HC h1 h2 h3 h4 e
  · exact r8_Reduce_4 x hx i n l A c w HC h1 h2 h3 h4 e
  · exact r8_Reduce_5 x hx i n l A c w HC h1 h2 h3 a b ea eb g1 g2 g3 e
end Go.Proofs.Ytdpnphnafidpiaa

/- The law ValueReduces, walked. -/
namespace Go.Proofs.Ytdpnphnafidpiaa
open Go.RowKit

theorem SRow.nil (w : World) (A : Option Addr) : SRow w A [] := by
  cases A with
  | none => rfl
  | some a => intro i hi; simp at hi

theorem In.red_has' {i : In} (hi : i.ok) (k : Int) : i.red.has k = i.has k := by
  unfold In.red; rw [In.red_has (In.clean_std hi), In.clean_has hi]
theorem In.red_std' {i : In} (hi : i.ok) : i.red.std := In.red_std (In.clean_std hi)
theorem In.red_red' {i : In} (hi : i.ok) : i.red.red = i.red := by
  have h := In.red_std' hi
  rw [show i.red.red = i.red.clean.redC from rfl, In.std_clean h]
  exact In.red_red (In.clean_std hi)
theorem In.red_leq' {i : In} (hi : i.ok) : i.red.leq i = true := by
  have h := In.red_leq (In.clean_std hi)
  unfold In.leq
  rw [In.std_clean (In.red_std' hi), Bool.and_eq_true]
  exact h
theorem leqS_self (n : Bool) (l : List Str) : leqS n (srt l) n l = true := by
  rw [leq_iff]; exact ⟨fun x h => (mem_srt _ _).1 h, fun h => h⟩
theorem num_has (k : Int) (hk : I64 k) : (In.mk (Sp.of k k) (Cg.of 0 k)).red.has k = true := by
  rw [In.red_has' ⟨Sp.of_ok hk hk, by rw [Cg.of_nil]; exact ⟨I64_0, hk⟩⟩]
  unfold In.has
  dsimp only
  rw [Sp.of_f (by omega), Sp.has_mk, Cg.of_nil, Cg.one_has _ _ hk]
  simp
theorem ints_has' (k : Int) (hk : I64 k) : (In.mk (Sp.of (-9223372036854775808) 9223372036854775807) (Cg.of 1 0)).red.has k = true := by
  rw [In.red_has' ⟨Sp.of_ok ⟨by decide, by decide⟩ ⟨by decide, by decide⟩, (Cg.of_std I64_1 I64_0).1⟩]
  unfold In.has
  dsimp only
  rw [Sp.of_f (by omega), Sp.has_mk, Cg.has_std (Cg.of_std I64_1 I64_0), Cg.of_pos 0 (by omega)]
  unfold I64 at hk
  simp
  omega

set_option maxRecDepth 100000 in
set_option maxHeartbeats 8000000 in
theorem law_valueReduces (i : In) (hi : i.ok) (n : Bool) (l : List Str) (A : Option Addr) (c : Nat) (k : Int) (hk : I64 k) (w : World) (hm : (l.length + 1) * 16 ≤ 140737488355328) (hz : A = none → c = 0) (hr : SRow w A l) :
    Calls Try.prog 3 #[.agg #[.bool i.s.s, .int .i64 i.s.lo, .int .i64 i.s.hi, .bool i.c.s, .int .i64 i.c.m, .int .i64 i.c.r, .bool n, .slice A l.length c], .int .i64 k] w fun e w' => e = .returned (.bool true) ∧ Below w.heap.size w w' := by
  have hxs := In.red_std' hi
  have hxo := In.std_ok hxs
  have hsl := srt_len_le l
  have H1 : Hid (∀ w', Below w.heap.size w w' → _) := Lib.hid (fun w' h => value_Reduce i hi n l A c w' (by omega) hz (hr.mono h))
  have H3 : Hid (∀ w', Below w.heap.size w w' → _) := Lib.hid (fun w' h => r8_Reduce i hi n l A c w' hm (hr.mono h))
  have h4 := fun A5 c5 w' => value_Reduce i.red hxo n (srt l) A5 c5 w' (by omega)
  rw [In.red_red' hi, srt_srt] at h4
  have h6 := fun A5 c5 w' => value_HasInt i.red hxo.2.1 n (srt l) A5 c5 k w'
  rw [In.red_has' hi] at h6
  have H7 := Lib.hid (fun w' => r8_HasInt i hi.2 n l A c k w')
  have h8 := fun A5 c5 w' (h : Below w.heap.size w w') (n5 : A5 = none → c5 = 0) (r5 : SRow w' A5 (srt l)) => value_Leq i.red i hxo hi n n (srt l) l A5 A c5 c w' (by omega) (by omega) n5 hz r5 (hr.mono h)
  rw [In.red_leq' hi, leqS_self] at h8
  have h9 := fun w' => value_Int i.s i.c hi.1 hi.2 w'
  rw [show (In.mk i.s i.c) = i from rfl] at h9
  have h10 := fun w' => r8_Reduce i hi false [] none 0 w' (by decide) (SRow.nil _ _)
  rw [show srt [] = [] from rfl] at h10
  have E1 : Hid (∀ A1 A3 c1 c3 w', _) := Lib.hid (fun A1 A3 c1 c3 w' => r8_Exact i.red n (srt l) A1 A3 c1 c3 w' (by omega))
  have e2 := fun A1 A3 c1 c3 w' => r8_Exact i.red false [] A1 A3 c1 c3 w' (by decide) (SRow.nil _ _) (SRow.nil _ _)
  have h12 := fun w' (h : Below w.heap.size w w') => value_Ptr n l A c w' (by omega) hz (hr.mono h)
  rw [show In.zero = ⟨⟨false, 0, 0⟩, ⟨false, 0, 0⟩⟩ from rfl] at h12
  dsimp only at h12
  have H13 : Hid (∀ w', Below w.heap.size w w' → _) := Lib.hid (fun w' h => r7_Clean n l A c w' hm (hr.mono h))
  have e3 := fun A1 A3 c1 c3 w' => r8_Exact ⟨⟨false, 0, 0⟩, ⟨false, 0, 0⟩⟩ n (srt l) A1 A3 c1 c3 w' (by omega)
  dsimp only at e3
  have hy : (In.mk (Sp.of k k) (Cg.of 0 k)).ok := ⟨Sp.of_ok hk hk, by rw [Cg.of_nil]; exact ⟨I64_0, hk⟩⟩
  have hys := In.std_ok (In.red_std' hy)
  have h2 := fun w' => value_Num k hk w'
  have h15 := fun A2 c2 w' => r8_Reduce (In.mk (Sp.of k k) (Cg.of 0 k)).red hys false [] A2 c2 w' (by decide) (SRow.nil _ _)
  rw [In.red_red' hy, show srt [] = [] from rfl] at h15
  have e4 := fun A1 A3 c1 c3 w' => r8_Exact (In.mk (Sp.of k k) (Cg.of 0 k)).red false [] A1 A3 c1 c3 w' (by decide) (SRow.nil _ _) (SRow.nil _ _)
  have h17 := fun A5 c5 w' => value_HasInt (In.mk (Sp.of k k) (Cg.of 0 k)).red hys.2.1 false [] A5 c5 k w'
  rw [num_has k hk] at h17
  have h18 := fun w' => value_Ints w'
  have hzo : (In.mk (Sp.of (-9223372036854775808) 9223372036854775807) (Cg.of 1 0)).ok := ⟨Sp.of_ok ⟨by decide, by decide⟩ ⟨by decide, by decide⟩, (Cg.of_std I64_1 I64_0).1⟩
  have h19 := fun A5 c5 w' => value_HasInt (In.mk (Sp.of (-9223372036854775808) 9223372036854775807) (Cg.of 1 0)).red (In.std_ok (In.red_std' hzo)).2.1 false [] A5 c5 k w'
  rw [ints_has' k hk] at h19
  clear hxs hxo hy hys hzo hsl hi hm hz hr
  generalize i.red = x at *
  generalize (In.mk (Sp.of k k) (Cg.of 0 k)).red = y at *
  generalize (In.mk (Sp.of (-9223372036854775808) 9223372036854775807) (Cg.of 1 0)).red = z at *
  generalize i.has k = b at *
  simp only [List.length_nil] at h2 h9 h10 e2 h15 e4 h17 h18 h19
  have H2 := Lib.hid h2
  have H4 : Hid (∀ A5 c5 w', _) := Lib.hid h4
  have H6 : Hid (∀ A5 c5 w', _) := Lib.hid h6
  have H8 : Hid (∀ A5 c5 w', _) := Lib.hid h8
  have H9 := Lib.hid h9
  have H10 := Lib.hid h10
  have E2 : Hid (∀ A1 A3 c1 c3 w', _) := Lib.hid e2
  have H12 : Hid (∀ w', Below w.heap.size w w' → _) := Lib.hid h12
  have E3 : Hid (∀ A1 A3 c1 c3 w', _) := Lib.hid e3
  have H15 : Hid (∀ A2 c2 w', _) := Lib.hid h15
  have E4 : Hid (∀ A1 A3 c1 c3 w', _) := Lib.hid e4
  have H17 : Hid (∀ A5 c5 w', _) := Lib.hid h17
  have H18 := Lib.hid h18
  have H19 : Hid (∀ A5 c5 w', _) := Lib.hid h19
  clear h2 h4 h6 h8 h9 h10 e2 h12 e3 h15 e4 h17 h18 h19
  go_enter Try.func3, Try.ntmps3
  go_upto_region 1 with fail
  generalize hW : (w.alloc (.cells #[.bool i.s.s, .int .i64 i.s.lo, .int .i64 i.s.hi, .bool i.c.s, .int .i64 i.c.m, .int .i64 i.c.r, .bool n, .slice A l.length c] 30)) = W
  have q0_0 : W.cell? ⟨w.heap.size, 0, none⟩ = some (.bool i.s.s) := by rw [← hW]; simp [go_sem]
  have q0_1 : W.cell? ⟨w.heap.size, 1, none⟩ = some (.int .i64 i.s.lo) := by rw [← hW]; simp [go_sem]
  have q0_2 : W.cell? ⟨w.heap.size, 2, none⟩ = some (.int .i64 i.s.hi) := by rw [← hW]; simp [go_sem]
  have q0_3 : W.cell? ⟨w.heap.size, 3, none⟩ = some (.bool i.c.s) := by rw [← hW]; simp [go_sem]
  have q0_4 : W.cell? ⟨w.heap.size, 4, none⟩ = some (.int .i64 i.c.m) := by rw [← hW]; simp [go_sem]
  have q0_5 : W.cell? ⟨w.heap.size, 5, none⟩ = some (.int .i64 i.c.r) := by rw [← hW]; simp [go_sem]
  have q0_6 : W.cell? ⟨w.heap.size, 6, none⟩ = some (.bool n) := by rw [← hW]; simp [go_sem]
  have q0_7 : W.cell? ⟨w.heap.size, 7, none⟩ = some (.slice A l.length c) := by rw [← hW]; simp [go_sem]
  have k0 : W.heap[w.heap.size]? = some (.cells #[.bool i.s.s, .int .i64 i.s.lo, .int .i64 i.s.hi, .bool i.c.s, .int .i64 i.c.m, .int .i64 i.c.r, .bool n, .slice A l.length c] 30 (0, 0)) := by rw [← hW]; exact al_new _ _ (by (repeat rw [al_size]) <;> rfl)
  have z0 : w.heap.size < W.heap.size := by rw [← hW]; first | (simp; done) | (simp; omega)
  have HW : Below w.heap.size w W := by rw [← hW]; exact (by repeat (first | (with_reducible assumption) | (with_reducible exact Below.refl _ _) | (with_reducible refine Below.alloc ?_ (by first | omega | (simp; omega) | (simp; done) | (dsimp only; omega)) _) | (with_reducible refine Below.setCell ?_ (by first | omega | (simp; omega) | (simp; done) | (dsimp only; omega)) _) | (with_reducible refine Below.drew ?_) | (with_reducible refine Below.trans ?_ (Below.mono (by assumption) (by first | omega | (simp; omega) | (simp; done) | (dsimp only; omega))))))
  clear hW
  clear q0_0 q0_1 q0_2 q0_3 q0_4 q0_5 q0_6 q0_7
  have kv := k0
  have gv := blk_cell kv
  have fv := blk_free kv
  have zv := blk_lt kv
  have HB := HW
  clear k0 z0 HW
  go_wp2_with fail
  go_at_call 5
  refine (H1.out _ HB).mono ?_
  rintro e u1 ⟨⟨A1, c1, rfl, m1⟩, hb1⟩
  replace kv := (hb1.block _ zv).trans kv
  replace HB := HB.trans (hb1.mono HB.size)
  clear hb1 gv fv zv
  have gv := blk_cell kv
  have fv := blk_free kv
  have zv := blk_lt kv
  have R5 := m1.2.2.1
  have n5 := m1.2.2.2.1
  clear m1
  go_upto_region 2 with fail
  have k5 := al_new u1 (.cells #[.bool x.s.s, .int .i64 x.s.lo, .int .i64 x.s.hi, .bool x.c.s, .int .i64 x.c.m, .int .i64 x.c.r, .bool n, .slice A1 (srt l).length c1] 30) rfl
  have HV : Below u1.heap.size u1 (u1.alloc (.cells #[.bool x.s.s, .int .i64 x.s.lo, .int .i64 x.s.hi, .bool x.c.s, .int .i64 x.c.m, .int .i64 x.c.r, .bool n, .slice A1 (srt l).length c1] 30)) := (by repeat (first | (with_reducible assumption) | (with_reducible exact Below.refl _ _) | (with_reducible refine Below.alloc ?_ (by first | omega | (simp; omega) | (simp; done) | (dsimp only; omega)) _) | (with_reducible refine Below.setCell ?_ (by first | omega | (simp; omega) | (simp; done) | (dsimp only; omega)) _) | (with_reducible refine Below.drew ?_) | (with_reducible refine Below.trans ?_ (Below.mono (by assumption) (by first | omega | (simp; omega) | (simp; done) | (dsimp only; omega))))))
  generalize u1.alloc (.cells #[.bool x.s.s, .int .i64 x.s.lo, .int .i64 x.s.hi, .bool x.c.s, .int .i64 x.c.m, .int .i64 x.c.r, .bool n, .slice A1 (srt l).length c1] 30) = V1 at *
  replace kv := (HV.block _ zv).trans kv
  replace R5 := R5.mono HV
  replace HB := HB.trans (HV.mono HB.size)
  clear HV gv fv zv
  have gv := blk_cell kv
  have fv := blk_free kv
  have zv := blk_lt kv
  have g5 := blk_cell k5
  have f5 := blk_free k5
  have z5 := blk_lt k5
  go_wp2_with fail
  go_at_call 6
  refine (H2.out _).mono ?_
  rintro e u2 ⟨⟨A2, c2, rfl, m2⟩, hb2⟩
  replace kv := (hb2.block _ zv).trans kv
  replace k5 := (hb2.block _ z5).trans k5
  replace R5 := R5.mono hb2
  replace HB := HB.trans (hb2.mono HB.size)
  clear hb2 gv fv zv g5 f5 z5
  have gv := blk_cell kv
  have fv := blk_free kv
  have zv := blk_lt kv
  have g5 := blk_cell k5
  have f5 := blk_free k5
  have z5 := blk_lt k5
  clear m2
  go_wp2_with fail
  have k6 := al_new u2 (.cells #[.bool y.s.s, .int .i64 y.s.lo, .int .i64 y.s.hi, .bool y.c.s, .int .i64 y.c.m, .int .i64 y.c.r, .bool false, .slice A2 0 c2] 30) rfl
  have HV : Below u2.heap.size u2 (u2.alloc (.cells #[.bool y.s.s, .int .i64 y.s.lo, .int .i64 y.s.hi, .bool y.c.s, .int .i64 y.c.m, .int .i64 y.c.r, .bool false, .slice A2 0 c2] 30)) := (by repeat (first | (with_reducible assumption) | (with_reducible exact Below.refl _ _) | (with_reducible refine Below.alloc ?_ (by first | omega | (simp; omega) | (simp; done) | (dsimp only; omega)) _) | (with_reducible refine Below.setCell ?_ (by first | omega | (simp; omega) | (simp; done) | (dsimp only; omega)) _) | (with_reducible refine Below.drew ?_) | (with_reducible refine Below.trans ?_ (Below.mono (by assumption) (by first | omega | (simp; omega) | (simp; done) | (dsimp only; omega))))))
  generalize u2.alloc (.cells #[.bool y.s.s, .int .i64 y.s.lo, .int .i64 y.s.hi, .bool y.c.s, .int .i64 y.c.m, .int .i64 y.c.r, .bool false, .slice A2 0 c2] 30) = V2 at *
  replace kv := (HV.block _ zv).trans kv
  replace k5 := (HV.block _ z5).trans k5
  replace R5 := R5.mono HV
  replace HB := HB.trans (HV.mono HB.size)
  clear HV gv fv zv g5 f5 z5
  have gv := blk_cell kv
  have fv := blk_free kv
  have zv := blk_lt kv
  have g5 := blk_cell k5
  have f5 := blk_free k5
  have z5 := blk_lt k5
  have g6 := blk_cell k6
  have f6 := blk_free k6
  have z6 := blk_lt k6
  have HR5 := Lib.hid R5
  have HN5 := Lib.hid n5
  clear R5 n5 fv f5 f6 kv k5 k6
  refine region_seqg (W := V2) [_, _, _, _, _, _, _, _, _, _, _, _, _, _, _, _, _, _, _, _, _, _, _, _, _, _, _, _, _, _, _, _, _, _, _, _, _, _, _, _, _, _, _, _, _, _, _, _, _, _, _, _, _, _, _, _, _, _, _, _, _, _, _, _, _, _, _, _] [] rfl (by kernel_rfl) (by kernel_rfl) (by repeat (first | (with_reducible assumption) | (with_reducible exact Below.refl _ _) | (with_reducible refine Below.alloc ?_ (by first | omega | (simp; omega) | (simp; done) | (dsimp only; omega)) _) | (with_reducible refine Below.setCell ?_ (by first | omega | (simp; omega) | (simp; done) | (dsimp only; omega)) _) | (with_reducible refine Below.drew ?_) | (with_reducible refine Below.trans ?_ (Below.mono (by assumption) (by first | omega | (simp; omega) | (simp; done) | (dsimp only; omega)))))) (fun fin hfin => ?_)
  iterate 2
    first
      | (refine SeqG.yes (v := ?_) (A' := ?_) rfl (fun γ => by rfl) ?_ ?_ ?_
         rotate_left 2
         · intro γ w' K hS hK
           obtain ⟨hc, hf⟩ := bcell hS
           have hz := hS.size
           go_simp
           first
             | exact hK.out _ (Below.refl _ _)
             | (go_at_call 9; (with_reducible refine (H6.out _ _ w').mono ?_); rintro e w1 ⟨rfl, hb1⟩; exact hK.out _ hb1)
             | (go_at_call 9; (with_reducible refine (H17.out _ _ w').mono ?_); rintro e w1 ⟨rfl, hb1⟩; exact hK.out _ hb1)
             | (go_at_call 10; (with_reducible refine (H7.out w').mono ?_); rintro e w1 ⟨rfl, hb1⟩; exact hK.out _ hb1)
             | (go_at_call 11; (with_reducible refine (H8.out A1 c1 w' (HB.trans (hS.mono HB.size)) HN5.out (HR5.out.mono hS)).mono ?_); rintro e w1 ⟨rfl, hb1⟩; exact hK.out _ hb1)
             | (go_at_call 16; (with_reducible refine (law08_lives w').mono ?_); rintro e w1 ⟨rfl, hb1⟩; exact hK.out _ hb1)
             | trace_state
         · intro γ; simp only [Act.put, List.setIfInBounds_toArray, List.set_cons_zero, List.set_cons_succ]; exact rfl)
      | (refine SeqG.no (A' := ?_) rfl (fun γ => by rfl) ?_ ?_
         rotate_left
         · intro γ; simp only [Act.put, List.setIfInBounds_toArray, List.set_cons_zero, List.set_cons_succ]; exact rfl)
  refine SeqG.make (k := 2) (A' := ?_) (fun g => .agg #[.bool x.s.s, .int .i64 x.s.lo, .int .i64 x.s.hi, .bool x.c.s, .int .i64 x.c.m, .int .i64 x.c.r, .bool n, .slice (gA g) (srt l).length (g 2)]) (RSetG (srt l)) rfl (fun γ => by rfl) (RSetG.stable _) ?_ ?_ ?_
  rotate_left
  · intro γ w' K hS hF hK
    obtain ⟨hc, hf⟩ := bcell hS
    have hz := hS.size
    go_simp
    (go_at_call 8; refine (H3.out w' (HB.trans (hS.mono HB.size))).mono ?_; rintro e w1 ⟨⟨A1, c1, rfl, hmade⟩, hb1⟩; obtain ⟨g, rfl, rfl, hg⟩ := MadeV.ghost hmade (by omega) (lo := w'.heap.size); exact hK.out g w1 hb1 hg)
  · intro γ; simp only [Act.put, List.setIfInBounds_toArray, List.set_cons_zero, List.set_cons_succ]; exact rfl
  refine SeqG.make (k := 3) (A' := ?_) (fun _ => .bool true) (fun _ _ _ _ => True) rfl (fun γ => by rfl) (Stable.true) ?_ ?_ ?_
  rotate_left
  · intro γ w' K hS hF hK
    obtain ⟨hc, hf⟩ := bcell hS
    have hz := hS.size
    obtain ⟨_, _, _, _, r2, m2, t2, n2, _⟩ := hF (2, RSetG (srt l)) (by simp) (reachL_spec (of_decide_eq_true (by kernel_rfl)))
    go_simp
    (go_at_call 7; refine (E1.out A1 _ c1 _ w' (HR5.out.mono hS) r2).mono ?_; rintro e w1 ⟨rfl, hb1⟩; exact hK.out (fun _ => 0) w1 hb1 trivial)
  · intro γ; simp only [Act.put, List.setIfInBounds_toArray, List.set_cons_zero, List.set_cons_succ]; exact rfl
  iterate 2
    first
      | (refine SeqG.yes (v := ?_) (A' := ?_) rfl (fun γ => by rfl) ?_ ?_ ?_
         rotate_left 2
         · intro γ w' K hS hK
           obtain ⟨hc, hf⟩ := bcell hS
           have hz := hS.size
           go_simp
           first
             | exact hK.out _ (Below.refl _ _)
             | (go_at_call 9; (with_reducible refine (H6.out _ _ w').mono ?_); rintro e w1 ⟨rfl, hb1⟩; exact hK.out _ hb1)
             | (go_at_call 9; (with_reducible refine (H17.out _ _ w').mono ?_); rintro e w1 ⟨rfl, hb1⟩; exact hK.out _ hb1)
             | (go_at_call 10; (with_reducible refine (H7.out w').mono ?_); rintro e w1 ⟨rfl, hb1⟩; exact hK.out _ hb1)
             | (go_at_call 11; (with_reducible refine (H8.out A1 c1 w' (HB.trans (hS.mono HB.size)) HN5.out (HR5.out.mono hS)).mono ?_); rintro e w1 ⟨rfl, hb1⟩; exact hK.out _ hb1)
             | (go_at_call 16; (with_reducible refine (law08_lives w').mono ?_); rintro e w1 ⟨rfl, hb1⟩; exact hK.out _ hb1)
             | trace_state
         · intro γ; simp only [Act.put, List.setIfInBounds_toArray, List.set_cons_zero, List.set_cons_succ]; exact rfl)
      | (refine SeqG.no (A' := ?_) rfl (fun γ => by rfl) ?_ ?_
         rotate_left
         · intro γ; simp only [Act.put, List.setIfInBounds_toArray, List.set_cons_zero, List.set_cons_succ]; exact rfl)
  refine SeqG.make (k := 6) (A' := ?_) (fun g => .agg #[.bool x.s.s, .int .i64 x.s.lo, .int .i64 x.s.hi, .bool x.c.s, .int .i64 x.c.m, .int .i64 x.c.r, .bool n, .slice (gA g) (srt l).length (g 2)]) (RSetG (srt l)) rfl (fun γ => by rfl) (RSetG.stable _) ?_ ?_ ?_
  rotate_left
  · intro γ w' K hS hF hK
    obtain ⟨hc, hf⟩ := bcell hS
    have hz := hS.size
    go_simp
    (go_at_call 5; refine (H4.out A1 c1 w' HN5.out (HR5.out.mono hS)).mono ?_; rintro e w1 ⟨⟨A1, c1, rfl, hmade⟩, hb1⟩; obtain ⟨g, rfl, rfl, hg⟩ := MadeV.ghost hmade (by omega) (lo := w'.heap.size); exact hK.out g w1 hb1 hg)
  · intro γ; simp only [Act.put, List.setIfInBounds_toArray, List.set_cons_zero, List.set_cons_succ]; exact rfl
  iterate 1
    first
      | (refine SeqG.yes (v := ?_) (A' := ?_) rfl (fun γ => by rfl) ?_ ?_ ?_
         rotate_left 2
         · intro γ w' K hS hK
           obtain ⟨hc, hf⟩ := bcell hS
           have hz := hS.size
           go_simp
           first
             | exact hK.out _ (Below.refl _ _)
             | (go_at_call 9; (with_reducible refine (H6.out _ _ w').mono ?_); rintro e w1 ⟨rfl, hb1⟩; exact hK.out _ hb1)
             | (go_at_call 9; (with_reducible refine (H17.out _ _ w').mono ?_); rintro e w1 ⟨rfl, hb1⟩; exact hK.out _ hb1)
             | (go_at_call 10; (with_reducible refine (H7.out w').mono ?_); rintro e w1 ⟨rfl, hb1⟩; exact hK.out _ hb1)
             | (go_at_call 11; (with_reducible refine (H8.out A1 c1 w' (HB.trans (hS.mono HB.size)) HN5.out (HR5.out.mono hS)).mono ?_); rintro e w1 ⟨rfl, hb1⟩; exact hK.out _ hb1)
             | (go_at_call 16; (with_reducible refine (law08_lives w').mono ?_); rintro e w1 ⟨rfl, hb1⟩; exact hK.out _ hb1)
             | trace_state
         · intro γ; simp only [Act.put, List.setIfInBounds_toArray, List.set_cons_zero, List.set_cons_succ]; exact rfl)
      | (refine SeqG.no (A' := ?_) rfl (fun γ => by rfl) ?_ ?_
         rotate_left
         · intro γ; simp only [Act.put, List.setIfInBounds_toArray, List.set_cons_zero, List.set_cons_succ]; exact rfl)
  refine SeqG.make (k := 8) (A' := ?_) (fun _ => .bool true) (fun _ _ _ _ => True) rfl (fun γ => by rfl) (Stable.true) ?_ ?_ ?_
  rotate_left
  · intro γ w' K hS hF hK
    obtain ⟨hc, hf⟩ := bcell hS
    have hz := hS.size
    obtain ⟨_, _, _, _, r6, m6, t6, n6, _⟩ := hF (6, RSetG (srt l)) (by simp) (reachL_spec (of_decide_eq_true (by kernel_rfl)))
    go_simp
    (go_at_call 7; refine (E1.out _ A1 _ c1 w' r6 (HR5.out.mono hS)).mono ?_; rintro e w1 ⟨rfl, hb1⟩; exact hK.out (fun _ => 0) w1 hb1 trivial)
  · intro γ; simp only [Act.put, List.setIfInBounds_toArray, List.set_cons_zero, List.set_cons_succ]; exact rfl
  iterate 20
    first
      | (refine SeqG.yes (v := ?_) (A' := ?_) rfl (fun γ => by rfl) ?_ ?_ ?_
         rotate_left 2
         · intro γ w' K hS hK
           obtain ⟨hc, hf⟩ := bcell hS
           have hz := hS.size
           go_simp
           first
             | exact hK.out _ (Below.refl _ _)
             | (go_at_call 9; (with_reducible refine (H6.out _ _ w').mono ?_); rintro e w1 ⟨rfl, hb1⟩; exact hK.out _ hb1)
             | (go_at_call 9; (with_reducible refine (H17.out _ _ w').mono ?_); rintro e w1 ⟨rfl, hb1⟩; exact hK.out _ hb1)
             | (go_at_call 10; (with_reducible refine (H7.out w').mono ?_); rintro e w1 ⟨rfl, hb1⟩; exact hK.out _ hb1)
             | (go_at_call 11; (with_reducible refine (H8.out A1 c1 w' (HB.trans (hS.mono HB.size)) HN5.out (HR5.out.mono hS)).mono ?_); rintro e w1 ⟨rfl, hb1⟩; exact hK.out _ hb1)
             | (go_at_call 16; (with_reducible refine (law08_lives w').mono ?_); rintro e w1 ⟨rfl, hb1⟩; exact hK.out _ hb1)
             | trace_state
         · intro γ; simp only [Act.put, List.setIfInBounds_toArray, List.set_cons_zero, List.set_cons_succ]; exact rfl)
      | (refine SeqG.no (A' := ?_) rfl (fun γ => by rfl) ?_ ?_
         rotate_left
         · intro γ; simp only [Act.put, List.setIfInBounds_toArray, List.set_cons_zero, List.set_cons_succ]; exact rfl)
  refine SeqG.make (k := 29) (A' := ?_) (fun g => .agg #[.bool x.s.s, .int .i64 x.s.lo, .int .i64 x.s.hi, .bool x.c.s, .int .i64 x.c.m, .int .i64 x.c.r, .bool false, .slice (gA g) 0 (g 2)]) (RSetG (([] : List Str))) rfl (fun γ => by rfl) (RSetG.stable _) ?_ ?_ ?_
  rotate_left
  · intro γ w' K hS hF hK
    obtain ⟨hc, hf⟩ := bcell hS
    have hz := hS.size
    go_simp
    (go_at_call 12; refine (H9.out w').mono ?_; rintro e w1 ⟨⟨A1, c1, rfl, hmade⟩, hb1⟩; obtain ⟨g, rfl, rfl, hg⟩ := MadeV.ghost hmade (by omega) (lo := w'.heap.size); exact hK.out g w1 hb1 hg)
  · intro γ; simp only [Act.put, List.setIfInBounds_toArray, List.set_cons_zero, List.set_cons_succ]; exact rfl
  iterate 5
    first
      | (refine SeqG.yes (v := ?_) (A' := ?_) rfl (fun γ => by rfl) ?_ ?_ ?_
         rotate_left 2
         · intro γ w' K hS hK
           obtain ⟨hc, hf⟩ := bcell hS
           have hz := hS.size
           go_simp
           first
             | exact hK.out _ (Below.refl _ _)
             | (go_at_call 9; (with_reducible refine (H6.out _ _ w').mono ?_); rintro e w1 ⟨rfl, hb1⟩; exact hK.out _ hb1)
             | (go_at_call 9; (with_reducible refine (H17.out _ _ w').mono ?_); rintro e w1 ⟨rfl, hb1⟩; exact hK.out _ hb1)
             | (go_at_call 10; (with_reducible refine (H7.out w').mono ?_); rintro e w1 ⟨rfl, hb1⟩; exact hK.out _ hb1)
             | (go_at_call 11; (with_reducible refine (H8.out A1 c1 w' (HB.trans (hS.mono HB.size)) HN5.out (HR5.out.mono hS)).mono ?_); rintro e w1 ⟨rfl, hb1⟩; exact hK.out _ hb1)
             | (go_at_call 16; (with_reducible refine (law08_lives w').mono ?_); rintro e w1 ⟨rfl, hb1⟩; exact hK.out _ hb1)
             | trace_state
         · intro γ; simp only [Act.put, List.setIfInBounds_toArray, List.set_cons_zero, List.set_cons_succ]; exact rfl)
      | (refine SeqG.no (A' := ?_) rfl (fun γ => by rfl) ?_ ?_
         rotate_left
         · intro γ; simp only [Act.put, List.setIfInBounds_toArray, List.set_cons_zero, List.set_cons_succ]; exact rfl)
  refine SeqG.make (k := 35) (A' := ?_) (fun g => .agg #[.bool x.s.s, .int .i64 x.s.lo, .int .i64 x.s.hi, .bool x.c.s, .int .i64 x.c.m, .int .i64 x.c.r, .bool false, .slice (gA g) 0 (g 2)]) (RSetG (([] : List Str))) rfl (fun γ => by rfl) (RSetG.stable _) ?_ ?_ ?_
  rotate_left
  · intro γ w' K hS hF hK
    obtain ⟨hc, hf⟩ := bcell hS
    have hz := hS.size
    go_simp
    (go_at_call 8; refine (H10.out w').mono ?_; rintro e w1 ⟨⟨A1, c1, rfl, hmade⟩, hb1⟩; obtain ⟨g, rfl, rfl, hg⟩ := MadeV.ghost hmade (by omega) (lo := w'.heap.size); exact hK.out g w1 hb1 hg)
  · intro γ; simp only [Act.put, List.setIfInBounds_toArray, List.set_cons_zero, List.set_cons_succ]; exact rfl
  refine SeqG.make (k := 36) (A' := ?_) (fun _ => .bool true) (fun _ _ _ _ => True) rfl (fun γ => by rfl) (Stable.true) ?_ ?_ ?_
  rotate_left
  · intro γ w' K hS hF hK
    obtain ⟨hc, hf⟩ := bcell hS
    have hz := hS.size
    obtain ⟨_, _, _, _, r29, m29, t29, n29, _⟩ := hF (29, RSetG (([] : List Str))) (by simp) (reachL_spec (of_decide_eq_true (by kernel_rfl)))
    obtain ⟨_, _, _, _, r35, m35, t35, n35, _⟩ := hF (35, RSetG (([] : List Str))) (by simp) (reachL_spec (of_decide_eq_true (by kernel_rfl)))
    go_simp
    (go_at_call 7; refine (E2.out _ _ _ _ w').mono ?_; rintro e w1 ⟨rfl, hb1⟩; exact hK.out (fun _ => 0) w1 hb1 trivial)
  · intro γ; simp only [Act.put, List.setIfInBounds_toArray, List.set_cons_zero, List.set_cons_succ]; exact rfl
  iterate 4
    first
      | (refine SeqG.yes (v := ?_) (A' := ?_) rfl (fun γ => by rfl) ?_ ?_ ?_
         rotate_left 2
         · intro γ w' K hS hK
           obtain ⟨hc, hf⟩ := bcell hS
           have hz := hS.size
           go_simp
           first
             | exact hK.out _ (Below.refl _ _)
             | (go_at_call 9; (with_reducible refine (H6.out _ _ w').mono ?_); rintro e w1 ⟨rfl, hb1⟩; exact hK.out _ hb1)
             | (go_at_call 9; (with_reducible refine (H17.out _ _ w').mono ?_); rintro e w1 ⟨rfl, hb1⟩; exact hK.out _ hb1)
             | (go_at_call 10; (with_reducible refine (H7.out w').mono ?_); rintro e w1 ⟨rfl, hb1⟩; exact hK.out _ hb1)
             | (go_at_call 11; (with_reducible refine (H8.out A1 c1 w' (HB.trans (hS.mono HB.size)) HN5.out (HR5.out.mono hS)).mono ?_); rintro e w1 ⟨rfl, hb1⟩; exact hK.out _ hb1)
             | (go_at_call 16; (with_reducible refine (law08_lives w').mono ?_); rintro e w1 ⟨rfl, hb1⟩; exact hK.out _ hb1)
             | trace_state
         · intro γ; simp only [Act.put, List.setIfInBounds_toArray, List.set_cons_zero, List.set_cons_succ]; exact rfl)
      | (refine SeqG.no (A' := ?_) rfl (fun γ => by rfl) ?_ ?_
         rotate_left
         · intro γ; simp only [Act.put, List.setIfInBounds_toArray, List.set_cons_zero, List.set_cons_succ]; exact rfl)
  refine SeqG.make (k := 41) (A' := ?_) (fun g => .agg #[.bool false, .int .i64 0, .int .i64 0, .bool false, .int .i64 0, .int .i64 0, .bool n, .slice (gA g) (srt l).length (g 2)]) (RSetG (srt l)) rfl (fun γ => by rfl) (RSetG.stable _) ?_ ?_ ?_
  rotate_left
  · intro γ w' K hS hF hK
    obtain ⟨hc, hf⟩ := bcell hS
    have hz := hS.size
    go_simp
    (go_at_call 13; refine (H12.out w' (HB.trans (hS.mono HB.size))).mono ?_; rintro e w1 ⟨⟨A1, c1, rfl, hmade⟩, hb1⟩; obtain ⟨g, rfl, rfl, hg⟩ := MadeV.ghost hmade (by omega) (lo := w'.heap.size); exact hK.out g w1 hb1 hg)
  · intro γ; simp only [Act.put, List.setIfInBounds_toArray, List.set_cons_zero, List.set_cons_succ]; exact rfl
  iterate 2
    first
      | (refine SeqG.yes (v := ?_) (A' := ?_) rfl (fun γ => by rfl) ?_ ?_ ?_
         rotate_left 2
         · intro γ w' K hS hK
           obtain ⟨hc, hf⟩ := bcell hS
           have hz := hS.size
           go_simp
           first
             | exact hK.out _ (Below.refl _ _)
             | (go_at_call 9; (with_reducible refine (H6.out _ _ w').mono ?_); rintro e w1 ⟨rfl, hb1⟩; exact hK.out _ hb1)
             | (go_at_call 9; (with_reducible refine (H17.out _ _ w').mono ?_); rintro e w1 ⟨rfl, hb1⟩; exact hK.out _ hb1)
             | (go_at_call 10; (with_reducible refine (H7.out w').mono ?_); rintro e w1 ⟨rfl, hb1⟩; exact hK.out _ hb1)
             | (go_at_call 11; (with_reducible refine (H8.out A1 c1 w' (HB.trans (hS.mono HB.size)) HN5.out (HR5.out.mono hS)).mono ?_); rintro e w1 ⟨rfl, hb1⟩; exact hK.out _ hb1)
             | (go_at_call 16; (with_reducible refine (law08_lives w').mono ?_); rintro e w1 ⟨rfl, hb1⟩; exact hK.out _ hb1)
             | trace_state
         · intro γ; simp only [Act.put, List.setIfInBounds_toArray, List.set_cons_zero, List.set_cons_succ]; exact rfl)
      | (refine SeqG.no (A' := ?_) rfl (fun γ => by rfl) ?_ ?_
         rotate_left
         · intro γ; simp only [Act.put, List.setIfInBounds_toArray, List.set_cons_zero, List.set_cons_succ]; exact rfl)
  refine SeqG.make (k := 44) (A' := ?_) (fun g => .agg #[.bool (n), .slice (gA g) (srt l).length (g 2)]) (RSetG (srt l)) rfl (fun γ => by rfl) (RSetG.stable _) ?_ ?_ ?_
  rotate_left
  · intro γ w' K hS hF hK
    obtain ⟨hc, hf⟩ := bcell hS
    have hz := hS.size
    go_simp
    (go_at_call 14; refine (H13.out w' (HB.trans (hS.mono HB.size))).mono ?_; rintro e w1 ⟨⟨v, rfl, hset⟩, hb1⟩; obtain ⟨g, rfl, hg⟩ := SetV.ghost hset (by omega) (lo := w'.heap.size); exact hK.out g w1 hb1 hg)
  · intro γ; simp only [Act.put, List.setIfInBounds_toArray, List.set_cons_zero, List.set_cons_succ]; exact rfl
  refine SeqG.hang (k := 45) (A' := ?_) (fun γ => .agg #[.bool false, .int .i64 0, .int .i64 0, .bool false, .int .i64 0, .int .i64 0, .bool n, .slice (gA (γ 44)) (srt l).length (γ 44 2)]) rfl (fun γ => by rfl) (fun i _ hn γ g => ?_) (fun γ g => ?_) ?_ ?_ ?_
  rotate_left
  · have hne44 : 44 ≠ i := fun e => hn (by rw [← e]; exact reachL_spec (of_decide_eq_true (by kernel_rfl)))
    (try dsimp only); rw [updG_ne γ g hne44]
  · (try dsimp only); rw [updG_ne γ g (show 44 ≠ 45 by decide)]
  · intro γ w' K hS _ hK
    obtain ⟨hc, hf⟩ := bcell hS
    have hz := hS.size
    go_simp
    exact hK.out _ (Below.refl _ _)
  · intro γ; simp only [Act.put, List.setIfInBounds_toArray, List.set_cons_zero, List.set_cons_succ]; exact rfl
  refine SeqG.make (k := 46) (A' := ?_) (fun _ => .bool true) (fun _ _ _ _ => True) rfl (fun γ => by rfl) (Stable.true) ?_ ?_ ?_
  rotate_left
  · intro γ w' K hS hF hK
    obtain ⟨hc, hf⟩ := bcell hS
    have hz := hS.size
    obtain ⟨_, _, _, _, r41, m41, t41, n41, _⟩ := hF (41, RSetG (srt l)) (by simp) (reachL_spec (of_decide_eq_true (by kernel_rfl)))
    obtain ⟨_, _, _, _, r44, m44, t44, n44, _⟩ := hF (44, RSetG (srt l)) (by simp) (reachL_spec (of_decide_eq_true (by kernel_rfl)))
    go_simp
    (go_at_call 7; refine (E3.out _ _ _ _ w' r41 r44).mono ?_; rintro e w1 ⟨rfl, hb1⟩; exact hK.out (fun _ => 0) w1 hb1 trivial)
  · intro γ; simp only [Act.put, List.setIfInBounds_toArray, List.set_cons_zero, List.set_cons_succ]; exact rfl
  iterate 4
    first
      | (refine SeqG.yes (v := ?_) (A' := ?_) rfl (fun γ => by rfl) ?_ ?_ ?_
         rotate_left 2
         · intro γ w' K hS hK
           obtain ⟨hc, hf⟩ := bcell hS
           have hz := hS.size
           go_simp
           first
             | exact hK.out _ (Below.refl _ _)
             | (go_at_call 9; (with_reducible refine (H6.out _ _ w').mono ?_); rintro e w1 ⟨rfl, hb1⟩; exact hK.out _ hb1)
             | (go_at_call 9; (with_reducible refine (H17.out _ _ w').mono ?_); rintro e w1 ⟨rfl, hb1⟩; exact hK.out _ hb1)
             | (go_at_call 10; (with_reducible refine (H7.out w').mono ?_); rintro e w1 ⟨rfl, hb1⟩; exact hK.out _ hb1)
             | (go_at_call 11; (with_reducible refine (H8.out A1 c1 w' (HB.trans (hS.mono HB.size)) HN5.out (HR5.out.mono hS)).mono ?_); rintro e w1 ⟨rfl, hb1⟩; exact hK.out _ hb1)
             | (go_at_call 16; (with_reducible refine (law08_lives w').mono ?_); rintro e w1 ⟨rfl, hb1⟩; exact hK.out _ hb1)
             | trace_state
         · intro γ; simp only [Act.put, List.setIfInBounds_toArray, List.set_cons_zero, List.set_cons_succ]; exact rfl)
      | (refine SeqG.no (A' := ?_) rfl (fun γ => by rfl) ?_ ?_
         rotate_left
         · intro γ; simp only [Act.put, List.setIfInBounds_toArray, List.set_cons_zero, List.set_cons_succ]; exact rfl)
  refine SeqG.make (k := 51) (A' := ?_) (fun g => .agg #[.bool y.s.s, .int .i64 y.s.lo, .int .i64 y.s.hi, .bool y.c.s, .int .i64 y.c.m, .int .i64 y.c.r, .bool false, .slice (gA g) 0 (g 2)]) (RSetG (([] : List Str))) rfl (fun γ => by rfl) (RSetG.stable _) ?_ ?_ ?_
  rotate_left
  · intro γ w' K hS hF hK
    obtain ⟨hc, hf⟩ := bcell hS
    have hz := hS.size
    go_simp
    (go_at_call 8; refine (H15.out A2 c2 w').mono ?_; rintro e w1 ⟨⟨A1, c1, rfl, hmade⟩, hb1⟩; obtain ⟨g, rfl, rfl, hg⟩ := MadeV.ghost hmade (by omega) (lo := w'.heap.size); exact hK.out g w1 hb1 hg)
  · intro γ; simp only [Act.put, List.setIfInBounds_toArray, List.set_cons_zero, List.set_cons_succ]; exact rfl
  refine SeqG.make (k := 52) (A' := ?_) (fun _ => .bool true) (fun _ _ _ _ => True) rfl (fun γ => by rfl) (Stable.true) ?_ ?_ ?_
  rotate_left
  · intro γ w' K hS hF hK
    obtain ⟨hc, hf⟩ := bcell hS
    have hz := hS.size
    obtain ⟨_, _, _, _, r51, m51, t51, n51, _⟩ := hF (51, RSetG (([] : List Str))) (by simp) (reachL_spec (of_decide_eq_true (by kernel_rfl)))
    go_simp
    (go_at_call 7; refine (E4.out A2 _ c2 _ w').mono ?_; rintro e w1 ⟨rfl, hb1⟩; exact hK.out (fun _ => 0) w1 hb1 trivial)
  · intro γ; simp only [Act.put, List.setIfInBounds_toArray, List.set_cons_zero, List.set_cons_succ]; exact rfl
  iterate 7
    first
      | (refine SeqG.yes (v := ?_) (A' := ?_) rfl (fun γ => by rfl) ?_ ?_ ?_
         rotate_left 2
         · intro γ w' K hS hK
           obtain ⟨hc, hf⟩ := bcell hS
           have hz := hS.size
           go_simp
           first
             | exact hK.out _ (Below.refl _ _)
             | (go_at_call 9; (with_reducible refine (H6.out _ _ w').mono ?_); rintro e w1 ⟨rfl, hb1⟩; exact hK.out _ hb1)
             | (go_at_call 9; (with_reducible refine (H17.out _ _ w').mono ?_); rintro e w1 ⟨rfl, hb1⟩; exact hK.out _ hb1)
             | (go_at_call 10; (with_reducible refine (H7.out w').mono ?_); rintro e w1 ⟨rfl, hb1⟩; exact hK.out _ hb1)
             | (go_at_call 11; (with_reducible refine (H8.out A1 c1 w' (HB.trans (hS.mono HB.size)) HN5.out (HR5.out.mono hS)).mono ?_); rintro e w1 ⟨rfl, hb1⟩; exact hK.out _ hb1)
             | (go_at_call 16; (with_reducible refine (law08_lives w').mono ?_); rintro e w1 ⟨rfl, hb1⟩; exact hK.out _ hb1)
             | trace_state
         · intro γ; simp only [Act.put, List.setIfInBounds_toArray, List.set_cons_zero, List.set_cons_succ]; exact rfl)
      | (refine SeqG.no (A' := ?_) rfl (fun γ => by rfl) ?_ ?_
         rotate_left
         · intro γ; simp only [Act.put, List.setIfInBounds_toArray, List.set_cons_zero, List.set_cons_succ]; exact rfl)
  refine SeqG.make (k := 60) (A' := ?_) (fun g => .agg #[.bool z.s.s, .int .i64 z.s.lo, .int .i64 z.s.hi, .bool z.c.s, .int .i64 z.c.m, .int .i64 z.c.r, .bool false, .slice (gA g) 0 (g 2)]) (RSetG (([] : List Str))) rfl (fun γ => by rfl) (RSetG.stable _) ?_ ?_ ?_
  rotate_left
  · intro γ w' K hS hF hK
    obtain ⟨hc, hf⟩ := bcell hS
    have hz := hS.size
    go_simp
    (go_at_call 15; refine (H18.out w').mono ?_; rintro e w1 ⟨⟨A1, c1, rfl, hmade⟩, hb1⟩; obtain ⟨g, rfl, rfl, hg⟩ := MadeV.ghost hmade (by omega) (lo := w'.heap.size); exact hK.out g w1 hb1 hg)
  · intro γ; simp only [Act.put, List.setIfInBounds_toArray, List.set_cons_zero, List.set_cons_succ]; exact rfl
  iterate 1
    first
      | (refine SeqG.yes (v := ?_) (A' := ?_) rfl (fun γ => by rfl) ?_ ?_ ?_
         rotate_left 2
         · intro γ w' K hS hK
           obtain ⟨hc, hf⟩ := bcell hS
           have hz := hS.size
           go_simp
           first
             | exact hK.out _ (Below.refl _ _)
             | (go_at_call 9; (with_reducible refine (H6.out _ _ w').mono ?_); rintro e w1 ⟨rfl, hb1⟩; exact hK.out _ hb1)
             | (go_at_call 9; (with_reducible refine (H17.out _ _ w').mono ?_); rintro e w1 ⟨rfl, hb1⟩; exact hK.out _ hb1)
             | (go_at_call 10; (with_reducible refine (H7.out w').mono ?_); rintro e w1 ⟨rfl, hb1⟩; exact hK.out _ hb1)
             | (go_at_call 11; (with_reducible refine (H8.out A1 c1 w' (HB.trans (hS.mono HB.size)) HN5.out (HR5.out.mono hS)).mono ?_); rintro e w1 ⟨rfl, hb1⟩; exact hK.out _ hb1)
             | (go_at_call 16; (with_reducible refine (law08_lives w').mono ?_); rintro e w1 ⟨rfl, hb1⟩; exact hK.out _ hb1)
             | trace_state
         · intro γ; simp only [Act.put, List.setIfInBounds_toArray, List.set_cons_zero, List.set_cons_succ]; exact rfl)
      | (refine SeqG.no (A' := ?_) rfl (fun γ => by rfl) ?_ ?_
         rotate_left
         · intro γ; simp only [Act.put, List.setIfInBounds_toArray, List.set_cons_zero, List.set_cons_succ]; exact rfl)
  refine SeqG.make (k := 62) (A' := ?_) (fun _ => .bool true) (fun _ _ _ _ => True) rfl (fun γ => by rfl) (Stable.true) ?_ ?_ ?_
  rotate_left
  · intro γ w' K hS hF hK
    obtain ⟨hc, hf⟩ := bcell hS
    have hz := hS.size
    obtain ⟨_, _, _, _, r60, m60, t60, n60, _⟩ := hF (60, RSetG (([] : List Str))) (by simp) (reachL_spec (of_decide_eq_true (by kernel_rfl)))
    go_simp
    (go_at_call 9; refine (H19.out _ _ w').mono ?_; rintro e w1 ⟨rfl, hb1⟩; exact hK.out (fun _ => 0) w1 hb1 trivial)
  · intro γ; simp only [Act.put, List.setIfInBounds_toArray, List.set_cons_zero, List.set_cons_succ]; exact rfl
  iterate 5
    first
      | (refine SeqG.yes (v := ?_) (A' := ?_) rfl (fun γ => by rfl) ?_ ?_ ?_
         rotate_left 2
         · intro γ w' K hS hK
           obtain ⟨hc, hf⟩ := bcell hS
           have hz := hS.size
           go_simp
           first
             | exact hK.out _ (Below.refl _ _)
             | (go_at_call 9; (with_reducible refine (H6.out _ _ w').mono ?_); rintro e w1 ⟨rfl, hb1⟩; exact hK.out _ hb1)
             | (go_at_call 9; (with_reducible refine (H17.out _ _ w').mono ?_); rintro e w1 ⟨rfl, hb1⟩; exact hK.out _ hb1)
             | (go_at_call 10; (with_reducible refine (H7.out w').mono ?_); rintro e w1 ⟨rfl, hb1⟩; exact hK.out _ hb1)
             | (go_at_call 11; (with_reducible refine (H8.out A1 c1 w' (HB.trans (hS.mono HB.size)) HN5.out (HR5.out.mono hS)).mono ?_); rintro e w1 ⟨rfl, hb1⟩; exact hK.out _ hb1)
             | (go_at_call 16; (with_reducible refine (law08_lives w').mono ?_); rintro e w1 ⟨rfl, hb1⟩; exact hK.out _ hb1)
             | trace_state
         · intro γ; simp only [Act.put, List.setIfInBounds_toArray, List.set_cons_zero, List.set_cons_succ]; exact rfl)
      | (refine SeqG.no (A' := ?_) rfl (fun γ => by rfl) ?_ ?_
         rotate_left
         · intro γ; simp only [Act.put, List.setIfInBounds_toArray, List.set_cons_zero, List.set_cons_succ]; exact rfl)
  refine SeqG.nil (hfin.out _ _ ?_)
  clear hfin fin
  intro γ lo hi w1 hB1 hF hD
  clear hF hD
  refine TailL.nil ?_
  go_wp2
  go_ret
  exact ⟨rfl, HB.trans (hB1.mono HB.size)⟩
end Go.Proofs.Ytdpnphnafidpiaa
