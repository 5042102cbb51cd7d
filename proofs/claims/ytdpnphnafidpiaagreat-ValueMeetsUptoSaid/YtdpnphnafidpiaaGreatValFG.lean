/- Texts ValF, ValG. -/
import Derived.Test.YtdpnphnafidpiaaGreatValDE
import Derived.Deep.MidRow
/- X-PARTIAL What value.Int, Num, Ints, Ptr return: layer 8. -/
namespace Go.Proofs.YtdpnphnafidpiaaGreat
open Go.RowKit

/-- Eight cells stored one after another. -/
def st8 (w : World) (b : Nat) (v0 v1 v2 v3 v4 v5 v6 v7 : Value) : World :=
  (((((((w.setCell ⟨b, 0, none⟩ v0).setCell ⟨b, 1, none⟩ v1).setCell ⟨b, 2, none⟩ v2).setCell ⟨b, 3, none⟩ v3).setCell ⟨b, 4, none⟩ v4).setCell ⟨b, 5, none⟩ v5).setCell ⟨b, 6, none⟩ v6).setCell ⟨b, 7, none⟩ v7
theorem st8_fold (w : World) (b : Nat) (v0 v1 v2 v3 v4 v5 v6 v7 : Value) :
  (((((((w.setCell ⟨b, 0, none⟩ v0).setCell ⟨b, 1, none⟩ v1).setCell ⟨b, 2, none⟩ v2).setCell ⟨b, 3, none⟩ v3).setCell ⟨b, 4, none⟩ v4).setCell ⟨b, 5, none⟩ v5).setCell ⟨b, 6, none⟩ v6).setCell ⟨b, 7, none⟩ v7 = st8 w b v0 v1 v2 v3 v4 v5 v6 v7 := rfl
theorem st8_blk {w : World} {b : Nat} {c0 c1 c2 c3 c4 c5 c6 c7 v0 v1 v2 v3 v4 v5 v6 v7 : Value} {t : TypeId} (h : w.heap[b]? = some (.cells #[c0, c1, c2, c3, c4, c5, c6, c7] t)) :
    (st8 w b v0 v1 v2 v3 v4 v5 v6 v7).heap[b]? = some (.cells #[v0, v1, v2, v3, v4, v5, v6, v7] t) := by
  unfold st8
  simp [World.setCell, Array.getElem?_modify, h]
theorem st8_far (w : World) (b : Nat) {v0 v1 v2 v3 v4 v5 v6 v7 : Value} {k : Nat} (h : k ≠ b) : (st8 w b v0 v1 v2 v3 v4 v5 v6 v7).heap[k]? = w.heap[k]? := by
  unfold st8
  iterate 8 (refine (Below.heap_setCell _ _ _ _ (fun e => h e)).trans ?_)
  rfl
theorem st8_cell (w : World) (b : Nat) {v0 v1 v2 v3 v4 v5 v6 v7 : Value} {p : Addr} (h : p.block ≠ b) : (st8 w b v0 v1 v2 v3 v4 v5 v6 v7).cell? p = w.cell? p := by
  unfold st8
  iterate 8 rw [World.cell?_setCell_far _ _ _ _ (fun e => h e.symm)]
theorem st8_below {W w : World} {b n : Nat} {v0 v1 v2 v3 v4 v5 v6 v7 : Value} (h : Below n W w) (hb : n ≤ b) : Below n W (st8 w b v0 v1 v2 v3 v4 v5 v6 v7) := by
  unfold st8
  iterate 8 (refine Below.setCell ?_ (by dsimp only; omega) _)
  exact h
theorem st8_there {w : World} {b : Nat} {c0 c1 c2 c3 c4 c5 c6 c7 : Value} {t : TypeId} (hb : w.heap[b]? = some (.cells #[c0, c1, c2, c3, c4, c5, c6, c7] t)) : w.there b 0 8 := fun j hj => by
  rw [Nat.zero_add]
  refine ⟨?_, blk_free hb j⟩
  rw [blk_cell hb j, Array.getElem?_eq_getElem (show j < 8 from hj)]
  rfl
theorem st8_set (w : World) (b : Nat) (v0 v1 v2 v3 v4 v5 v6 v7 : Value) : w.setCells b 0 (#[v0, v1, v2, v3, v4, v5, v6, v7] : Array Value).toList = st8 w b v0 v1 v2 v3 v4 v5 v6 v7 := rfl

theorem leqS_srt (na nb : Bool) (la lb : List Str) : leqS na (srt la) nb (srt lb) = leqS na la nb lb := by
  rw [Bool.eq_iff_iff, leq_iff, leq_iff]
  simp only [mem_srt]
theorem In.lit (s : Sp) (c : Cg) : (In.mk s c).s = s ∧ (In.mk s c).c = c := ⟨rfl, rfl⟩

set_option maxRecDepth 100000 in
set_option maxHeartbeats 4000000 in
theorem value_Int (s : Sp) (c : Cg) (hs : s.ok) (hc : c.ok) (w : World) :
    Calls Tryz.prog 39 #[.agg #[.bool s.s, .int .i64 s.lo, .int .i64 s.hi], .agg #[.bool c.s, .int .i64 c.m, .int .i64 c.r]] w fun e w' => (∃ A' c', e = .returned (.agg #[.bool ((In.mk s c).red).s.s, .int .i64 ((In.mk s c).red).s.lo, .int .i64 ((In.mk s c).red).s.hi, .bool ((In.mk s c).red).c.s, .int .i64 ((In.mk s c).red).c.m, .int .i64 ((In.mk s c).red).c.r, .bool false, .slice A' (([] : List Str)).length c']) ∧ MadeV w.heap.size w' A' c' []) ∧ Below w.heap.size w w' := by
  have h1 := fun w' => value_Reduce ⟨s, c⟩ ⟨hs, hc⟩ false [] none 0 w' (by simp) (fun _ => rfl) rfl
  dsimp only at h1
  rw [show srt [] = [] from rfl] at h1
  simp only [List.length_nil] at h1 ⊢
  have H1 := Lib.hid h1
  clear h1 hs hc
  generalize (In.mk s c).red = x at *
  go_enter Tryz.func39, Tryz.ntmps39
  go_upto_region 1 with fail
  generalize hW : (((w.alloc (.cells #[.bool s.s, .int .i64 s.lo, .int .i64 s.hi] 23)).alloc (.cells #[.bool c.s, .int .i64 c.m, .int .i64 c.r] 25)).alloc (.cells #[.bool false, .int .i64 0, .int .i64 0, .bool false, .int .i64 0, .int .i64 0, .bool false, .slice none 0 0] 30)) = W
  have q0_0 : W.cell? ⟨w.heap.size, 0, none⟩ = some (.bool s.s) := by rw [← hW]; simp [go_sem]
  have q0_1 : W.cell? ⟨w.heap.size, 1, none⟩ = some (.int .i64 s.lo) := by rw [← hW]; simp [go_sem]
  have q0_2 : W.cell? ⟨w.heap.size, 2, none⟩ = some (.int .i64 s.hi) := by rw [← hW]; simp [go_sem]
  have q1_0 : W.cell? ⟨w.heap.size + 1, 0, none⟩ = some (.bool c.s) := by rw [← hW]; simp [go_sem]
  have q1_1 : W.cell? ⟨w.heap.size + 1, 1, none⟩ = some (.int .i64 c.m) := by rw [← hW]; simp [go_sem]
  have q1_2 : W.cell? ⟨w.heap.size + 1, 2, none⟩ = some (.int .i64 c.r) := by rw [← hW]; simp [go_sem]
  have q2_0 : W.cell? ⟨w.heap.size + 1 + 1, 0, none⟩ = some (.bool false) := by rw [← hW]; simp [go_sem]
  have q2_1 : W.cell? ⟨w.heap.size + 1 + 1, 1, none⟩ = some (.int .i64 0) := by rw [← hW]; simp [go_sem]
  have q2_2 : W.cell? ⟨w.heap.size + 1 + 1, 2, none⟩ = some (.int .i64 0) := by rw [← hW]; simp [go_sem]
  have q2_3 : W.cell? ⟨w.heap.size + 1 + 1, 3, none⟩ = some (.bool false) := by rw [← hW]; simp [go_sem]
  have q2_4 : W.cell? ⟨w.heap.size + 1 + 1, 4, none⟩ = some (.int .i64 0) := by rw [← hW]; simp [go_sem]
  have q2_5 : W.cell? ⟨w.heap.size + 1 + 1, 5, none⟩ = some (.int .i64 0) := by rw [← hW]; simp [go_sem]
  have q2_6 : W.cell? ⟨w.heap.size + 1 + 1, 6, none⟩ = some (.bool false) := by rw [← hW]; simp [go_sem]
  have q2_7 : W.cell? ⟨w.heap.size + 1 + 1, 7, none⟩ = some (.slice none 0 0) := by rw [← hW]; simp [go_sem]
  have f0 : ∀ o, W.frozen? ⟨w.heap.size, o, none⟩ = false := by intro o; rw [← hW]; simp [go_sem]
  have f1 : ∀ o, W.frozen? ⟨w.heap.size + 1, o, none⟩ = false := by intro o; rw [← hW]; simp [go_sem]
  have f2 : ∀ o, W.frozen? ⟨w.heap.size + 1 + 1, o, none⟩ = false := by intro o; rw [← hW]; simp [go_sem]
  have z0 : w.heap.size < W.heap.size := by rw [← hW]; first | (simp; done) | (simp; omega)
  have z1 : w.heap.size + 1 < W.heap.size := by rw [← hW]; first | (simp; done) | (simp; omega)
  have z2 : w.heap.size + 1 + 1 < W.heap.size := by rw [← hW]; first | (simp; done) | (simp; omega)
  have HW : Below w.heap.size w W := by rw [← hW]; exact (by repeat (first | (with_reducible assumption) | (with_reducible exact Below.refl _ _) | (with_reducible refine Below.alloc ?_ (by first | omega | (simp; omega) | (simp; done) | (dsimp only; omega)) _) | (with_reducible refine Below.setCell ?_ (by first | omega | (simp; omega) | (simp; done) | (dsimp only; omega)) _) | (with_reducible refine Below.drew ?_) | (with_reducible refine Below.trans ?_ (Below.mono (by assumption) (by first | omega | (simp; omega) | (simp; done) | (dsimp only; omega))))))
  clear hW
  go_wp2_with fail
  go_at_call 41
  refine (H1.out _).mono ?_
  rintro e w2 ⟨⟨A2, c2, rfl, hM⟩, hb2⟩
  replace f2 := fun o => (hb2.frozen (p := ⟨w.heap.size + 1 + 1, o, none⟩) z2).trans (f2 o)
  have HB := HW.trans (hb2.mono HW.size)
  have zz := z2
  replace q0_0 := (hb2.cell (p := ⟨w.heap.size, 0, none⟩) z0).trans q0_0
  replace q0_1 := (hb2.cell (p := ⟨w.heap.size, 1, none⟩) z0).trans q0_1
  replace q0_2 := (hb2.cell (p := ⟨w.heap.size, 2, none⟩) z0).trans q0_2
  replace q1_0 := (hb2.cell (p := ⟨w.heap.size + 1, 0, none⟩) z1).trans q1_0
  replace q1_1 := (hb2.cell (p := ⟨w.heap.size + 1, 1, none⟩) z1).trans q1_1
  replace q1_2 := (hb2.cell (p := ⟨w.heap.size + 1, 2, none⟩) z1).trans q1_2
  replace q2_0 := (hb2.cell (p := ⟨w.heap.size + 1 + 1, 0, none⟩) z2).trans q2_0
  replace q2_1 := (hb2.cell (p := ⟨w.heap.size + 1 + 1, 1, none⟩) z2).trans q2_1
  replace q2_2 := (hb2.cell (p := ⟨w.heap.size + 1 + 1, 2, none⟩) z2).trans q2_2
  replace q2_3 := (hb2.cell (p := ⟨w.heap.size + 1 + 1, 3, none⟩) z2).trans q2_3
  replace q2_4 := (hb2.cell (p := ⟨w.heap.size + 1 + 1, 4, none⟩) z2).trans q2_4
  replace q2_5 := (hb2.cell (p := ⟨w.heap.size + 1 + 1, 5, none⟩) z2).trans q2_5
  replace q2_6 := (hb2.cell (p := ⟨w.heap.size + 1 + 1, 6, none⟩) z2).trans q2_6
  replace q2_7 := (hb2.cell (p := ⟨w.heap.size + 1 + 1, 7, none⟩) z2).trans q2_7
  replace z0 := Nat.lt_of_lt_of_le z0 hb2.size
  replace z1 := Nat.lt_of_lt_of_le z1 hb2.size
  replace z2 := Nat.lt_of_lt_of_le z2 hb2.size
  clear hb2 f0 f1
  go_wp2
  refine bodyPost_ret (by simp [results, Tryz.results39, go_sem, *] <;> rfl) rfl ⟨⟨A2, c2, rfl, (by (refine MadeV.base (b := w.heap.size + 3) ?_ (by omega)); (repeat refine MadeV.setCell ?_ (by first | omega | (simp; omega)) _); first | exact hM | exact hM.base (by omega))⟩, (by repeat (first | (with_reducible assumption) | (with_reducible exact Below.refl _ _) | (with_reducible refine Below.alloc ?_ (by first | omega | (simp; omega) | (simp; done) | (dsimp only; omega)) _) | (with_reducible refine Below.setCell ?_ (by first | omega | (simp; omega) | (simp; done) | (dsimp only; omega)) _) | (with_reducible refine Below.drew ?_) | (with_reducible refine Below.trans ?_ (Below.mono (by assumption) (by first | omega | (simp; omega) | (simp; done) | (dsimp only; omega))))))⟩

end Go.Proofs.YtdpnphnafidpiaaGreat

/- X-PARTIAL What value.Leq, Same return: layer 8. -/
namespace Go.Proofs.YtdpnphnafidpiaaGreat
open Go.RowKit

set_option maxRecDepth 100000 in
set_option maxHeartbeats 8000000 in
theorem value_Leq (a b : In) (ha : a.ok) (hb : b.ok) (na nb : Bool) (la lb : List Str) (A B : Option Addr) (ca cb : Nat) (w : World) (hma : la.length * 16 ≤ 140737488355328) (hmb : lb.length * 16 ≤ 140737488355328) (hza : A = none → ca = 0) (hzb : B = none → cb = 0) (hra : SRow w A la) (hrb : SRow w B lb) :
    Calls Tryz.prog 15 #[.agg #[.bool a.s.s, .int .i64 a.s.lo, .int .i64 a.s.hi, .bool a.c.s, .int .i64 a.c.m, .int .i64 a.c.r, .bool na, .slice A la.length ca], .agg #[.bool b.s.s, .int .i64 b.s.lo, .int .i64 b.s.hi, .bool b.c.s, .int .i64 b.c.m, .int .i64 b.c.r, .bool nb, .slice B lb.length cb]] w fun e w' => e = .returned (.bool (a.leq b && leqS na la nb lb)) ∧ Below w.heap.size w w' := by
  have HA : Hid (∀ w', Below w.heap.size w w' → _) := Lib.hid (fun w' h => value_split a ha na la A ca w' hma hza (hra.mono h))
  have HB : Hid (∀ w', Below w.heap.size w w' → _) := Lib.hid (fun w' h => value_split b hb nb lb B cb w' hmb hzb (hrb.mono h))
  have hxo := In.std_ok (In.clean_std ha)
  have hyo := In.std_ok (In.clean_std hb)
  have hla := srt_len_le la
  have hlb := srt_len_le lb
  unfold In.leq
  generalize a.clean = x at *
  generalize b.clean = y at *
  have h1 := span_leq x.s y.s
  have h2 := cong_leq x.c y.c hxo.2 hyo.2
  have h3 := fun A1 A3 c1 c3 w' => names_Leq na nb (srt la) (srt lb) A1 A3 c1 c3 w' (by omega) (by omega)
  rw [leqS_srt] at h3
  have H3 : Hid (∀ A1 A3 c1 c3 w', _) := Lib.hid h3
  generalize leqS na la nb lb = p at *
  generalize x.s.leq y.s = b1 at *
  generalize x.c.leq y.c = b2 at *
  have H1 := Lib.hid h1
  have H2 := Lib.hid h2
  clear h1 h2 h3 hra hrb ha hb hxo hyo
  go_enter Tryz.func15, Tryz.ntmps15
  go_upto_region 1 with fail
  generalize hW : ((w.alloc (.cells #[.bool a.s.s, .int .i64 a.s.lo, .int .i64 a.s.hi, .bool a.c.s, .int .i64 a.c.m, .int .i64 a.c.r, .bool na, .slice A la.length ca] 30)).alloc (.cells #[.bool b.s.s, .int .i64 b.s.lo, .int .i64 b.s.hi, .bool b.c.s, .int .i64 b.c.m, .int .i64 b.c.r, .bool nb, .slice B lb.length cb] 30)) = W
  have q0_0 : W.cell? ⟨w.heap.size, 0, none⟩ = some (.bool a.s.s) := by rw [← hW]; simp [go_sem]
  have q0_1 : W.cell? ⟨w.heap.size, 1, none⟩ = some (.int .i64 a.s.lo) := by rw [← hW]; simp [go_sem]
  have q0_2 : W.cell? ⟨w.heap.size, 2, none⟩ = some (.int .i64 a.s.hi) := by rw [← hW]; simp [go_sem]
  have q0_3 : W.cell? ⟨w.heap.size, 3, none⟩ = some (.bool a.c.s) := by rw [← hW]; simp [go_sem]
  have q0_4 : W.cell? ⟨w.heap.size, 4, none⟩ = some (.int .i64 a.c.m) := by rw [← hW]; simp [go_sem]
  have q0_5 : W.cell? ⟨w.heap.size, 5, none⟩ = some (.int .i64 a.c.r) := by rw [← hW]; simp [go_sem]
  have q0_6 : W.cell? ⟨w.heap.size, 6, none⟩ = some (.bool na) := by rw [← hW]; simp [go_sem]
  have q0_7 : W.cell? ⟨w.heap.size, 7, none⟩ = some (.slice A la.length ca) := by rw [← hW]; simp [go_sem]
  have q1_0 : W.cell? ⟨w.heap.size + 1, 0, none⟩ = some (.bool b.s.s) := by rw [← hW]; simp [go_sem]
  have q1_1 : W.cell? ⟨w.heap.size + 1, 1, none⟩ = some (.int .i64 b.s.lo) := by rw [← hW]; simp [go_sem]
  have q1_2 : W.cell? ⟨w.heap.size + 1, 2, none⟩ = some (.int .i64 b.s.hi) := by rw [← hW]; simp [go_sem]
  have q1_3 : W.cell? ⟨w.heap.size + 1, 3, none⟩ = some (.bool b.c.s) := by rw [← hW]; simp [go_sem]
  have q1_4 : W.cell? ⟨w.heap.size + 1, 4, none⟩ = some (.int .i64 b.c.m) := by rw [← hW]; simp [go_sem]
  have q1_5 : W.cell? ⟨w.heap.size + 1, 5, none⟩ = some (.int .i64 b.c.r) := by rw [← hW]; simp [go_sem]
  have q1_6 : W.cell? ⟨w.heap.size + 1, 6, none⟩ = some (.bool nb) := by rw [← hW]; simp [go_sem]
  have q1_7 : W.cell? ⟨w.heap.size + 1, 7, none⟩ = some (.slice B lb.length cb) := by rw [← hW]; simp [go_sem]
  have f0 : ∀ o, W.frozen? ⟨w.heap.size, o, none⟩ = false := by intro o; rw [← hW]; simp [go_sem]
  have f1 : ∀ o, W.frozen? ⟨w.heap.size + 1, o, none⟩ = false := by intro o; rw [← hW]; simp [go_sem]
  have z0 : w.heap.size < W.heap.size := by rw [← hW]; first | (simp; done) | (simp; omega)
  have z1 : w.heap.size + 1 < W.heap.size := by rw [← hW]; first | (simp; done) | (simp; omega)
  have HW : Below w.heap.size w W := by rw [← hW]; exact (by repeat (first | (with_reducible assumption) | (with_reducible exact Below.refl _ _) | (with_reducible refine Below.alloc ?_ (by first | omega | (simp; omega) | (simp; done) | (dsimp only; omega)) _) | (with_reducible refine Below.setCell ?_ (by first | omega | (simp; omega) | (simp; done) | (dsimp only; omega)) _) | (with_reducible refine Below.drew ?_) | (with_reducible refine Below.trans ?_ (Below.mono (by assumption) (by first | omega | (simp; omega) | (simp; done) | (dsimp only; omega))))))
  clear hW
  clear f0 f1
  refine region_seqg (W := W) [_, _, _, _, _, _] [_, _] rfl (by kernel_rfl) (by kernel_rfl) (by repeat (first | (with_reducible assumption) | (with_reducible exact Below.refl _ _) | (with_reducible refine Below.alloc ?_ (by first | omega | (simp; omega) | (simp; done) | (dsimp only; omega)) _) | (with_reducible refine Below.setCell ?_ (by first | omega | (simp; omega) | (simp; done) | (dsimp only; omega)) _) | (with_reducible refine Below.drew ?_) | (with_reducible refine Below.trans ?_ (Below.mono (by assumption) (by first | omega | (simp; omega) | (simp; done) | (dsimp only; omega)))))) (fun fin hfin => ?_)
  iterate 1
    first
      | (refine SeqG.yes (v := ?_) (A' := ?_) rfl (fun γ => by rfl) ?_ ?_ ?_
         rotate_left 2
         · intro γ w' K hS hK
           obtain ⟨hc, hf⟩ := bcell hS
           have hz := hS.size
           go_simp
           first
             | exact hK.out _ (Below.refl _ _)
             | trace_state
         · intro γ; simp only [Act.put, List.setIfInBounds_toArray, List.set_cons_zero, List.set_cons_succ]; exact rfl)
      | (refine SeqG.no (A' := ?_) rfl (fun γ => by rfl) ?_ ?_
         rotate_left
         · intro γ; simp only [Act.put, List.setIfInBounds_toArray, List.set_cons_zero, List.set_cons_succ]; exact rfl)
  refine SeqG.make (k := 1) (A' := ?_) (fun g => .agg #[.bool x.s.s, .int .i64 x.s.lo, .int .i64 x.s.hi, .bool x.c.s, .int .i64 x.c.m, .int .i64 x.c.r, .bool na, .slice (gA g) (srt la).length (g 2)]) (RSetG (srt la)) rfl (fun γ => by rfl) (RSetG.stable _) ?_ ?_ ?_
  rotate_left
  · intro γ w' K hS hF hK
    obtain ⟨hc, hf⟩ := bcell hS
    have hz := hS.size
    go_simp
    (go_at_call 23; refine (HA.out w' (HW.trans (hS.mono HW.size))).mono ?_; rintro e w1 ⟨⟨A1, c1, rfl, hmade⟩, hb1⟩; obtain ⟨g, rfl, rfl, hg⟩ := MadeV.ghost hmade (by omega) (lo := w'.heap.size); exact hK.out g w1 hb1 hg)
  · intro γ; simp only [Act.put, List.setIfInBounds_toArray, List.set_cons_zero, List.set_cons_succ]; exact rfl
  iterate 1
    first
      | (refine SeqG.yes (v := ?_) (A' := ?_) rfl (fun γ => by rfl) ?_ ?_ ?_
         rotate_left 2
         · intro γ w' K hS hK
           obtain ⟨hc, hf⟩ := bcell hS
           have hz := hS.size
           go_simp
           first
             | exact hK.out _ (Below.refl _ _)
             | trace_state
         · intro γ; simp only [Act.put, List.setIfInBounds_toArray, List.set_cons_zero, List.set_cons_succ]; exact rfl)
      | (refine SeqG.no (A' := ?_) rfl (fun γ => by rfl) ?_ ?_
         rotate_left
         · intro γ; simp only [Act.put, List.setIfInBounds_toArray, List.set_cons_zero, List.set_cons_succ]; exact rfl)
  refine SeqG.make (k := 3) (A' := ?_) (fun g => .agg #[.bool y.s.s, .int .i64 y.s.lo, .int .i64 y.s.hi, .bool y.c.s, .int .i64 y.c.m, .int .i64 y.c.r, .bool nb, .slice (gA g) (srt lb).length (g 2)]) (RSetG (srt lb)) rfl (fun γ => by rfl) (RSetG.stable _) ?_ ?_ ?_
  rotate_left
  · intro γ w' K hS hF hK
    obtain ⟨hc, hf⟩ := bcell hS
    have hz := hS.size
    go_simp
    (go_at_call 23; refine (HB.out w' (HW.trans (hS.mono HW.size))).mono ?_; rintro e w1 ⟨⟨A1, c1, rfl, hmade⟩, hb1⟩; obtain ⟨g, rfl, rfl, hg⟩ := MadeV.ghost hmade (by omega) (lo := w'.heap.size); exact hK.out g w1 hb1 hg)
  · intro γ; simp only [Act.put, List.setIfInBounds_toArray, List.set_cons_zero, List.set_cons_succ]; exact rfl
  refine SeqG.make (k := 4) (A' := ?_) (fun g => .pointer (some ⟨g 0, 0, none⟩)) (RCell #[.bool false, .int .i64 0, .int .i64 0, .bool false, .int .i64 0, .int .i64 0, .bool false, .slice none 0 0] 55) rfl (fun γ => by rfl) (RCell.stable _ _) ?_ ?_ ?_
  rotate_left
  · intro γ w' K hS _ hK
    have hm := RCell.made (#[.bool false, .int .i64 0, .int .i64 0, .bool false, .int .i64 0, .int .i64 0, .bool false, .slice none 0 0]) (55) w'
    have HK := Lib.hid (hK.out (fun _ => w'.heap.size) (w'.alloc (.cells #[.bool false, .int .i64 0, .int .i64 0, .bool false, .int .i64 0, .int .i64 0, .bool false, .slice none 0 0] 55)) ((Below.refl _ _).alloc (Nat.le_refl _) _) hm); clear hK hm
    go_simp
    exact HK.out
  · intro γ; simp only [Act.put, List.setIfInBounds_toArray, List.set_cons_zero, List.set_cons_succ]; exact rfl
  refine SeqG.make (k := 5) (A' := ?_) (fun g => .pointer (some ⟨g 0, 0, none⟩)) (RCell #[.bool false, .int .i64 0, .int .i64 0, .bool false, .int .i64 0, .int .i64 0, .bool false, .slice none 0 0] 55) rfl (fun γ => by rfl) (RCell.stable _ _) ?_ ?_ ?_
  rotate_left
  · intro γ w' K hS _ hK
    have hm := RCell.made (#[.bool false, .int .i64 0, .int .i64 0, .bool false, .int .i64 0, .int .i64 0, .bool false, .slice none 0 0]) (55) w'
    have HK := Lib.hid (hK.out (fun _ => w'.heap.size) (w'.alloc (.cells #[.bool false, .int .i64 0, .int .i64 0, .bool false, .int .i64 0, .int .i64 0, .bool false, .slice none 0 0] 55)) ((Below.refl _ _).alloc (Nat.le_refl _) _) hm); clear hK hm
    go_simp
    exact HK.out
  · intro γ; simp only [Act.put, List.setIfInBounds_toArray, List.set_cons_zero, List.set_cons_succ]; exact rfl
  refine SeqG.nil (hfin.out _ _ ?_)
  clear hfin fin
  intro γ lo hi w1 hB1 hF hD
  replace hF := listF4 hF
  dsimp only at hF
  replace hD := listD4 hD
  dsimp only at hD
  obtain ⟨hD0, hD1, hD2, hD3, hD4, hD5⟩ := hD
  replace hD0 := hD0 (by decide)
  replace hD1 := hD1 (by decide)
  replace hD2 := hD2 (by decide)
  replace hD3 := hD3 (by decide)
  replace hD4 := hD4 (by decide)
  replace hD5 := hD5 (by decide)
  obtain ⟨⟨y1, l1, o1, r1, m1, t1, n1, s1⟩, ⟨y3, l3, o3, r3, m3, t3, n3, s3⟩, ⟨y4, l4, o4, p4, p4', h4⟩, ⟨y5, l5, o5, p5, p5', h5⟩⟩ := hF
  have w4 : W.heap.size ≤ γ 4 0 := by omega
  have w5 : W.heap.size ≤ γ 5 0 := by omega
  have x4 : γ 4 0 < w1.heap.size := by omega
  have x5 : γ 5 0 < w1.heap.size := by omega
  have n45 : γ 4 0 ≠ γ 5 0 := by omega
  have F1 : ∀ a, gA (γ 1) = some a → srt la ≠ [] → a.block ≠ γ 4 0 ∧ a.block ≠ γ 5 0 := fun a e hne => by
    have h1 := (s1 a e).1; have h2 := (s1 a e).2 hne; omega
  have F3 : ∀ a, gA (γ 3) = some a → srt lb ≠ [] → a.block ≠ γ 4 0 ∧ a.block ≠ γ 5 0 := fun a e hne => by
    have h1 := (s3 a e).1; have h2 := (s3 a e).2 hne; omega
  clear hD0 hD1 hD2 hD3 hD4 hD5 s1 s3 y1 l1 o1 y3 l3 o3 y4 l4 o4 p4 p4' y5 l5 o5 p5 p5' m1 t1 m3 t3
  generalize γ 4 0 = bp at *
  generalize γ 5 0 = bq at *
  generalize gA (γ 1) = A1 at *
  generalize γ 1 2 = c1 at *
  generalize gA (γ 3) = A3 at *
  generalize γ 3 2 = c3 at *
  have n54 := Ne.symm n45
  have H4 := Lib.hid h4; have H5 := Lib.hid h5; have HF1 := Lib.hid F1; have HF3 := Lib.hid F3; have HR1 := Lib.hid r1; have HR3 := Lib.hid r3; have HN1 := Lib.hid n1; have HN3 := Lib.hid n3
  clear h4 h5 F1 F3 r1 r3 n1 n3
  refine TailL.cons (fun K hK => ?_)
  refine wp_store_mid _ _ _ rfl bp 0 _ rfl rfl (st8_there H4.out) (by kernel_rfl) (by simp [Value.oneCell']) ?_
  rw [st8_set]
  generalize hX1 : st8 w1 bp (.bool x.s.s) (.int .i64 x.s.lo) (.int .i64 x.s.hi) (.bool x.c.s) (.int .i64 x.c.m) (.int .i64 x.c.r) (.bool na) (.slice A1 (srt la).length c1) = X1
  have K4 := Lib.hid (show X1.heap[bp]? = some (.cells #[.bool x.s.s, .int .i64 x.s.lo, .int .i64 x.s.hi, .bool x.c.s, .int .i64 x.c.m, .int .i64 x.c.r, .bool na, .slice A1 (srt la).length c1] 55) by rw [← hX1]; exact st8_blk H4.out)
  have K5 := Lib.hid ((show X1.heap[bq]? = w1.heap[bq]? by rw [← hX1]; exact st8_far _ _ n54).trans H5.out)
  have HX1 : Below W.heap.size W X1 := by rw [← hX1]; exact st8_below hB1 w4
  have Q1 := Lib.hid (show SRow X1 A1 (srt la) from HR1.out.far (fun a e hne p hp => by rw [← hX1]; exact st8_cell _ _ (by rw [hp]; exact (HF1.out a e hne).1)))
  have Q3 := Lib.hid (show SRow X1 A3 (srt lb) from HR3.out.far (fun a e hne p hp => by rw [← hX1]; exact st8_cell _ _ (by rw [hp]; exact (HF3.out a e hne).1)))
  clear hX1 H4 H5 HR1 HR3 hB1 x4 x5
  refine hK.out _ _ ?_
  clear hK K
  refine TailL.cons (fun K hK => ?_)
  refine wp_store_mid _ _ _ rfl bq 0 _ rfl rfl (st8_there K5.out) (by kernel_rfl) (by simp [Value.oneCell']) ?_
  rw [st8_set]
  generalize hX : st8 X1 bq (.bool y.s.s) (.int .i64 y.s.lo) (.int .i64 y.s.hi) (.bool y.c.s) (.int .i64 y.c.m) (.int .i64 y.c.r) (.bool nb) (.slice A3 (srt lb).length c3) = X
  have kp : X.heap[bp]? = some (.cells #[.bool x.s.s, .int .i64 x.s.lo, .int .i64 x.s.hi, .bool x.c.s, .int .i64 x.c.m, .int .i64 x.c.r, .bool na, .slice A1 (srt la).length c1] 55) := by rw [← hX]; exact (st8_far _ _ n45).trans K4.out
  have kq : X.heap[bq]? = some (.cells #[.bool y.s.s, .int .i64 y.s.lo, .int .i64 y.s.hi, .bool y.c.s, .int .i64 y.c.m, .int .i64 y.c.r, .bool nb, .slice A3 (srt lb).length c3] 55) := by rw [← hX]; exact st8_blk K5.out
  have HX : Below W.heap.size W X := by rw [← hX]; exact st8_below HX1 w5
  have R1 : SRow X A1 (srt la) := Q1.out.far (fun a e hne p hp => by rw [← hX]; exact st8_cell _ _ (by rw [hp]; exact (HF1.out a e hne).2))
  have R3 : SRow X A3 (srt lb) := Q3.out.far (fun a e hne p hp => by rw [← hX]; exact st8_cell _ _ (by rw [hp]; exact (HF3.out a e hne).2))
  clear hX K4 K5 HF1 HF3 Q1 Q3 HX1
  refine hK.out _ _ ?_
  clear hK K
  simp only [Act.put]
  refine TailL.nil ?_
  have hwb : w.heap.size ≤ W.heap.size := by omega
  clear q0_0 q0_1 q0_2 q0_3 q0_4 q0_5 q0_6 q0_7 q1_0 q1_1 q1_2 q1_3 q1_4 q1_5 q1_6 q1_7 HA HB HN1 HN3 hla hlb hza hzb
  have p_0 := blk_cell kp 0
  have p_1 := blk_cell kp 1
  have p_2 := blk_cell kp 2
  have p_3 := blk_cell kp 3
  have p_4 := blk_cell kp 4
  have p_5 := blk_cell kp 5
  have p_6 := blk_cell kp 6
  have p_7 := blk_cell kp 7
  simp only [List.getElem?_toArray, List.getElem?_cons_zero, List.getElem?_cons_succ] at p_0 p_1 p_2 p_3 p_4 p_5 p_6 p_7
  have fp := blk_free kp
  have zp := blk_lt kp
  have q_0 := blk_cell kq 0
  have q_1 := blk_cell kq 1
  have q_2 := blk_cell kq 2
  have q_3 := blk_cell kq 3
  have q_4 := blk_cell kq 4
  have q_5 := blk_cell kq 5
  have q_6 := blk_cell kq 6
  have q_7 := blk_cell kq 7
  simp only [List.getElem?_toArray, List.getElem?_cons_zero, List.getElem?_cons_succ] at q_0 q_1 q_2 q_3 q_4 q_5 q_6 q_7
  have fq := blk_free kq
  have zq := blk_lt kq
  have HB := HW.trans (HX.mono hwb)
  cases b1
  · go_wp2_with fail
    go_at_call 48
    refine (H1.out _).mono ?_
    rintro e w2 ⟨rfl, hb2⟩
    go_wp2
    go_ret
    exact ⟨rfl, HB.trans (hb2.mono HB.size)⟩
  · cases b2
    all_goals
      go_wp2_with fail
      go_at_call 48
      refine (H1.out _).mono ?_
      rintro e w2 ⟨rfl, hb2⟩
      have k2 := (hb2.block _ zp).trans kp
      have j2 := (hb2.block _ zq).trans kq
      replace HB := HB.trans (hb2.mono HB.size)
      replace R1 := R1.mono hb2
      replace R3 := R3.mono hb2
      clear p_0 p_1 p_2 p_3 p_4 p_5 p_6 p_7 q_0 q_1 q_2 q_3 q_4 q_5 q_6 q_7 fp fq zp zq kp kq hb2 HX
      have p_0 := blk_cell k2 0
      have p_1 := blk_cell k2 1
      have p_2 := blk_cell k2 2
      have p_3 := blk_cell k2 3
      have p_4 := blk_cell k2 4
      have p_5 := blk_cell k2 5
      have p_6 := blk_cell k2 6
      have p_7 := blk_cell k2 7
      simp only [List.getElem?_toArray, List.getElem?_cons_zero, List.getElem?_cons_succ] at p_0 p_1 p_2 p_3 p_4 p_5 p_6 p_7
      have fp := blk_free k2
      have zp := blk_lt k2
      have q_0 := blk_cell j2 0
      have q_1 := blk_cell j2 1
      have q_2 := blk_cell j2 2
      have q_3 := blk_cell j2 3
      have q_4 := blk_cell j2 4
      have q_5 := blk_cell j2 5
      have q_6 := blk_cell j2 6
      have q_7 := blk_cell j2 7
      simp only [List.getElem?_toArray, List.getElem?_cons_zero, List.getElem?_cons_succ] at q_0 q_1 q_2 q_3 q_4 q_5 q_6 q_7
      have fq := blk_free j2
      have zq := blk_lt j2
      go_wp2_with fail
      go_at_call 49
      refine (H2.out _).mono ?_
      rintro e w3 ⟨rfl, hb3⟩
      first
        | (go_wp2
           go_ret
           exact ⟨rfl, HB.trans (hb3.mono HB.size)⟩)
        | (have k3 := (hb3.block _ zp).trans k2
           have j3 := (hb3.block _ zq).trans j2
           replace HB := HB.trans (hb3.mono HB.size)
           replace R1 := R1.mono hb3
           replace R3 := R3.mono hb3
           clear p_0 p_1 p_2 p_3 p_4 p_5 p_6 p_7 q_0 q_1 q_2 q_3 q_4 q_5 q_6 q_7 fp fq zp zq k2 j2 hb3
           have p_0 := blk_cell k3 0
           have p_1 := blk_cell k3 1
           have p_2 := blk_cell k3 2
           have p_3 := blk_cell k3 3
           have p_4 := blk_cell k3 4
           have p_5 := blk_cell k3 5
           have p_6 := blk_cell k3 6
           have p_7 := blk_cell k3 7
           simp only [List.getElem?_toArray, List.getElem?_cons_zero, List.getElem?_cons_succ] at p_0 p_1 p_2 p_3 p_4 p_5 p_6 p_7
           have fp := blk_free k3
           have zp := blk_lt k3
           have q_0 := blk_cell j3 0
           have q_1 := blk_cell j3 1
           have q_2 := blk_cell j3 2
           have q_3 := blk_cell j3 3
           have q_4 := blk_cell j3 4
           have q_5 := blk_cell j3 5
           have q_6 := blk_cell j3 6
           have q_7 := blk_cell j3 7
           simp only [List.getElem?_toArray, List.getElem?_cons_zero, List.getElem?_cons_succ] at q_0 q_1 q_2 q_3 q_4 q_5 q_6 q_7
           have fq := blk_free j3
           have zq := blk_lt j3
           go_wp2_with fail
           go_at_call 50
           refine (H3.out _ _ _ _ _ R1 R3).mono ?_
           rintro e w6 ⟨rfl, hb6⟩
           go_wp2
           go_ret
           exact ⟨rfl, HB.trans (hb6.mono HB.size)⟩)
end Go.Proofs.YtdpnphnafidpiaaGreat
