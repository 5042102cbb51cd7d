/- Texts MtA, MtB, CongU, MtD. -/
import Derived.Test.YtdpnphnafidpiaaGreatValH
import Derived.Test.YtdpnphnafidpiaaGreatCongW
import Derived.Test.YtdpnphnafidpiaaGreatRvZ
import Derived.Test.YtdpnphnafidpiaaGreatRvEF
/- X-PARTIAL What value.Join, Meet, HasPtr return: layer 8. -/
namespace Go.Proofs.YtdpnphnafidpiaaGreat
open Go.RowKit

def In.meetP (a b : In) : In := ⟨a.clean.s.meet b.clean.s, a.clean.c.meet b.clean.c⟩
theorem srt_meet (la lb : List Str) : srt (meetL (srt la) (srt lb)) = srt (meetL la lb) :=
  srt_of (strict_srt _) (fun y => by simp only [mem_srt, mem_meetL])

set_option maxHeartbeats 1000000 in
theorem value_HasPtr (i : In) (n : Bool) (l : List Str) (A : Option Addr) (c : Nat) (x : Str) (w : World) (hm : l.length ≤ 9223372036854775807) (hr : SRow w A l) :
    Calls Tryz.prog 17 #[.agg #[.bool i.s.s, .int .i64 i.s.lo, .int .i64 i.s.hi, .bool i.c.s, .int .i64 i.c.m, .int .i64 i.c.r, .bool n, .slice A l.length c], encStr x] w fun e w' => e = .returned (.bool (if x == [] then n else hasL l x)) ∧ Below w.heap.size w w' := by
  have H1 : Hid (∀ w', Below w.heap.size w w' → _) := Lib.hid (fun w' h => names_Has n l A c x w' hm (hr.mono h))
  clear hr
  generalize (if x == [] then n else hasL l x) = b at *
  go_enter Tryz.func17, Tryz.ntmps17
  go_wp2_with fail
  go_at_call 52
  refine (H1.out _ (by repeat (first | (with_reducible assumption) | (with_reducible exact Below.refl _ _) | (with_reducible refine Below.alloc ?_ (by first | omega | (simp; omega) | (simp; done) | (dsimp only; omega)) _) | (with_reducible refine Below.setCell ?_ (by first | omega | (simp; omega) | (simp; done) | (dsimp only; omega)) _) | (with_reducible refine Below.drew ?_) | (with_reducible refine Below.trans ?_ (Below.mono (by assumption) (by first | omega | (simp; omega) | (simp; done) | (dsimp only; omega))))))).mono ?_
  rintro e w2 ⟨rfl, hb2⟩
  go_wp2
  go_ret
  exact ⟨rfl, (by repeat (first | (with_reducible assumption) | (with_reducible exact Below.refl _ _) | (with_reducible refine Below.alloc ?_ (by first | omega | (simp; omega) | (simp; done) | (dsimp only; omega)) _) | (with_reducible refine Below.setCell ?_ (by first | omega | (simp; omega) | (simp; done) | (dsimp only; omega)) _) | (with_reducible refine Below.drew ?_) | (with_reducible refine Below.trans ?_ (Below.mono (by assumption) (by first | omega | (simp; omega) | (simp; done) | (dsimp only; omega))))))⟩

set_option maxRecDepth 100000 in
set_option maxHeartbeats 8000000 in
theorem value_Join (a b : In) (ha : a.ok) (hb : b.ok) (na nb : Bool) (la lb : List Str) (A B : Option Addr) (ca cb : Nat) (w : World) (hm : (la.length + lb.length) * 16 ≤ 140737488355328) (hza : A = none → ca = 0) (hzb : B = none → cb = 0) (hra : SRow w A la) (hrb : SRow w B lb) :
    Calls Tryz.prog 11 #[.agg #[.bool a.s.s, .int .i64 a.s.lo, .int .i64 a.s.hi, .bool a.c.s, .int .i64 a.c.m, .int .i64 a.c.r, .bool na, .slice A la.length ca], .agg #[.bool b.s.s, .int .i64 b.s.lo, .int .i64 b.s.hi, .bool b.c.s, .int .i64 b.c.m, .int .i64 b.c.r, .bool nb, .slice B lb.length cb]] w fun e w' => (∃ A' c', e = .returned (.agg #[.bool (a.join b).s.s, .int .i64 (a.join b).s.lo, .int .i64 (a.join b).s.hi, .bool (a.join b).c.s, .int .i64 (a.join b).c.m, .int .i64 (a.join b).c.r, .bool (na || nb), .slice A' (srt (la ++ lb)).length c']) ∧ MadeV w.heap.size w' A' c' (srt (la ++ lb))) ∧ Below w.heap.size w w' := by
  have HA : Hid (∀ w', Below w.heap.size w w' → _) := Lib.hid (fun w' h => value_split a ha na la A ca w' (by omega) hza (hra.mono h))
  have HB : Hid (∀ w', Below w.heap.size w w' → _) := Lib.hid (fun w' h => value_split b hb nb lb B cb w' (by omega) hzb (hrb.mono h))
  have hxs := In.clean_std ha
  have hys := In.clean_std hb
  have hla := srt_len_le la
  have hlb := srt_len_le lb
  unfold In.join
  generalize a.clean = x at *
  generalize b.clean = y at *
  have h1 := span_join x.s y.s
  have H2 := Lib.hid (cong_join x.c y.c (In.std_ok hxs).2 (In.std_ok hys).2)
  have h3 := fun A1 A3 c1 c3 w' => names_Join na nb (srt la) (srt lb) A1 A3 c1 c3 w' (by omega)
  rw [srt_join] at h3
  have H3 : Hid (∀ A1 A3 c1 c3 w', _) := Lib.hid h3
  have hws := In.joinC_std hxs hys
  have hlj := srt_len_le (la ++ lb)
  rw [List.length_append] at hlj
  have h4 := fun A1 c1 w' => value_clean (In.joinC x y) (In.std_ok hws) (na || nb) (srt (la ++ lb)) A1 c1 w' (by omega)
  rw [In.std_clean hws, srt_srt] at h4
  have e1 : (In.joinC x y).s = x.s.join y.s := rfl
  have e2 : (In.joinC x y).c = x.c.join y.c := rfl
  rw [← e1] at h1
  have H1 := Lib.hid h1
  clear h1
  rw [← e2] at H2
  clear e1 e2
  generalize In.joinC x y = u at *
  have H4 : Hid (∀ A1 c1 w', _) := Lib.hid h4
  have H5 : Hid (∀ A1 c1 w', _) := Lib.hid (fun A1 c1 w' => parts_value u (na || nb) (srt (la ++ lb)) A1 c1 w')
  clear h3 h4 hws hxs hys hra hrb ha hb hlj
  go_enter Tryz.func11, Tryz.ntmps11
  go_upto_region 1 with fail
  generalize hW : (((w.alloc (.cells #[.bool a.s.s, .int .i64 a.s.lo, .int .i64 a.s.hi, .bool a.c.s, .int .i64 a.c.m, .int .i64 a.c.r, .bool na, .slice A la.length ca] 30)).alloc (.cells #[.bool b.s.s, .int .i64 b.s.lo, .int .i64 b.s.hi, .bool b.c.s, .int .i64 b.c.m, .int .i64 b.c.r, .bool nb, .slice B lb.length cb] 30)).alloc (.cells #[.bool false, .int .i64 0, .int .i64 0, .bool false, .int .i64 0, .int .i64 0, .bool false, .slice none 0 0] 30)) = W
  have q0_0 : W.cell? ⟨w.heap.size, 0, none⟩ = some (.bool a.s.s) := by rw [← hW]; simp [go_sem]
  have q0_1 : W.cell? ⟨w.heap.size, 1, none⟩ = some (.int .i64 a.s.lo) := by rw [← hW]; simp [go_sem]
  have q0_2 : W.cell? ⟨w.heap.size, 2, none⟩ = some (.int .i64 a.s.hi) := by rw [← hW]; simp [go_sem]
  have q0_3 : W.cell? ⟨w.heap.size, 3, none⟩ = some (.bool a.c.s) := by rw [← hW]; simp [go_sem]
  have q0_4 : W.cell? ⟨w.heap.size, 4, none⟩ = some (.int .i64 a.c.m) := by rw [← hW]; simp [go_sem]
  have q0_5 : W.cell? ⟨w.heap.size, 5, none⟩ = some (.int .i64 a.c.r) := by rw [← hW]; simp [go_sem]
  have q0_6 : W.cell? ⟨w.heap.size, 6, none⟩ = some (.bool na) := by rw [← hW]; simp [go_sem]
  have q0_7 : W.cell? ⟨w.heap.size, 7, none⟩ = some (.slice A la.length ca) := by rw [← hW]; simp [go_sem]
  have q1_0 : W.cell? ⟨w.heap.size + 1, 0, none⟩ = some (.bool b.s.s) := by rw [← hW]; simp [go_sem]
  have q1_1 : W.cell? ⟨w.heap.size + 1, 1, none⟩ = some (.int .i64 b.s.lo) := by rw [← hW]; simp [go_sem]
  have q1_2 : W.cell? ⟨w.heap.size + 1, 2, none⟩ = some (.int .i64 b.s.hi) := by rw [← hW]; simp [go_sem]
  have q1_3 : W.cell? ⟨w.heap.size + 1, 3, none⟩ = some (.bool b.c.s) := by rw [← hW]; simp [go_sem]
  have q1_4 : W.cell? ⟨w.heap.size + 1, 4, none⟩ = some (.int .i64 b.c.m) := by rw [← hW]; simp [go_sem]
  have q1_5 : W.cell? ⟨w.heap.size + 1, 5, none⟩ = some (.int .i64 b.c.r) := by rw [← hW]; simp [go_sem]
  have q1_6 : W.cell? ⟨w.heap.size + 1, 6, none⟩ = some (.bool nb) := by rw [← hW]; simp [go_sem]
  have q1_7 : W.cell? ⟨w.heap.size + 1, 7, none⟩ = some (.slice B lb.length cb) := by rw [← hW]; simp [go_sem]
  have q2_0 : W.cell? ⟨w.heap.size + 1 + 1, 0, none⟩ = some (.bool false) := by rw [← hW]; simp [go_sem]
  have q2_1 : W.cell? ⟨w.heap.size + 1 + 1, 1, none⟩ = some (.int .i64 0) := by rw [← hW]; simp [go_sem]
  have q2_2 : W.cell? ⟨w.heap.size + 1 + 1, 2, none⟩ = some (.int .i64 0) := by rw [← hW]; simp [go_sem]
  have q2_3 : W.cell? ⟨w.heap.size + 1 + 1, 3, none⟩ = some (.bool false) := by rw [← hW]; simp [go_sem]
  have q2_4 : W.cell? ⟨w.heap.size + 1 + 1, 4, none⟩ = some (.int .i64 0) := by rw [← hW]; simp [go_sem]
  have q2_5 : W.cell? ⟨w.heap.size + 1 + 1, 5, none⟩ = some (.int .i64 0) := by rw [← hW]; simp [go_sem]
  have q2_6 : W.cell? ⟨w.heap.size + 1 + 1, 6, none⟩ = some (.bool false) := by rw [← hW]; simp [go_sem]
  have q2_7 : W.cell? ⟨w.heap.size + 1 + 1, 7, none⟩ = some (.slice none 0 0) := by rw [← hW]; simp [go_sem]
  have f0 : ∀ o, W.frozen? ⟨w.heap.size, o, none⟩ = false := by intro o; rw [← hW]; simp [go_sem]
  have f1 : ∀ o, W.frozen? ⟨w.heap.size + 1, o, none⟩ = false := by intro o; rw [← hW]; simp [go_sem]
  have f2 : ∀ o, W.frozen? ⟨w.heap.size + 1 + 1, o, none⟩ = false := by intro o; rw [← hW]; simp [go_sem]
  have k0 : W.heap[w.heap.size]? = some (.cells #[.bool a.s.s, .int .i64 a.s.lo, .int .i64 a.s.hi, .bool a.c.s, .int .i64 a.c.m, .int .i64 a.c.r, .bool na, .slice A la.length ca] 30 (0, 0)) := by rw [← hW]; rw [al_old _ _ (by (repeat rw [al_size]); omega)]; rw [al_old _ _ (by (repeat rw [al_size]); omega)]; exact al_new _ _ (by (repeat rw [al_size]) <;> rfl)
  have k1 : W.heap[w.heap.size + 1]? = some (.cells #[.bool b.s.s, .int .i64 b.s.lo, .int .i64 b.s.hi, .bool b.c.s, .int .i64 b.c.m, .int .i64 b.c.r, .bool nb, .slice B lb.length cb] 30 (0, 0)) := by rw [← hW]; rw [al_old _ _ (by (repeat rw [al_size]); omega)]; exact al_new _ _ (by (repeat rw [al_size]) <;> rfl)
  have k2 : W.heap[w.heap.size + 1 + 1]? = some (.cells #[.bool false, .int .i64 0, .int .i64 0, .bool false, .int .i64 0, .int .i64 0, .bool false, .slice none 0 0] 30 (0, 0)) := by rw [← hW]; exact al_new _ _ (by (repeat rw [al_size]) <;> rfl)
  have z0 : w.heap.size < W.heap.size := by rw [← hW]; first | (simp; done) | (simp; omega)
  have z1 : w.heap.size + 1 < W.heap.size := by rw [← hW]; first | (simp; done) | (simp; omega)
  have z2 : w.heap.size + 1 + 1 < W.heap.size := by rw [← hW]; first | (simp; done) | (simp; omega)
  have HW : Below w.heap.size w W := by rw [← hW]; exact (by repeat (first | (with_reducible assumption) | (with_reducible exact Below.refl _ _) | (with_reducible refine Below.alloc ?_ (by first | omega | (simp; omega) | (simp; done) | (dsimp only; omega)) _) | (with_reducible refine Below.setCell ?_ (by first | omega | (simp; omega) | (simp; done) | (dsimp only; omega)) _) | (with_reducible refine Below.drew ?_) | (with_reducible refine Below.trans ?_ (Below.mono (by assumption) (by first | omega | (simp; omega) | (simp; done) | (dsimp only; omega))))))
  clear hW
  have zW2 := z2
  clear f0 f1 f2 k0 k1
  refine region_seqg (W := W) [_, _, _, _, _, _] [_, _] rfl (by kernel_rfl) (by kernel_rfl) (by repeat (first | (with_reducible assumption) | (with_reducible exact Below.refl _ _) | (with_reducible refine Below.alloc ?_ (by first | omega | (simp; omega) | (simp; done) | (dsimp only; omega)) _) | (with_reducible refine Below.setCell ?_ (by first | omega | (simp; omega) | (simp; done) | (dsimp only; omega)) _) | (with_reducible refine Below.drew ?_) | (with_reducible refine Below.trans ?_ (Below.mono (by assumption) (by first | omega | (simp; omega) | (simp; done) | (dsimp only; omega)))))) (fun fin hfin => ?_)
  iterate 1
    first
      | (refine SeqG.yes (v := ?_) (A' := ?_) rfl (fun γ => by rfl) ?_ ?_ ?_
         rotate_left 2
         · intro γ w' K hS hK
           obtain ⟨hc, hf⟩ := bcell hS
           have hz := hS.size
           go_simp
           first
             | exact hK.out _ (Below.refl _ _)
             | trace_state
         · intro γ; simp only [Act.put, List.setIfInBounds_toArray, List.set_cons_zero, List.set_cons_succ]; exact rfl)
      | (refine SeqG.no (A' := ?_) rfl (fun γ => by rfl) ?_ ?_
         rotate_left
         · intro γ; simp only [Act.put, List.setIfInBounds_toArray, List.set_cons_zero, List.set_cons_succ]; exact rfl)
  refine SeqG.make (k := 1) (A' := ?_) (fun g => .agg #[.bool x.s.s, .int .i64 x.s.lo, .int .i64 x.s.hi, .bool x.c.s, .int .i64 x.c.m, .int .i64 x.c.r, .bool na, .slice (gA g) (srt la).length (g 2)]) (RSetG (srt la)) rfl (fun γ => by rfl) (RSetG.stable _) ?_ ?_ ?_
  rotate_left
  · intro γ w' K hS hF hK
    obtain ⟨hc, hf⟩ := bcell hS
    have hz := hS.size
    go_simp
    (go_at_call 23; refine (HA.out w' (HW.trans (hS.mono HW.size))).mono ?_; rintro e w1 ⟨⟨A1, c1, rfl, hmade⟩, hb1⟩; obtain ⟨g, rfl, rfl, hg⟩ := MadeV.ghost hmade (by omega) (lo := w'.heap.size); exact hK.out g w1 hb1 hg)
  · intro γ; simp only [Act.put, List.setIfInBounds_toArray, List.set_cons_zero, List.set_cons_succ]; exact rfl
  iterate 1
    first
      | (refine SeqG.yes (v := ?_) (A' := ?_) rfl (fun γ => by rfl) ?_ ?_ ?_
         rotate_left 2
         · intro γ w' K hS hK
           obtain ⟨hc, hf⟩ := bcell hS
           have hz := hS.size
           go_simp
           first
             | exact hK.out _ (Below.refl _ _)
             | trace_state
         · intro γ; simp only [Act.put, List.setIfInBounds_toArray, List.set_cons_zero, List.set_cons_succ]; exact rfl)
      | (refine SeqG.no (A' := ?_) rfl (fun γ => by rfl) ?_ ?_
         rotate_left
         · intro γ; simp only [Act.put, List.setIfInBounds_toArray, List.set_cons_zero, List.set_cons_succ]; exact rfl)
  refine SeqG.make (k := 3) (A' := ?_) (fun g => .agg #[.bool y.s.s, .int .i64 y.s.lo, .int .i64 y.s.hi, .bool y.c.s, .int .i64 y.c.m, .int .i64 y.c.r, .bool nb, .slice (gA g) (srt lb).length (g 2)]) (RSetG (srt lb)) rfl (fun γ => by rfl) (RSetG.stable _) ?_ ?_ ?_
  rotate_left
  · intro γ w' K hS hF hK
    obtain ⟨hc, hf⟩ := bcell hS
    have hz := hS.size
    go_simp
    (go_at_call 23; refine (HB.out w' (HW.trans (hS.mono HW.size))).mono ?_; rintro e w1 ⟨⟨A1, c1, rfl, hmade⟩, hb1⟩; obtain ⟨g, rfl, rfl, hg⟩ := MadeV.ghost hmade (by omega) (lo := w'.heap.size); exact hK.out g w1 hb1 hg)
  · intro γ; simp only [Act.put, List.setIfInBounds_toArray, List.set_cons_zero, List.set_cons_succ]; exact rfl
  refine SeqG.make (k := 4) (A' := ?_) (fun g => .pointer (some ⟨g 0, 0, none⟩)) (RCell #[.bool false, .int .i64 0, .int .i64 0, .bool false, .int .i64 0, .int .i64 0, .bool false, .slice none 0 0] 55) rfl (fun γ => by rfl) (RCell.stable _ _) ?_ ?_ ?_
  rotate_left
  · intro γ w' K hS _ hK
    have hm := RCell.made (#[.bool false, .int .i64 0, .int .i64 0, .bool false, .int .i64 0, .int .i64 0, .bool false, .slice none 0 0]) (55) w'
    have HK := Lib.hid (hK.out (fun _ => w'.heap.size) (w'.alloc (.cells #[.bool false, .int .i64 0, .int .i64 0, .bool false, .int .i64 0, .int .i64 0, .bool false, .slice none 0 0] 55)) ((Below.refl _ _).alloc (Nat.le_refl _) _) hm); clear hK hm
    go_simp
    exact HK.out
  · intro γ; simp only [Act.put, List.setIfInBounds_toArray, List.set_cons_zero, List.set_cons_succ]; exact rfl
  refine SeqG.make (k := 5) (A' := ?_) (fun g => .pointer (some ⟨g 0, 0, none⟩)) (RCell #[.bool false, .int .i64 0, .int .i64 0, .bool false, .int .i64 0, .int .i64 0, .bool false, .slice none 0 0] 55) rfl (fun γ => by rfl) (RCell.stable _ _) ?_ ?_ ?_
  rotate_left
  · intro γ w' K hS _ hK
    have hm := RCell.made (#[.bool false, .int .i64 0, .int .i64 0, .bool false, .int .i64 0, .int .i64 0, .bool false, .slice none 0 0]) (55) w'
    have HK := Lib.hid (hK.out (fun _ => w'.heap.size) (w'.alloc (.cells #[.bool false, .int .i64 0, .int .i64 0, .bool false, .int .i64 0, .int .i64 0, .bool false, .slice none 0 0] 55)) ((Below.refl _ _).alloc (Nat.le_refl _) _) hm); clear hK hm
    go_simp
    exact HK.out
  · intro γ; simp only [Act.put, List.setIfInBounds_toArray, List.set_cons_zero, List.set_cons_succ]; exact rfl
  refine SeqG.nil (hfin.out _ _ ?_)
  clear hfin fin
  intro γ lo hi w1 hB1 hF hD
  replace hF := listF4 hF
  dsimp only at hF
  replace hD := listD4 hD
  dsimp only at hD
  obtain ⟨hD0, hD1, hD2, hD3, hD4, hD5⟩ := hD
  replace hD0 := hD0 (by decide)
  replace hD1 := hD1 (by decide)
  replace hD2 := hD2 (by decide)
  replace hD3 := hD3 (by decide)
  replace hD4 := hD4 (by decide)
  replace hD5 := hD5 (by decide)
  obtain ⟨⟨y1, l1, o1, r1, m1, t1, n1, s1⟩, ⟨y3, l3, o3, r3, m3, t3, n3, s3⟩, ⟨y4, l4, o4, p4, p4', h4⟩, ⟨y5, l5, o5, p5, p5', h5⟩⟩ := hF
  have w4 : W.heap.size ≤ γ 4 0 := by omega
  have w5 : W.heap.size ≤ γ 5 0 := by omega
  have x4 : γ 4 0 < w1.heap.size := by omega
  have x5 : γ 5 0 < w1.heap.size := by omega
  have n45 : γ 4 0 ≠ γ 5 0 := by omega
  have F1 : ∀ a, gA (γ 1) = some a → srt la ≠ [] → a.block ≠ γ 4 0 ∧ a.block ≠ γ 5 0 := fun a e hne => by
    have h1 := (s1 a e).1; have h2 := (s1 a e).2 hne; omega
  have F3 : ∀ a, gA (γ 3) = some a → srt lb ≠ [] → a.block ≠ γ 4 0 ∧ a.block ≠ γ 5 0 := fun a e hne => by
    have h1 := (s3 a e).1; have h2 := (s3 a e).2 hne; omega
  clear hD0 hD1 hD2 hD3 hD4 hD5 s1 s3 y1 l1 o1 y3 l3 o3 y4 l4 o4 p4 p4' y5 l5 o5 p5 p5' m1 t1 m3 t3
  generalize γ 4 0 = bp at *
  generalize γ 5 0 = bq at *
  generalize gA (γ 1) = A1 at *
  generalize γ 1 2 = c1 at *
  generalize gA (γ 3) = A3 at *
  generalize γ 3 2 = c3 at *
  have n54 := Ne.symm n45
  have H4 := Lib.hid h4; have H5 := Lib.hid h5; have HF1 := Lib.hid F1; have HF3 := Lib.hid F3; have HR1 := Lib.hid r1; have HR3 := Lib.hid r3; have HN1 := Lib.hid n1; have HN3 := Lib.hid n3
  clear h4 h5 F1 F3 r1 r3 n1 n3
  refine TailL.cons (fun K hK => ?_)
  refine wp_store_mid _ _ _ rfl bp 0 _ rfl rfl (st8_there H4.out) (by kernel_rfl) (by simp [Value.oneCell']) ?_
  rw [st8_set]
  generalize hX1 : st8 w1 bp (.bool x.s.s) (.int .i64 x.s.lo) (.int .i64 x.s.hi) (.bool x.c.s) (.int .i64 x.c.m) (.int .i64 x.c.r) (.bool na) (.slice A1 (srt la).length c1) = X1
  have K4 := Lib.hid (show X1.heap[bp]? = some (.cells #[.bool x.s.s, .int .i64 x.s.lo, .int .i64 x.s.hi, .bool x.c.s, .int .i64 x.c.m, .int .i64 x.c.r, .bool na, .slice A1 (srt la).length c1] 55) by rw [← hX1]; exact st8_blk H4.out)
  have K5 := Lib.hid ((show X1.heap[bq]? = w1.heap[bq]? by rw [← hX1]; exact st8_far _ _ n54).trans H5.out)
  have HX1 : Below W.heap.size W X1 := by rw [← hX1]; exact st8_below hB1 w4
  have Q1 := Lib.hid (show SRow X1 A1 (srt la) from HR1.out.far (fun a e hne p hp => by rw [← hX1]; exact st8_cell _ _ (by rw [hp]; exact (HF1.out a e hne).1)))
  have Q3 := Lib.hid (show SRow X1 A3 (srt lb) from HR3.out.far (fun a e hne p hp => by rw [← hX1]; exact st8_cell _ _ (by rw [hp]; exact (HF3.out a e hne).1)))
  clear hX1 H4 H5 HR1 HR3 hB1 x4 x5
  refine hK.out _ _ ?_
  clear hK K
  refine TailL.cons (fun K hK => ?_)
  refine wp_store_mid _ _ _ rfl bq 0 _ rfl rfl (st8_there K5.out) (by kernel_rfl) (by simp [Value.oneCell']) ?_
  rw [st8_set]
  generalize hX : st8 X1 bq (.bool y.s.s) (.int .i64 y.s.lo) (.int .i64 y.s.hi) (.bool y.c.s) (.int .i64 y.c.m) (.int .i64 y.c.r) (.bool nb) (.slice A3 (srt lb).length c3) = X
  have kp : X.heap[bp]? = some (.cells #[.bool x.s.s, .int .i64 x.s.lo, .int .i64 x.s.hi, .bool x.c.s, .int .i64 x.c.m, .int .i64 x.c.r, .bool na, .slice A1 (srt la).length c1] 55) := by rw [← hX]; exact (st8_far _ _ n45).trans K4.out
  have kq : X.heap[bq]? = some (.cells #[.bool y.s.s, .int .i64 y.s.lo, .int .i64 y.s.hi, .bool y.c.s, .int .i64 y.c.m, .int .i64 y.c.r, .bool nb, .slice A3 (srt lb).length c3] 55) := by rw [← hX]; exact st8_blk K5.out
  have HX : Below W.heap.size W X := by rw [← hX]; exact st8_below HX1 w5
  have R1 : SRow X A1 (srt la) := Q1.out.far (fun a e hne p hp => by rw [← hX]; exact st8_cell _ _ (by rw [hp]; exact (HF1.out a e hne).2))
  have R3 : SRow X A3 (srt lb) := Q3.out.far (fun a e hne p hp => by rw [← hX]; exact st8_cell _ _ (by rw [hp]; exact (HF3.out a e hne).2))
  clear hX K4 K5 HF1 HF3 Q1 Q3 HX1
  refine hK.out _ _ ?_
  clear hK K
  simp only [Act.put]
  refine TailL.nil ?_
  have hwb : w.heap.size ≤ W.heap.size := by omega
  have kr := (HX.block _ z2).trans k2
  have HBX := HW.trans (HX.mono hwb)
  have hbX := HX.size
  clear q0_0 q0_1 q0_2 q0_3 q0_4 q0_5 q0_6 q0_7 q1_0 q1_1 q1_2 q1_3 q1_4 q1_5 q1_6 q1_7 q2_0 q2_1 q2_2 q2_3 q2_4 q2_5 q2_6 q2_7 HA HB hla hlb hza hzb k2 z0 z1 z2
  have p_0 := blk_cell kp 0
  have p_1 := blk_cell kp 1
  have p_2 := blk_cell kp 2
  have p_3 := blk_cell kp 3
  have p_4 := blk_cell kp 4
  have p_5 := blk_cell kp 5
  have p_6 := blk_cell kp 6
  have p_7 := blk_cell kp 7
  simp only [List.getElem?_toArray, List.getElem?_cons_zero, List.getElem?_cons_succ] at p_0 p_1 p_2 p_3 p_4 p_5 p_6 p_7
  have fp := blk_free kp
  have zp := blk_lt kp
  have q_0 := blk_cell kq 0
  have q_1 := blk_cell kq 1
  have q_2 := blk_cell kq 2
  have q_3 := blk_cell kq 3
  have q_4 := blk_cell kq 4
  have q_5 := blk_cell kq 5
  have q_6 := blk_cell kq 6
  have q_7 := blk_cell kq 7
  simp only [List.getElem?_toArray, List.getElem?_cons_zero, List.getElem?_cons_succ] at q_0 q_1 q_2 q_3 q_4 q_5 q_6 q_7
  have fq := blk_free kq
  have zq := blk_lt kq
  have zr := blk_lt kr
  clear HX HW
  have HR1 := Lib.hid R1; have HR3 := Lib.hid R3
  clear R1 R3
  go_upto_region 2 with fail
  refine region_seqg (W := X) [_, _, _, _, _, _, _, _, _, _, _, _, _, _, _, _, _, _, _, _, _, _] [_] rfl (by kernel_rfl) (by kernel_rfl) (by repeat (first | (with_reducible assumption) | (with_reducible exact Below.refl _ _) | (with_reducible refine Below.alloc ?_ (by first | omega | (simp; omega) | (simp; done) | (dsimp only; omega)) _) | (with_reducible refine Below.setCell ?_ (by first | omega | (simp; omega) | (simp; done) | (dsimp only; omega)) _) | (with_reducible refine Below.drew ?_) | (with_reducible refine Below.trans ?_ (Below.mono (by assumption) (by first | omega | (simp; omega) | (simp; done) | (dsimp only; omega)))))) (fun fin hfin => ?_)
  iterate 19
    first
      | (refine SeqG.yes (v := ?_) (A' := ?_) rfl (fun γ => by rfl) ?_ ?_ ?_
         rotate_left 2
         · intro γ w' K hS hK
           obtain ⟨hc, hf⟩ := bcell hS
           have hz := hS.size
           go_simp
           first
             | exact hK.out _ (Below.refl _ _)
             | (go_at_call 40; (with_reducible refine (H1.out w').mono ?_); rintro e w1 ⟨rfl, hb1⟩; exact hK.out _ hb1)
             | (go_at_call 26; (with_reducible refine (H2.out w').mono ?_); rintro e w1 ⟨rfl, hb1⟩; exact hK.out _ hb1)
             | trace_state
         · intro γ; simp only [Act.put, List.setIfInBounds_toArray, List.set_cons_zero, List.set_cons_succ]; exact rfl)
      | (refine SeqG.no (A' := ?_) rfl (fun γ => by rfl) ?_ ?_
         rotate_left
         · intro γ; simp only [Act.put, List.setIfInBounds_toArray, List.set_cons_zero, List.set_cons_succ]; exact rfl)
  refine SeqG.make (k := 19) (A' := ?_) (fun g => .agg #[.bool (na || nb), .slice (gA g) (srt (la ++ lb)).length (g 2)]) (RSetG (srt (la ++ lb))) rfl (fun γ => by rfl) (RSetG.stable _) ?_ ?_ ?_
  rotate_left
  · intro γ w' K hS hF hK
    obtain ⟨hc, hf⟩ := bcell hS
    have hz := hS.size
    go_simp
    (go_at_call 27; refine (H3.out A1 A3 c1 c3 w' HN1.out HN3.out (HR1.out.mono hS) (HR3.out.mono hS)).mono ?_; rintro e w1 ⟨⟨v, rfl, hset⟩, hb1⟩; obtain ⟨g, rfl, hg⟩ := SetV.ghost hset (by omega) (lo := w'.heap.size); exact hK.out g w1 hb1 hg)
  · intro γ; simp only [Act.put, List.setIfInBounds_toArray, List.set_cons_zero, List.set_cons_succ]; exact rfl
  refine SeqG.make (k := 20) (A' := ?_) (fun g => .agg #[.bool u.s.s, .int .i64 u.s.lo, .int .i64 u.s.hi, .bool u.c.s, .int .i64 u.c.m, .int .i64 u.c.r, .bool (na || nb), .slice (gA g) (srt (la ++ lb)).length (g 2)]) (RSetG (srt (la ++ lb))) rfl (fun γ => by rfl) (RSetG.stable _) ?_ ?_ ?_
  rotate_left
  · intro γ w' K hS hF hK
    obtain ⟨hc, hf⟩ := bcell hS
    have hz := hS.size
    obtain ⟨_, _, _, _, r19, m19, t19, n19, _⟩ := hF (19, RSetG (srt (la ++ lb))) (by simp) (reachL_spec (of_decide_eq_true (by kernel_rfl)))
    go_simp
    (go_at_call 24; refine (H4.out _ _ w' n19 r19).mono ?_; rintro e w1 ⟨⟨A1, c1, rfl, hmade⟩, hb1⟩; obtain ⟨g, rfl, rfl, hg⟩ := MadeV.ghost hmade (by omega) (lo := w'.heap.size); exact hK.out g w1 hb1 hg)
  · intro γ; simp only [Act.put, List.setIfInBounds_toArray, List.set_cons_zero, List.set_cons_succ]; exact rfl
  refine SeqG.hang (k := 21) (A' := ?_) (fun γ => .agg #[.bool u.s.s, .int .i64 u.s.lo, .int .i64 u.s.hi, .bool u.c.s, .int .i64 u.c.m, .int .i64 u.c.r, .bool (na || nb), .slice (gA (γ 20)) (srt (la ++ lb)).length (γ 20 2)]) rfl (fun γ => by rfl) (fun i _ hn γ g => ?_) (fun γ g => ?_) ?_ ?_ ?_
  rotate_left
  · have hne20 : 20 ≠ i := fun e => hn (by rw [← e]; exact reachL_spec (of_decide_eq_true (by kernel_rfl)))
    (try dsimp only); rw [updG_ne γ g hne20]
  · (try dsimp only); rw [updG_ne γ g (show 20 ≠ 21 by decide)]
  · intro γ w' K hS _ hK
    obtain ⟨hc, hf⟩ := bcell hS
    have hz := hS.size
    go_simp
    (go_at_call 28; (with_reducible refine (H5.out _ _ w').mono ?_); rintro e w1 ⟨rfl, hb1⟩; exact hK.out _ hb1)
  · intro γ; simp only [Act.put, List.setIfInBounds_toArray, List.set_cons_zero, List.set_cons_succ]; exact rfl
  refine SeqG.nil (hfin.out _ _ ?_)
  clear hfin fin
  intro γ lo hi w1 hB1 hF hD
  replace hF := listF2 hF
  dsimp only at hF
  replace hD := listD2 hD
  dsimp only at hD
  replace hD := hD (by decide)
  obtain ⟨_, ⟨y8, l8, o8, hR⟩⟩ := hF
  have hM := RSetG.made hR
  replace hM := hM.base (show w.heap.size + 3 ≤ lo 20 by omega)
  have kr1 := (hB1.block _ zr).trans kr
  have HB := HBX.trans (hB1.mono HBX.size)
  generalize gA (γ 20) = A7 at *
  generalize γ 20 2 = c7 at *
  clear hR hB1 p_0 p_1 p_2 p_3 p_4 p_5 p_6 p_7 q_0 q_1 q_2 q_3 q_4 q_5 q_6 q_7 fp fq zp zq kp kq kr zr HBX hbX y8 l8 o8
  have r_0 := blk_cell kr1 0
  have r_1 := blk_cell kr1 1
  have r_2 := blk_cell kr1 2
  have r_3 := blk_cell kr1 3
  have r_4 := blk_cell kr1 4
  have r_5 := blk_cell kr1 5
  have r_6 := blk_cell kr1 6
  have r_7 := blk_cell kr1 7
  simp only [List.getElem?_toArray, List.getElem?_cons_zero, List.getElem?_cons_succ] at r_0 r_1 r_2 r_3 r_4 r_5 r_6 r_7
  have fr := blk_free kr1
  have zr := blk_lt kr1
  refine TailL.cons (fun K hK => ?_)
  go_simp
  refine hK.out _ _ ?_
  clear hK K
  refine TailL.nil ?_
  go_wp2
  refine bodyPost_ret (by simp [results, Tryz.results11, go_sem, *] <;> rfl) rfl ⟨⟨A7, c7, rfl, (by (refine MadeV.base (b := w.heap.size + 3) ?_ (by omega)); (repeat refine MadeV.setCell ?_ (by first | omega | (simp; omega)) _); first | exact hM | exact hM.base (by omega))⟩, (by repeat (first | (with_reducible assumption) | (with_reducible exact Below.refl _ _) | (with_reducible refine Below.alloc ?_ (by first | omega | (simp; omega) | (simp; done) | (dsimp only; omega)) _) | (with_reducible refine Below.setCell ?_ (by first | omega | (simp; omega) | (simp; done) | (dsimp only; omega)) _) | (with_reducible refine Below.drew ?_) | (with_reducible refine Below.trans ?_ (Below.mono (by assumption) (by first | omega | (simp; omega) | (simp; done) | (dsimp only; omega))))))⟩
set_option maxRecDepth 100000 in
set_option maxHeartbeats 8000000 in
theorem value_Meet (a b : In) (ha : a.ok) (hb : b.ok) (na nb : Bool) (la lb : List Str) (A B : Option Addr) (ca cb : Nat) (w : World) (hma : la.length * 16 ≤ 140737488355328) (hmb : lb.length * 16 ≤ 140737488355328) (hza : A = none → ca = 0) (hzb : B = none → cb = 0) (hra : SRow w A la) (hrb : SRow w B lb) :
    Calls Tryz.prog 12 #[.agg #[.bool a.s.s, .int .i64 a.s.lo, .int .i64 a.s.hi, .bool a.c.s, .int .i64 a.c.m, .int .i64 a.c.r, .bool na, .slice A la.length ca], .agg #[.bool b.s.s, .int .i64 b.s.lo, .int .i64 b.s.hi, .bool b.c.s, .int .i64 b.c.m, .int .i64 b.c.r, .bool nb, .slice B lb.length cb]] w fun e w' => (∃ A' c', e = .returned (.agg #[.bool ((a.meetP b).red).s.s, .int .i64 ((a.meetP b).red).s.lo, .int .i64 ((a.meetP b).red).s.hi, .bool ((a.meetP b).red).c.s, .int .i64 ((a.meetP b).red).c.m, .int .i64 ((a.meetP b).red).c.r, .bool (na && nb), .slice A' (srt (meetL la lb)).length c']) ∧ MadeV w.heap.size w' A' c' (srt (meetL la lb))) ∧ Below w.heap.size w w' := by
  have HA : Hid (∀ w', Below w.heap.size w w' → _) := Lib.hid (fun w' h => value_split a ha na la A ca w' (by omega) hza (hra.mono h))
  have HB : Hid (∀ w', Below w.heap.size w w' → _) := Lib.hid (fun w' h => value_split b hb nb lb B cb w' (by omega) hzb (hrb.mono h))
  have hxs := In.clean_std ha
  have hys := In.clean_std hb
  have hla := srt_len_le la
  have hlb := srt_len_le lb
  unfold In.meetP
  generalize a.clean = x at *
  generalize b.clean = y at *
  have h1 := span_meet x.s y.s
  have H2 := Lib.hid (cong_meet x.c y.c (In.std_ok hxs).2 (In.std_ok hys).2)
  have h3 := fun A1 A3 c1 c3 w' => names_Meet na nb (srt la) (srt lb) A1 A3 c1 c3 w' (by omega) (by omega)
  rw [srt_meet] at h3
  have H3 : Hid (∀ A1 A3 c1 c3 w', _) := Lib.hid h3
  have hmo : (In.mk (x.s.meet y.s) (x.c.meet y.c)).ok := ⟨Sp.meet_ok hxs.1 hys.1, by have := (meetC_spec hxs.2.1 hys.2.1).1.1; unfold Cg.meet; rw [Cg.std_clean hxs.2.1, Cg.std_clean hys.2.1]; exact this⟩
  have hlj := srt_len_le (meetL la lb)
  have hml := meetL_len la lb
  have h4 := fun A1 c1 w' => value_Reduce (In.mk (x.s.meet y.s) (x.c.meet y.c)) hmo (na && nb) (srt (meetL la lb)) A1 c1 w' (by omega)
  rw [srt_srt] at h4
  dsimp only at h4
  have H1 := Lib.hid h1
  generalize (In.mk (x.s.meet y.s) (x.c.meet y.c)).red = u at *
  generalize x.s.meet y.s = ms at *
  generalize x.c.meet y.c = mc at *
  have H4 : Hid (∀ A1 c1 w', _) := Lib.hid h4
  clear h1 h3 h4 hmo hml hxs hys hra hrb ha hb hlj
  go_enter Tryz.func12, Tryz.ntmps12
  go_upto_region 1 with fail
  generalize hW : (((w.alloc (.cells #[.bool a.s.s, .int .i64 a.s.lo, .int .i64 a.s.hi, .bool a.c.s, .int .i64 a.c.m, .int .i64 a.c.r, .bool na, .slice A la.length ca] 30)).alloc (.cells #[.bool b.s.s, .int .i64 b.s.lo, .int .i64 b.s.hi, .bool b.c.s, .int .i64 b.c.m, .int .i64 b.c.r, .bool nb, .slice B lb.length cb] 30)).alloc (.cells #[.bool false, .int .i64 0, .int .i64 0, .bool false, .int .i64 0, .int .i64 0, .bool false, .slice none 0 0] 30)) = W
  have q0_0 : W.cell? ⟨w.heap.size, 0, none⟩ = some (.bool a.s.s) := by rw [← hW]; simp [go_sem]
  have q0_1 : W.cell? ⟨w.heap.size, 1, none⟩ = some (.int .i64 a.s.lo) := by rw [← hW]; simp [go_sem]
  have q0_2 : W.cell? ⟨w.heap.size, 2, none⟩ = some (.int .i64 a.s.hi) := by rw [← hW]; simp [go_sem]
  have q0_3 : W.cell? ⟨w.heap.size, 3, none⟩ = some (.bool a.c.s) := by rw [← hW]; simp [go_sem]
  have q0_4 : W.cell? ⟨w.heap.size, 4, none⟩ = some (.int .i64 a.c.m) := by rw [← hW]; simp [go_sem]
  have q0_5 : W.cell? ⟨w.heap.size, 5, none⟩ = some (.int .i64 a.c.r) := by rw [← hW]; simp [go_sem]
  have q0_6 : W.cell? ⟨w.heap.size, 6, none⟩ = some (.bool na) := by rw [← hW]; simp [go_sem]
  have q0_7 : W.cell? ⟨w.heap.size, 7, none⟩ = some (.slice A la.length ca) := by rw [← hW]; simp [go_sem]
  have q1_0 : W.cell? ⟨w.heap.size + 1, 0, none⟩ = some (.bool b.s.s) := by rw [← hW]; simp [go_sem]
  have q1_1 : W.cell? ⟨w.heap.size + 1, 1, none⟩ = some (.int .i64 b.s.lo) := by rw [← hW]; simp [go_sem]
  have q1_2 : W.cell? ⟨w.heap.size + 1, 2, none⟩ = some (.int .i64 b.s.hi) := by rw [← hW]; simp [go_sem]
  have q1_3 : W.cell? ⟨w.heap.size + 1, 3, none⟩ = some (.bool b.c.s) := by rw [← hW]; simp [go_sem]
  have q1_4 : W.cell? ⟨w.heap.size + 1, 4, none⟩ = some (.int .i64 b.c.m) := by rw [← hW]; simp [go_sem]
  have q1_5 : W.cell? ⟨w.heap.size + 1, 5, none⟩ = some (.int .i64 b.c.r) := by rw [← hW]; simp [go_sem]
  have q1_6 : W.cell? ⟨w.heap.size + 1, 6, none⟩ = some (.bool nb) := by rw [← hW]; simp [go_sem]
  have q1_7 : W.cell? ⟨w.heap.size + 1, 7, none⟩ = some (.slice B lb.length cb) := by rw [← hW]; simp [go_sem]
  have q2_0 : W.cell? ⟨w.heap.size + 1 + 1, 0, none⟩ = some (.bool false) := by rw [← hW]; simp [go_sem]
  have q2_1 : W.cell? ⟨w.heap.size + 1 + 1, 1, none⟩ = some (.int .i64 0) := by rw [← hW]; simp [go_sem]
  have q2_2 : W.cell? ⟨w.heap.size + 1 + 1, 2, none⟩ = some (.int .i64 0) := by rw [← hW]; simp [go_sem]
  have q2_3 : W.cell? ⟨w.heap.size + 1 + 1, 3, none⟩ = some (.bool false) := by rw [← hW]; simp [go_sem]
  have q2_4 : W.cell? ⟨w.heap.size + 1 + 1, 4, none⟩ = some (.int .i64 0) := by rw [← hW]; simp [go_sem]
  have q2_5 : W.cell? ⟨w.heap.size + 1 + 1, 5, none⟩ = some (.int .i64 0) := by rw [← hW]; simp [go_sem]
  have q2_6 : W.cell? ⟨w.heap.size + 1 + 1, 6, none⟩ = some (.bool false) := by rw [← hW]; simp [go_sem]
  have q2_7 : W.cell? ⟨w.heap.size + 1 + 1, 7, none⟩ = some (.slice none 0 0) := by rw [← hW]; simp [go_sem]
  have f0 : ∀ o, W.frozen? ⟨w.heap.size, o, none⟩ = false := by intro o; rw [← hW]; simp [go_sem]
  have f1 : ∀ o, W.frozen? ⟨w.heap.size + 1, o, none⟩ = false := by intro o; rw [← hW]; simp [go_sem]
  have f2 : ∀ o, W.frozen? ⟨w.heap.size + 1 + 1, o, none⟩ = false := by intro o; rw [← hW]; simp [go_sem]
  have k0 : W.heap[w.heap.size]? = some (.cells #[.bool a.s.s, .int .i64 a.s.lo, .int .i64 a.s.hi, .bool a.c.s, .int .i64 a.c.m, .int .i64 a.c.r, .bool na, .slice A la.length ca] 30 (0, 0)) := by rw [← hW]; rw [al_old _ _ (by (repeat rw [al_size]); omega)]; rw [al_old _ _ (by (repeat rw [al_size]); omega)]; exact al_new _ _ (by (repeat rw [al_size]) <;> rfl)
  have k1 : W.heap[w.heap.size + 1]? = some (.cells #[.bool b.s.s, .int .i64 b.s.lo, .int .i64 b.s.hi, .bool b.c.s, .int .i64 b.c.m, .int .i64 b.c.r, .bool nb, .slice B lb.length cb] 30 (0, 0)) := by rw [← hW]; rw [al_old _ _ (by (repeat rw [al_size]); omega)]; exact al_new _ _ (by (repeat rw [al_size]) <;> rfl)
  have k2 : W.heap[w.heap.size + 1 + 1]? = some (.cells #[.bool false, .int .i64 0, .int .i64 0, .bool false, .int .i64 0, .int .i64 0, .bool false, .slice none 0 0] 30 (0, 0)) := by rw [← hW]; exact al_new _ _ (by (repeat rw [al_size]) <;> rfl)
  have z0 : w.heap.size < W.heap.size := by rw [← hW]; first | (simp; done) | (simp; omega)
  have z1 : w.heap.size + 1 < W.heap.size := by rw [← hW]; first | (simp; done) | (simp; omega)
  have z2 : w.heap.size + 1 + 1 < W.heap.size := by rw [← hW]; first | (simp; done) | (simp; omega)
  have HW : Below w.heap.size w W := by rw [← hW]; exact (by repeat (first | (with_reducible assumption) | (with_reducible exact Below.refl _ _) | (with_reducible refine Below.alloc ?_ (by first | omega | (simp; omega) | (simp; done) | (dsimp only; omega)) _) | (with_reducible refine Below.setCell ?_ (by first | omega | (simp; omega) | (simp; done) | (dsimp only; omega)) _) | (with_reducible refine Below.drew ?_) | (with_reducible refine Below.trans ?_ (Below.mono (by assumption) (by first | omega | (simp; omega) | (simp; done) | (dsimp only; omega))))))
  clear hW
  have zW2 := z2
  clear f0 f1 f2 k0 k1
  refine region_seqg (W := W) [_, _, _, _, _, _] [_, _] rfl (by kernel_rfl) (by kernel_rfl) (by repeat (first | (with_reducible assumption) | (with_reducible exact Below.refl _ _) | (with_reducible refine Below.alloc ?_ (by first | omega | (simp; omega) | (simp; done) | (dsimp only; omega)) _) | (with_reducible refine Below.setCell ?_ (by first | omega | (simp; omega) | (simp; done) | (dsimp only; omega)) _) | (with_reducible refine Below.drew ?_) | (with_reducible refine Below.trans ?_ (Below.mono (by assumption) (by first | omega | (simp; omega) | (simp; done) | (dsimp only; omega)))))) (fun fin hfin => ?_)
  iterate 1
    first
      | (refine SeqG.yes (v := ?_) (A' := ?_) rfl (fun γ => by rfl) ?_ ?_ ?_
         rotate_left 2
         · intro γ w' K hS hK
           obtain ⟨hc, hf⟩ := bcell hS
           have hz := hS.size
           go_simp
           first
             | exact hK.out _ (Below.refl _ _)
             | trace_state
         · intro γ; simp only [Act.put, List.setIfInBounds_toArray, List.set_cons_zero, List.set_cons_succ]; exact rfl)
      | (refine SeqG.no (A' := ?_) rfl (fun γ => by rfl) ?_ ?_
         rotate_left
         · intro γ; simp only [Act.put, List.setIfInBounds_toArray, List.set_cons_zero, List.set_cons_succ]; exact rfl)
  refine SeqG.make (k := 1) (A' := ?_) (fun g => .agg #[.bool x.s.s, .int .i64 x.s.lo, .int .i64 x.s.hi, .bool x.c.s, .int .i64 x.c.m, .int .i64 x.c.r, .bool na, .slice (gA g) (srt la).length (g 2)]) (RSetG (srt la)) rfl (fun γ => by rfl) (RSetG.stable _) ?_ ?_ ?_
  rotate_left
  · intro γ w' K hS hF hK
    obtain ⟨hc, hf⟩ := bcell hS
    have hz := hS.size
    go_simp
    (go_at_call 23; refine (HA.out w' (HW.trans (hS.mono HW.size))).mono ?_; rintro e w1 ⟨⟨A1, c1, rfl, hmade⟩, hb1⟩; obtain ⟨g, rfl, rfl, hg⟩ := MadeV.ghost hmade (by omega) (lo := w'.heap.size); exact hK.out g w1 hb1 hg)
  · intro γ; simp only [Act.put, List.setIfInBounds_toArray, List.set_cons_zero, List.set_cons_succ]; exact rfl
  iterate 1
    first
      | (refine SeqG.yes (v := ?_) (A' := ?_) rfl (fun γ => by rfl) ?_ ?_ ?_
         rotate_left 2
         · intro γ w' K hS hK
           obtain ⟨hc, hf⟩ := bcell hS
           have hz := hS.size
           go_simp
           first
             | exact hK.out _ (Below.refl _ _)
             | trace_state
         · intro γ; simp only [Act.put, List.setIfInBounds_toArray, List.set_cons_zero, List.set_cons_succ]; exact rfl)
      | (refine SeqG.no (A' := ?_) rfl (fun γ => by rfl) ?_ ?_
         rotate_left
         · intro γ; simp only [Act.put, List.setIfInBounds_toArray, List.set_cons_zero, List.set_cons_succ]; exact rfl)
  refine SeqG.make (k := 3) (A' := ?_) (fun g => .agg #[.bool y.s.s, .int .i64 y.s.lo, .int .i64 y.s.hi, .bool y.c.s, .int .i64 y.c.m, .int .i64 y.c.r, .bool nb, .slice (gA g) (srt lb).length (g 2)]) (RSetG (srt lb)) rfl (fun γ => by rfl) (RSetG.stable _) ?_ ?_ ?_
  rotate_left
  · intro γ w' K hS hF hK
    obtain ⟨hc, hf⟩ := bcell hS
    have hz := hS.size
    go_simp
    (go_at_call 23; refine (HB.out w' (HW.trans (hS.mono HW.size))).mono ?_; rintro e w1 ⟨⟨A1, c1, rfl, hmade⟩, hb1⟩; obtain ⟨g, rfl, rfl, hg⟩ := MadeV.ghost hmade (by omega) (lo := w'.heap.size); exact hK.out g w1 hb1 hg)
  · intro γ; simp only [Act.put, List.setIfInBounds_toArray, List.set_cons_zero, List.set_cons_succ]; exact rfl
  refine SeqG.make (k := 4) (A' := ?_) (fun g => .pointer (some ⟨g 0, 0, none⟩)) (RCell #[.bool false, .int .i64 0, .int .i64 0, .bool false, .int .i64 0, .int .i64 0, .bool false, .slice none 0 0] 55) rfl (fun γ => by rfl) (RCell.stable _ _) ?_ ?_ ?_
  rotate_left
  · intro γ w' K hS _ hK
    have hm := RCell.made (#[.bool false, .int .i64 0, .int .i64 0, .bool false, .int .i64 0, .int .i64 0, .bool false, .slice none 0 0]) (55) w'
    have HK := Lib.hid (hK.out (fun _ => w'.heap.size) (w'.alloc (.cells #[.bool false, .int .i64 0, .int .i64 0, .bool false, .int .i64 0, .int .i64 0, .bool false, .slice none 0 0] 55)) ((Below.refl _ _).alloc (Nat.le_refl _) _) hm); clear hK hm
    go_simp
    exact HK.out
  · intro γ; simp only [Act.put, List.setIfInBounds_toArray, List.set_cons_zero, List.set_cons_succ]; exact rfl
  refine SeqG.make (k := 5) (A' := ?_) (fun g => .pointer (some ⟨g 0, 0, none⟩)) (RCell #[.bool false, .int .i64 0, .int .i64 0, .bool false, .int .i64 0, .int .i64 0, .bool false, .slice none 0 0] 55) rfl (fun γ => by rfl) (RCell.stable _ _) ?_ ?_ ?_
  rotate_left
  · intro γ w' K hS _ hK
    have hm := RCell.made (#[.bool false, .int .i64 0, .int .i64 0, .bool false, .int .i64 0, .int .i64 0, .bool false, .slice none 0 0]) (55) w'
    have HK := Lib.hid (hK.out (fun _ => w'.heap.size) (w'.alloc (.cells #[.bool false, .int .i64 0, .int .i64 0, .bool false, .int .i64 0, .int .i64 0, .bool false, .slice none 0 0] 55)) ((Below.refl _ _).alloc (Nat.le_refl _) _) hm); clear hK hm
    go_simp
    exact HK.out
  · intro γ; simp only [Act.put, List.setIfInBounds_toArray, List.set_cons_zero, List.set_cons_succ]; exact rfl
  refine SeqG.nil (hfin.out _ _ ?_)
  clear hfin fin
  intro γ lo hi w1 hB1 hF hD
  replace hF := listF4 hF
  dsimp only at hF
  replace hD := listD4 hD
  dsimp only at hD
  obtain ⟨hD0, hD1, hD2, hD3, hD4, hD5⟩ := hD
  replace hD0 := hD0 (by decide)
  replace hD1 := hD1 (by decide)
  replace hD2 := hD2 (by decide)
  replace hD3 := hD3 (by decide)
  replace hD4 := hD4 (by decide)
  replace hD5 := hD5 (by decide)
  obtain ⟨⟨y1, l1, o1, r1, m1, t1, n1, s1⟩, ⟨y3, l3, o3, r3, m3, t3, n3, s3⟩, ⟨y4, l4, o4, p4, p4', h4⟩, ⟨y5, l5, o5, p5, p5', h5⟩⟩ := hF
  have w4 : W.heap.size ≤ γ 4 0 := by omega
  have w5 : W.heap.size ≤ γ 5 0 := by omega
  have x4 : γ 4 0 < w1.heap.size := by omega
  have x5 : γ 5 0 < w1.heap.size := by omega
  have n45 : γ 4 0 ≠ γ 5 0 := by omega
  have F1 : ∀ a, gA (γ 1) = some a → srt la ≠ [] → a.block ≠ γ 4 0 ∧ a.block ≠ γ 5 0 := fun a e hne => by
    have h1 := (s1 a e).1; have h2 := (s1 a e).2 hne; omega
  have F3 : ∀ a, gA (γ 3) = some a → srt lb ≠ [] → a.block ≠ γ 4 0 ∧ a.block ≠ γ 5 0 := fun a e hne => by
    have h1 := (s3 a e).1; have h2 := (s3 a e).2 hne; omega
  clear hD0 hD1 hD2 hD3 hD4 hD5 s1 s3 y1 l1 o1 y3 l3 o3 y4 l4 o4 p4 p4' y5 l5 o5 p5 p5' m1 t1 m3 t3
  generalize γ 4 0 = bp at *
  generalize γ 5 0 = bq at *
  generalize gA (γ 1) = A1 at *
  generalize γ 1 2 = c1 at *
  generalize gA (γ 3) = A3 at *
  generalize γ 3 2 = c3 at *
  have n54 := Ne.symm n45
  have H4 := Lib.hid h4; have H5 := Lib.hid h5; have HF1 := Lib.hid F1; have HF3 := Lib.hid F3; have HR1 := Lib.hid r1; have HR3 := Lib.hid r3; have HN1 := Lib.hid n1; have HN3 := Lib.hid n3
  clear h4 h5 F1 F3 r1 r3 n1 n3
  refine TailL.cons (fun K hK => ?_)
  refine wp_store_mid _ _ _ rfl bp 0 _ rfl rfl (st8_there H4.out) (by kernel_rfl) (by simp [Value.oneCell']) ?_
  rw [st8_set]
  generalize hX1 : st8 w1 bp (.bool x.s.s) (.int .i64 x.s.lo) (.int .i64 x.s.hi) (.bool x.c.s) (.int .i64 x.c.m) (.int .i64 x.c.r) (.bool na) (.slice A1 (srt la).length c1) = X1
  have K4 := Lib.hid (show X1.heap[bp]? = some (.cells #[.bool x.s.s, .int .i64 x.s.lo, .int .i64 x.s.hi, .bool x.c.s, .int .i64 x.c.m, .int .i64 x.c.r, .bool na, .slice A1 (srt la).length c1] 55) by rw [← hX1]; exact st8_blk H4.out)
  have K5 := Lib.hid ((show X1.heap[bq]? = w1.heap[bq]? by rw [← hX1]; exact st8_far _ _ n54).trans H5.out)
  have HX1 : Below W.heap.size W X1 := by rw [← hX1]; exact st8_below hB1 w4
  have Q1 := Lib.hid (show SRow X1 A1 (srt la) from HR1.out.far (fun a e hne p hp => by rw [← hX1]; exact st8_cell _ _ (by rw [hp]; exact (HF1.out a e hne).1)))
  have Q3 := Lib.hid (show SRow X1 A3 (srt lb) from HR3.out.far (fun a e hne p hp => by rw [← hX1]; exact st8_cell _ _ (by rw [hp]; exact (HF3.out a e hne).1)))
  clear hX1 H4 H5 HR1 HR3 hB1 x4 x5
  refine hK.out _ _ ?_
  clear hK K
  refine TailL.cons (fun K hK => ?_)
  refine wp_store_mid _ _ _ rfl bq 0 _ rfl rfl (st8_there K5.out) (by kernel_rfl) (by simp [Value.oneCell']) ?_
  rw [st8_set]
  generalize hX : st8 X1 bq (.bool y.s.s) (.int .i64 y.s.lo) (.int .i64 y.s.hi) (.bool y.c.s) (.int .i64 y.c.m) (.int .i64 y.c.r) (.bool nb) (.slice A3 (srt lb).length c3) = X
  have kp : X.heap[bp]? = some (.cells #[.bool x.s.s, .int .i64 x.s.lo, .int .i64 x.s.hi, .bool x.c.s, .int .i64 x.c.m, .int .i64 x.c.r, .bool na, .slice A1 (srt la).length c1] 55) := by rw [← hX]; exact (st8_far _ _ n45).trans K4.out
  have kq : X.heap[bq]? = some (.cells #[.bool y.s.s, .int .i64 y.s.lo, .int .i64 y.s.hi, .bool y.c.s, .int .i64 y.c.m, .int .i64 y.c.r, .bool nb, .slice A3 (srt lb).length c3] 55) := by rw [← hX]; exact st8_blk K5.out
  have HX : Below W.heap.size W X := by rw [← hX]; exact st8_below HX1 w5
  have R1 : SRow X A1 (srt la) := Q1.out.far (fun a e hne p hp => by rw [← hX]; exact st8_cell _ _ (by rw [hp]; exact (HF1.out a e hne).2))
  have R3 : SRow X A3 (srt lb) := Q3.out.far (fun a e hne p hp => by rw [← hX]; exact st8_cell _ _ (by rw [hp]; exact (HF3.out a e hne).2))
  clear hX K4 K5 HF1 HF3 Q1 Q3 HX1
  refine hK.out _ _ ?_
  clear hK K
  simp only [Act.put]
  refine TailL.nil ?_
  have hwb : w.heap.size ≤ W.heap.size := by omega
  have kr := (HX.block _ z2).trans k2
  have HBX := HW.trans (HX.mono hwb)
  have hbX := HX.size
  clear q0_0 q0_1 q0_2 q0_3 q0_4 q0_5 q0_6 q0_7 q1_0 q1_1 q1_2 q1_3 q1_4 q1_5 q1_6 q1_7 q2_0 q2_1 q2_2 q2_3 q2_4 q2_5 q2_6 q2_7 HA HB hla hlb hza hzb k2 z0 z1 z2
  have p_0 := blk_cell kp 0
  have p_1 := blk_cell kp 1
  have p_2 := blk_cell kp 2
  have p_3 := blk_cell kp 3
  have p_4 := blk_cell kp 4
  have p_5 := blk_cell kp 5
  have p_6 := blk_cell kp 6
  have p_7 := blk_cell kp 7
  simp only [List.getElem?_toArray, List.getElem?_cons_zero, List.getElem?_cons_succ] at p_0 p_1 p_2 p_3 p_4 p_5 p_6 p_7
  have fp := blk_free kp
  have zp := blk_lt kp
  have q_0 := blk_cell kq 0
  have q_1 := blk_cell kq 1
  have q_2 := blk_cell kq 2
  have q_3 := blk_cell kq 3
  have q_4 := blk_cell kq 4
  have q_5 := blk_cell kq 5
  have q_6 := blk_cell kq 6
  have q_7 := blk_cell kq 7
  simp only [List.getElem?_toArray, List.getElem?_cons_zero, List.getElem?_cons_succ] at q_0 q_1 q_2 q_3 q_4 q_5 q_6 q_7
  have fq := blk_free kq
  have zq := blk_lt kq
  have zr := blk_lt kr
  clear HX HW
  have HR1 := Lib.hid R1; have HR3 := Lib.hid R3
  clear R1 R3
  go_upto_region 2 with fail
  refine region_seqg (W := X) [_, _, _, _, _, _, _, _, _, _, _, _, _, _, _, _, _, _, _, _, _] [_] rfl (by kernel_rfl) (by kernel_rfl) (by repeat (first | (with_reducible assumption) | (with_reducible exact Below.refl _ _) | (with_reducible refine Below.alloc ?_ (by first | omega | (simp; omega) | (simp; done) | (dsimp only; omega)) _) | (with_reducible refine Below.setCell ?_ (by first | omega | (simp; omega) | (simp; done) | (dsimp only; omega)) _) | (with_reducible refine Below.drew ?_) | (with_reducible refine Below.trans ?_ (Below.mono (by assumption) (by first | omega | (simp; omega) | (simp; done) | (dsimp only; omega)))))) (fun fin hfin => ?_)
  iterate 18
    first
      | (refine SeqG.yes (v := ?_) (A' := ?_) rfl (fun γ => by rfl) ?_ ?_ ?_
         rotate_left 2
         · intro γ w' K hS hK
           obtain ⟨hc, hf⟩ := bcell hS
           have hz := hS.size
           go_simp
           first
             | exact hK.out _ (Below.refl _ _)
             | (go_at_call 42; (with_reducible refine (H1.out w').mono ?_); rintro e w1 ⟨rfl, hb1⟩; exact hK.out _ hb1)
             | (go_at_call 43; (with_reducible refine (H2.out w').mono ?_); rintro e w1 ⟨rfl, hb1⟩; exact hK.out _ hb1)
             | trace_state
         · intro γ; simp only [Act.put, List.setIfInBounds_toArray, List.set_cons_zero, List.set_cons_succ]; exact rfl)
      | (refine SeqG.no (A' := ?_) rfl (fun γ => by rfl) ?_ ?_
         rotate_left
         · intro γ; simp only [Act.put, List.setIfInBounds_toArray, List.set_cons_zero, List.set_cons_succ]; exact rfl)
  refine SeqG.make (k := 18) (A' := ?_) (fun g => .agg #[.bool (na && nb), .slice (gA g) (srt (meetL la lb)).length (g 2)]) (RSetG (srt (meetL la lb))) rfl (fun γ => by rfl) (RSetG.stable _) ?_ ?_ ?_
  rotate_left
  · intro γ w' K hS hF hK
    obtain ⟨hc, hf⟩ := bcell hS
    have hz := hS.size
    go_simp
    (go_at_call 44; refine (H3.out A1 A3 c1 c3 w' (HR1.out.mono hS) (HR3.out.mono hS)).mono ?_; rintro e w1 ⟨⟨v, rfl, hset⟩, hb1⟩; obtain ⟨g, rfl, hg⟩ := SetV.ghost hset (by omega) (lo := w'.heap.size); exact hK.out g w1 hb1 hg)
  · intro γ; simp only [Act.put, List.setIfInBounds_toArray, List.set_cons_zero, List.set_cons_succ]; exact rfl
  refine SeqG.hang (k := 19) (A' := ?_) (fun γ => .agg #[.bool ms.s, .int .i64 ms.lo, .int .i64 ms.hi, .bool mc.s, .int .i64 mc.m, .int .i64 mc.r, .bool (na && nb), .slice (gA (γ 18)) (srt (meetL la lb)).length (γ 18 2)]) rfl (fun γ => by rfl) (fun i _ hn γ g => ?_) (fun γ g => ?_) ?_ ?_ ?_
  rotate_left
  · have hne18 : 18 ≠ i := fun e => hn (by rw [← e]; exact reachL_spec (of_decide_eq_true (by kernel_rfl)))
    (try dsimp only); rw [updG_ne γ g hne18]
  · (try dsimp only); rw [updG_ne γ g (show 18 ≠ 19 by decide)]
  · intro γ w' K hS _ hK
    obtain ⟨hc, hf⟩ := bcell hS
    have hz := hS.size
    go_simp
    exact hK.out _ (Below.refl _ _)
  · intro γ; simp only [Act.put, List.setIfInBounds_toArray, List.set_cons_zero, List.set_cons_succ]; exact rfl
  refine SeqG.make (k := 20) (A' := ?_) (fun g => .agg #[.bool u.s.s, .int .i64 u.s.lo, .int .i64 u.s.hi, .bool u.c.s, .int .i64 u.c.m, .int .i64 u.c.r, .bool (na && nb), .slice (gA g) (srt (meetL la lb)).length (g 2)]) (RSetG (srt (meetL la lb))) rfl (fun γ => by rfl) (RSetG.stable _) ?_ ?_ ?_
  rotate_left
  · intro γ w' K hS hF hK
    obtain ⟨hc, hf⟩ := bcell hS
    have hz := hS.size
    obtain ⟨_, _, _, _, r18, m18, t18, n18, _⟩ := hF (18, RSetG (srt (meetL la lb))) (by simp) (reachL_spec (of_decide_eq_true (by kernel_rfl)))
    go_simp
    (go_at_call 41; refine (H4.out _ _ w' n18 r18).mono ?_; rintro e w1 ⟨⟨A1, c1, rfl, hmade⟩, hb1⟩; obtain ⟨g, rfl, rfl, hg⟩ := MadeV.ghost hmade (by omega) (lo := w'.heap.size); exact hK.out g w1 hb1 hg)
  · intro γ; simp only [Act.put, List.setIfInBounds_toArray, List.set_cons_zero, List.set_cons_succ]; exact rfl
  refine SeqG.nil (hfin.out _ _ ?_)
  clear hfin fin
  intro γ lo hi w1 hB1 hF hD
  replace hF := listF2 hF
  dsimp only at hF
  replace hD := listD2 hD
  dsimp only at hD
  replace hD := hD (by decide)
  obtain ⟨_, ⟨y8, l8, o8, hR⟩⟩ := hF
  have hM := RSetG.made hR
  replace hM := hM.base (show w.heap.size + 3 ≤ lo 20 by omega)
  have kr1 := (hB1.block _ zr).trans kr
  have HB := HBX.trans (hB1.mono HBX.size)
  generalize gA (γ 20) = A7 at *
  generalize γ 20 2 = c7 at *
  clear hR hB1 p_0 p_1 p_2 p_3 p_4 p_5 p_6 p_7 q_0 q_1 q_2 q_3 q_4 q_5 q_6 q_7 fp fq zp zq kp kq kr zr HBX hbX y8 l8 o8
  have r_0 := blk_cell kr1 0
  have r_1 := blk_cell kr1 1
  have r_2 := blk_cell kr1 2
  have r_3 := blk_cell kr1 3
  have r_4 := blk_cell kr1 4
  have r_5 := blk_cell kr1 5
  have r_6 := blk_cell kr1 6
  have r_7 := blk_cell kr1 7
  simp only [List.getElem?_toArray, List.getElem?_cons_zero, List.getElem?_cons_succ] at r_0 r_1 r_2 r_3 r_4 r_5 r_6 r_7
  have fr := blk_free kr1
  have zr := blk_lt kr1
  refine TailL.cons (fun K hK => ?_)
  go_simp
  refine hK.out _ _ ?_
  clear hK K
  refine TailL.nil ?_
  go_wp2
  refine bodyPost_ret (by simp [results, Tryz.results12, go_sem, *] <;> rfl) rfl ⟨⟨A7, c7, rfl, (by (refine MadeV.base (b := w.heap.size + 3) ?_ (by omega)); (repeat refine MadeV.setCell ?_ (by first | omega | (simp; omega)) _); first | exact hM | exact hM.base (by omega))⟩, (by repeat (first | (with_reducible assumption) | (with_reducible exact Below.refl _ _) | (with_reducible refine Below.alloc ?_ (by first | omega | (simp; omega) | (simp; done) | (dsimp only; omega)) _) | (with_reducible refine Below.setCell ?_ (by first | omega | (simp; omega) | (simp; done) | (dsimp only; omega)) _) | (with_reducible refine Below.drew ?_) | (with_reducible refine Below.trans ?_ (Below.mono (by assumption) (by first | omega | (simp; omega) | (simp; done) | (dsimp only; omega))))))⟩
end Go.Proofs.YtdpnphnafidpiaaGreat

/- Joins, meets, widening and narrowing of values' ints (pure). Layer 8. -/
namespace Go.Proofs.YtdpnphnafidpiaaGreat
open Go.RowKit

theorem In.join_std' {a b : In} (ha : a.ok) (hb : b.ok) : (a.join b).std := In.joinC_std (In.clean_std ha) (In.clean_std hb)
theorem In.join_up {a b : In} (ha : a.ok) (hb : b.ok) : a.leq (a.join b) = true ∧ b.leq (a.join b) = true := by
  have hx := In.clean_std ha
  have hy := In.clean_std hb
  have hj := In.join_std' ha hb
  obtain ⟨j1, j2, j3, _, _⟩ := Cg.join_std hx.2.1 hy.2.1.1
  obtain ⟨s1, s2⟩ := Sp.join_up a.clean.s b.clean.s
  unfold In.leq
  rw [In.std_clean hj]
  exact ⟨by rw [Bool.and_eq_true]; exact ⟨s1, j2⟩, by rw [Bool.and_eq_true]; exact ⟨s2, j3⟩⟩
theorem Sp.has_mono {a b : Sp} (h : a.leq b = true) {n : Int} (hn : a.has n = true) : b.has n = true := by
  have ha : a.none = false := by
    cases h' : a.none
    · rfl
    · rw [Sp.none_has h'] at hn; cases hn
  rcases (Sp.leq_iff a b).1 h with h' | ⟨h1, h2, h3⟩
  · rw [ha] at h'; cases h'
  · have hb := (Sp.none_iff b).1 h1
    unfold Sp.has at hn ⊢
    rw [hb.1]
    simp only [Bool.and_eq_true, decide_eq_true_eq] at hn ⊢
    exact ⟨⟨trivial, by omega⟩, by omega⟩
theorem In.has_mono {a b : In} (ha : a.ok) (hb : b.ok) (h : a.leq b = true) {n : Int} (hn : a.has n = true) : b.has n = true := by
  rw [← In.clean_has ha] at hn
  rw [← In.clean_has hb]
  unfold In.leq at h
  unfold In.has at hn ⊢
  rw [Bool.and_eq_true] at h hn ⊢
  exact ⟨Sp.has_mono h.1 hn.1, Cg.has_mono (In.clean_std ha).2.1 (In.clean_std hb).2.1 h.2 hn.2⟩
theorem Sp.meet_has (x y : Sp) (n : Int) : (x.meet y).has n = (x.has n && y.has n) := by
  cases h : x.none
  · cases h' : y.none
    · have h1 := (Sp.none_iff x).1 h
      have h2 := (Sp.none_iff y).1 h'
      rw [Sp.meet_00 h h']
      have e : ∀ lo hi : Int, (Sp.of lo hi).has n = (decide (lo ≤ n) && decide (n ≤ hi)) := fun lo hi => by
        by_cases hh : hi < lo
        · rw [Sp.of_t hh, show (Sp.mk false 0 0).has n = false from rfl]
          rw [Bool.eq_iff_iff]; simp; omega
        · rw [Sp.of_f hh, Sp.has_mk]
      rw [e]
      unfold Sp.has
      rw [h1.1, h2.1, Bool.eq_iff_iff]
      simp
      omega
    · rw [Sp.meet_01 h h', Sp.none_has h', Bool.and_false]; rfl
  · rw [Sp.meet_1 h, Sp.none_has h, Bool.false_and]; rfl
theorem In.meetP_ok {a b : In} (ha : a.ok) (hb : b.ok) : (a.meetP b).ok := by
  have hx := In.clean_std ha
  have hy := In.clean_std hb
  refine ⟨Sp.meet_ok hx.1 hy.1, ?_⟩
  have := (meetC_spec hx.2.1 hy.2.1).1.1
  show (a.clean.c.meet b.clean.c).ok
  unfold Cg.meet; rw [Cg.std_clean hx.2.1, Cg.std_clean hy.2.1]; exact this
theorem In.meetP_has (a b : In) (n : Int) : (a.meetP b).has n = ((a.clean.s.has n && b.clean.s.has n) && (a.clean.c.meet b.clean.c).has n) := by
  unfold In.has In.meetP; dsimp only; rw [Sp.meet_has]
theorem In.meet_in {a b : In} (ha : a.ok) (hb : b.ok) {n : Int} (h1 : a.has n = true) (h2 : b.has n = true) : (a.meetP b).red.has n = true := by
  have hx := In.clean_std ha
  have hy := In.clean_std hb
  rw [← In.clean_has ha] at h1
  rw [← In.clean_has hb] at h2
  unfold In.has at h1 h2
  rw [Bool.and_eq_true] at h1 h2
  have hm := (meetC_spec hx.2.1 hy.2.1).2.1 n h1.2 h2.2
  rw [In.red, In.red_has (In.clean_std (In.meetP_ok ha hb)), In.clean_has (In.meetP_ok ha hb), In.meetP_has, h1.1, h2.1]
  unfold Cg.meet; rw [Cg.std_clean hx.2.1, Cg.std_clean hy.2.1, hm]; rfl
theorem In.meet_is {a b : In} (ha : a.ok) (hb : b.ok) (hl : ¬ (0 < a.clean.c.m ∧ 0 < b.clean.c.m ∧ 9223372036854775807 < lcmI a.clean.c.m b.clean.c.m)) (n : Int) : (a.meetP b).red.has n = (a.has n && b.has n) := by
  have hx := In.clean_std ha
  have hy := In.clean_std hb
  have hm := ((meetC_spec hx.2.1 hy.2.1).2.2.2.2 hl).2.2 n
  rw [In.red, In.red_has (In.clean_std (In.meetP_ok ha hb)), In.clean_has (In.meetP_ok ha hb), In.meetP_has, ← In.clean_has ha, ← In.clean_has hb]
  unfold Cg.meet; rw [Cg.std_clean hx.2.1, Cg.std_clean hy.2.1, hm]
  unfold In.has
  cases a.clean.s.has n <;> cases b.clean.s.has n <;> cases a.clean.c.has n <;> cases b.clean.c.has n <;> rfl
theorem In.widen_std' {a b : In} (L : List Int) (ha : a.ok) (hb : b.ok) : (a.widen b L).std := In.widenC_std L (In.clean_std ha) (In.clean_std hb)
theorem In.join_widen {a b : In} (L : List Int) (ha : a.ok) (hb : b.ok) : (a.join b).leq (a.widen b L) = true := by
  have hx := In.clean_std ha
  have hy := In.clean_std hb
  have hj := In.join_std' ha hb
  obtain ⟨_, _, w3, w4, _⟩ := Sp.widen_ok (s := a.clean.s) (x := b.clean.s) L hx.1 hy.1 (Sp.clean_of_ok hx)
  unfold In.leq
  rw [In.std_clean hj, In.std_clean (In.widen_std' L ha hb)]
  rw [Bool.and_eq_true]
  refine ⟨?_, ?_⟩
  · show (a.clean.s.join b.clean.s).leq (a.clean.s.widen b.clean.s L) = true
    rw [Sp.lub, w3, w4]; rfl
  · exact Cg.leq_self hj.2.1
/-- Narrowing a clean value by a lesser one stays between. -/
theorem In.narrow_mid {j b : In} (hj : j.std) (hb : b.ok) (h : b.leq j = true) : (In.narrowC j b.clean).ok ∧ b.leq (In.narrowC j b.clean) = true ∧ (In.narrowC j b.clean).leq j = true := by
  have hy := In.clean_std hb
  have hcl := Sp.clean_of_ok hj
  obtain ⟨n1, n2⟩ := Sp.narrow_between (s := j.s) b.clean.s hcl
  unfold In.leq at h
  rw [In.std_clean hj, Bool.and_eq_true] at h
  obtain ⟨h1, h2⟩ := h
  have n2 := n2 h1
  generalize hc : (if j.isAll = true then b.clean.c else j.c) = c
  have hcs : c.std := by rw [← hc]; split; exact hy.2.1; exact hj.2.1
  have hbc : b.clean.c.leq c = true := by rw [← hc]; split; exact Cg.leq_self hy.2.1; exact h2
  have hcj : c.leq j.c = true := by rw [← hc]; split; exact h2; exact Cg.leq_self hj.2.1
  have hko : (In.mk (j.s.narrow b.clean.s) c).ok := ⟨Sp.narrow_ok hj.1 hy.1, hcs.1⟩
  have hks := In.clean_std hko
  have e : In.narrowC j b.clean = In.clean ⟨j.s.narrow b.clean.s, c⟩ := by unfold In.narrowC; rw [hc]
  rw [e]
  refine ⟨In.std_ok hks, ?_, ?_⟩
  · unfold In.leq
    rw [In.std_clean hks]
    rcases hy.2.2 with ⟨e1, e2⟩ | ⟨e1, e2⟩
    · rw [e1, e2]; exact (by rw [Sp.leq_zero, Cg.leq_zero]; rfl)
    · have hnn : (j.s.narrow b.clean.s).none = false := by
        rcases (Sp.leq_iff _ _).1 n2 with h' | h'
        · rw [e1] at h'; cases h'
        · exact h'.1
      have hcs1 : c.s = true := by
        cases hcs0 : c.s
        · have hz := hcs.2.2.1 hcs0
          rw [hz] at hbc
          unfold Cg.leq Cg.leqC at hbc
          rw [Cg.std_clean hy.2.1, e2] at hbc
          cases hbc
        · rfl
      rw [In.clean_f (show (In.mk (j.s.narrow b.clean.s) c).none = false by unfold In.none; dsimp only; rw [hnn, hcs1]; rfl)]
      dsimp only
      rw [Cg.std_clean hcs, n2, hbc]; rfl
  · unfold In.leq
    rw [In.std_clean hks, In.std_clean hj]
    cases hn : (In.mk (j.s.narrow b.clean.s) c).none
    · rw [In.clean_f hn]
      dsimp only
      rw [Cg.std_clean hcs, n1, hcj]; rfl
    · rw [In.clean_t hn, show In.zero.s = Sp.zero from rfl, show In.zero.c = Cg.zero from rfl, Sp.leq_zero, Cg.leq_zero]; rfl
theorem hasP_join (na nb : Bool) (la lb : List Str) (x : Str) : (if x == [] then (na || nb) else hasL (srt (la ++ lb)) x) = ((if x == [] then na else hasL la x) || (if x == [] then nb else hasL lb x)) := by
  cases x == []
  · simp only [Bool.false_eq_true, if_false]
    rw [Bool.eq_iff_iff, Bool.or_eq_true, hasL_iff, hasL_iff, hasL_iff, mem_srt, List.mem_append]
  · rfl
theorem hasP_meet (na nb : Bool) (la lb : List Str) (x : Str) : (if x == [] then (na && nb) else hasL (srt (meetL la lb)) x) = ((if x == [] then na else hasL la x) && (if x == [] then nb else hasL lb x)) := by
  cases x == []
  · simp only [Bool.false_eq_true, if_false]
    rw [Bool.eq_iff_iff, Bool.and_eq_true, hasL_iff, hasL_iff, hasL_iff, mem_srt, mem_meetL]
  · rfl
theorem nonV_leq {y : In} {n : Bool} {l : List Str} (h : nonV y n l = true) : y.none = true ∧ n = false ∧ l = [] := by
  unfold nonV at h
  simp only [Bool.and_eq_true, Bool.not_eq_true', beq_iff_eq] at h
  refine ⟨h.1, h.2.1, ?_⟩
  have e : srt l = [] := List.eq_nil_of_length_eq_zero h.2.2
  cases l with
  | nil => rfl
  | cons z l => have := (mem_srt (z :: l) z).2 List.mem_cons_self; rw [e] at this; simp at this
end Go.Proofs.YtdpnphnafidpiaaGreat

/- X-PARTIAL Common multiples: sizes (pure). -/
namespace Go.Proofs.YtdpnphnafidpiaaGreat
open Go.RowKit

theorem lcm_parts {x y : Cg} (hx : x.ok) (hy : y.ok) (h1 : 0 < x.m) (h2 : 0 < y.m) : ∃ g b : Int, gcdI x.m y.m = g ∧ 0 < g ∧ g ≤ 9223372036854775807 ∧ y.m.tdiv g = b ∧ 0 < b ∧ b ≤ 9223372036854775807 ∧ x.m * b = lcmI x.m y.m ∧ 0 ≤ lcmI x.m y.m ∧ lcmI x.m y.m ≤ 9223372036854775807 * 9223372036854775807 := by
  obtain ⟨g, a, b, i, e1, hg, e2, e3, e4, e5, pa, pb, -, -, -, -, -, e7⟩ := gcd_parts h1 h2
  have hxm := hx.1
  have hym := hy.1
  unfold I64 at hxm hym
  have b1 : b ≤ y.m := by rw [← e5]; exact Int.ediv_le_self _ (by omega)
  have g1 : g ≤ x.m := Int.le_of_dvd h1 ⟨a, e2⟩
  have p0 : 0 ≤ x.m * b := Int.mul_nonneg (by omega) (by omega)
  have p1 : x.m * b ≤ 9223372036854775807 * 9223372036854775807 := Int.mul_le_mul (by omega) (by omega) (by omega) (by omega)
  exact ⟨g, b, e1, hg, by omega, by rw [Int.tdiv_eq_ediv_of_nonneg (by omega)]; exact e5, pb, by omega, e7.symm, by omega, by omega⟩

end Go.Proofs.YtdpnphnafidpiaaGreat

/- Narrowing a join by one of its two values: layer 8. -/
namespace Go.Proofs.YtdpnphnafidpiaaGreat
open Go.RowKit

theorem leqS_nil (n : Bool) (l : List Str) : leqS false [] n l = true := by rw [leq_iff]; exact ⟨fun x h => by simp at h, fun h => by cases h⟩
theorem leqS_refl (n : Bool) (l : List Str) : leqS n l n l = true := by rw [leq_iff]; exact ⟨fun x h => h, fun h => h⟩
theorem narrow_any (j b : In) (hj : j.std) (hb : b.ok) (nj nb : Bool) (T lb : List Str) (B : Option Addr) (cb : Nat) (w : World) (mT : T.length * 16 ≤ 140737488355328) (mb : lb.length * 16 ≤ 140737488355328) (hzb : B = none → cb = 0) (hrb : SRow w B lb) (hT : srt T = T)
    (h1 : b.leq j = true) (h2 : leqS nb lb nj T = true) :
    ∃ (K : In) (kn : Bool) (kl : List Str), K.ok ∧ kl.length ≤ T.length ∧ b.leq K = true ∧ leqS nb lb kn kl = true ∧ K.leq j = true ∧ leqS kn kl nj T = true ∧
      ∀ (A1 : Option Addr) (c1 : Nat) (w' : World), (A1 = none → c1 = 0) → SRow w' A1 T → Below w.heap.size w w' →
        Calls Tryz.prog 8 #[.agg #[.bool j.s.s, .int .i64 j.s.lo, .int .i64 j.s.hi, .bool j.c.s, .int .i64 j.c.m, .int .i64 j.c.r, .bool nj, .slice A1 T.length c1], .agg #[.bool b.s.s, .int .i64 b.s.lo, .int .i64 b.s.hi, .bool b.c.s, .int .i64 b.c.m, .int .i64 b.c.r, .bool nb, .slice B lb.length cb]] w' fun e w'' => (∃ A' c', e = .returned (.agg #[.bool K.s.s, .int .i64 K.s.lo, .int .i64 K.s.hi, .bool K.c.s, .int .i64 K.c.m, .int .i64 K.c.r, .bool kn, .slice A' kl.length c']) ∧ MadeV w'.heap.size w'' A' c' kl) ∧ Below w'.heap.size w' w'' := by
  have hp : (b.leq j && leqS nb lb nj T) = true := by rw [h1, h2]; rfl
  have ej := In.std_clean hj
  cases hq : nonV b.clean nb lb
  · obtain ⟨m1, m2, m3⟩ := In.narrow_mid hj hb h1
    refine ⟨In.narrowC j b.clean, nj, T, m1, Nat.le_refl _, m2, h2, m3, leqS_refl _ _, fun A1 c1 w' n1 r1 h => ?_⟩
    cases hall : j.clean.isAll
    · have := value_Narrow_3f j b (In.std_ok hj) hb nj nb T lb A1 B c1 cb w' mT mb n1 hzb r1 (hrb.mono h) hp hq hall
      rw [hT, ej] at this
      exact this
    · have := value_Narrow_3t j b (In.std_ok hj) hb nj nb T lb A1 B c1 cb w' mT mb n1 hzb r1 (hrb.mono h) hp hq hall
      rw [hT, ej] at this
      exact this
  · obtain ⟨q1, rfl, rfl⟩ := nonV_leq hq
    have hy : b.clean = In.zero := by
      rcases (In.clean_std hb).2.2 with ⟨e1, e2⟩ | ⟨e1, e2⟩
      · exact In.ext' e1 e2
      · unfold In.none at q1; rw [e1, e2] at q1; cases q1
    refine ⟨In.zero, false, [], In.std_ok In.zero_std, Nat.zero_le _, ?_, leqS_nil _ _, ?_, leqS_nil _ _, fun A1 c1 w' n1 r1 h => ?_⟩
    · unfold In.leq; rw [hy, show In.zero.s = Sp.zero from rfl, show In.zero.c = Cg.zero from rfl, Sp.leq_zero, Cg.leq_zero]; rfl
    · unfold In.leq; rw [show In.zero.clean = In.zero from rfl, show In.zero.s = Sp.zero from rfl, show In.zero.c = Cg.zero from rfl, Sp.leq_zero, Cg.leq_zero]; rfl
    · exact value_Narrow_2 j b (In.std_ok hj) hb nj false T [] A1 B c1 cb w' mT mb n1 hzb r1 (hrb.mono h) hp hq
theorem IRow.one (w : World) (n : Int) (t : TypeId) : IRow (w.alloc (.cells #[.int .i64 n] t)) (some ⟨w.heap.size, 0, none⟩) [n] := by
  intro i hi
  have : i = 0 := by simp at hi; exact hi
  subst this
  have e := blk_cell (al_new w (.cells #[.int .i64 n] t) rfl) 0
  exact e
end Go.Proofs.YtdpnphnafidpiaaGreat
