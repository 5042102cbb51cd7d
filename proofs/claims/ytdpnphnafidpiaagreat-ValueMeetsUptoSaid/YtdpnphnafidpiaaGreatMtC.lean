/- The law ValueMeets, walked. -/
import Derived.Test.YtdpnphnafidpiaaGreatMtZ
import Derived.Test.YtdpnphnafidpiaaGreatValL
import Derived.Test.YtdpnphnafidpiaaGreatRefF
namespace Go.Proofs.YtdpnphnafidpiaaGreat
open Go.RowKit

theorem In.clean_big {a b : In} (h : 0 < a.clean.c.m ∧ 0 < b.clean.c.m ∧ 9223372036854775807 < lcmI a.clean.c.m b.clean.c.m) : 0 < a.c.clean.m ∧ 0 < b.c.clean.m ∧ 9223372036854775807 < lcmI a.c.clean.m b.c.clean.m := by
  have e : ∀ i : In, 0 < i.clean.c.m → i.clean.c = i.c.clean := fun i hi => by
    cases hn : i.none
    · rw [In.clean_f hn]
    · rw [In.clean_t hn] at hi; exact absurd hi (by decide)
  rw [e a h.1, e b h.2.1] at h
  exact h

def PairCut (C1 C2 : Array Value) (n : Int) (name : Str) (W : World) (s3 s4 s5 s6 : Value) (wx : World) : Prop :=
  ∃ ba bb : Nat, s3 = .pointer (some ⟨ba, 0, none⟩) ∧ s4 = .pointer (some ⟨bb, 0, none⟩) ∧ s5 = .int .i64 n ∧ s6 = encStr name ∧ wx.heap[ba]? = some (.cells C1 30) ∧ wx.heap[bb]? = some (.cells C2 30) ∧ Below W.heap.size W wx

set_option maxRecDepth 100000 in
set_option maxHeartbeats 16000000 in
theorem law_meets_a (a b : In) (ha : a.ok) (hb : b.ok) (na nb : Bool) (la lb : List Str) (A B : Option Addr) (ca cb : Nat) (n : Int) (_hn : I64 n) (name : Str) (w : World) (hm : la.length + lb.length ≤ 1048576) (hza : A = none → ca = 0) (hzb : B = none → cb = 0) (hra : SRow w A la) (hrb : SRow w B lb) :
    Calls Tryz.prog 4 #[.agg #[.bool a.s.s, .int .i64 a.s.lo, .int .i64 a.s.hi, .bool a.c.s, .int .i64 a.c.m, .int .i64 a.c.r, .bool na, .slice A la.length ca, .bool b.s.s, .int .i64 b.s.lo, .int .i64 b.s.hi, .bool b.c.s, .int .i64 b.c.m, .int .i64 b.c.r, .bool nb, .slice B lb.length cb, .int .i64 n, encStr name]] w fun e w' => e = .returned (.bool true) ∧ Below w.heap.size w w' := by
  have ma : la.length * 16 ≤ 140737488355328 := Nat.le_trans (Nat.mul_le_mul_right 16 (show la.length ≤ 1048576 by omega)) (by decide)
  have mb : lb.length * 16 ≤ 140737488355328 := Nat.le_trans (Nat.mul_le_mul_right 16 (show lb.length ≤ 1048576 by omega)) (by decide)
  have m0 : (la.length + lb.length) * 16 ≤ 140737488355328 := Nat.le_trans (Nat.mul_le_mul_right 16 hm) (by decide)
  have HJ : Hid (∀ w', Below w.heap.size w w' → _) := Lib.hid (fun w' h => value_Join a b ha hb na nb la lb A B ca cb w' m0 hza hzb (hra.mono h) (hrb.mono h))
  have HM : Hid (∀ w', Below w.heap.size w w' → _) := Lib.hid (fun w' h => value_Meet a b ha hb na nb la lb A B ca cb w' ma mb hza hzb (hra.mono h) (hrb.mono h))
  have HI1 := Lib.hid (fun w' => r8_HasInt a ha.2 na la A ca n w')
  have HI2 := Lib.hid (fun w' => r8_HasInt b hb.2 nb lb B cb n w')
  have HT1 : Hid (∀ w', Below w.heap.size w w' → _) := Lib.hid (fun w' h => r7_Has na la A ca name w' (by omega) (hra.mono h))
  have HT2 : Hid (∀ w', Below w.heap.size w w' → _) := Lib.hid (fun w' h => r7_Has nb lb B cb name w' (by omega) (hrb.mono h))
  have hjs := In.join_std' ha hb
  have hjo := In.std_ok hjs
  have hmo : (a.meetP b).red.ok := In.std_ok (show ((a.meetP b).red).std from In.red_std (In.clean_std (In.meetP_ok ha hb)))
  have hlj := srt_len_le (la ++ lb)
  rw [List.length_append] at hlj
  have hlm := srt_len_le (meetL la lb)
  have hml := meetL_len la lb
  have mT : (srt (la ++ lb)).length * 16 ≤ 140737488355328 := Nat.le_trans (Nat.mul_le_mul_right 16 (show (srt (la ++ lb)).length ≤ 1048576 by omega)) (by decide)
  have l1 := fun A1 c1 w' (h : Below w.heap.size w w') (n1 : A1 = none → c1 = 0) (r1 : SRow w' A1 (srt (la ++ lb))) => value_Leq a (a.join b) ha hjo na (na || nb) la (srt (la ++ lb)) A A1 ca c1 w' ma mT hza n1 (hra.mono h) r1
  rw [(In.join_up ha hb).1, (lat_j na nb la lb).1] at l1
  have l2 := fun A1 c1 w' (h : Below w.heap.size w w') (n1 : A1 = none → c1 = 0) (r1 : SRow w' A1 (srt (la ++ lb))) => value_Leq b (a.join b) hb hjo nb (na || nb) lb (srt (la ++ lb)) B A1 cb c1 w' mb mT hzb n1 (hrb.mono h) r1
  rw [(In.join_up ha hb).2, (lat_j na nb la lb).2] at l2
  have L1 : Hid (∀ A1 c1 w', _) := Lib.hid l1
  have L2 : Hid (∀ A1 c1 w', _) := Lib.hid l2
  have L3 : Hid (∀ A1 c1 w', _) := Lib.hid (fun A1 c1 w' => value_HasInt (a.join b) hjo.2.1 (na || nb) (srt (la ++ lb)) A1 c1 n w')
  have HJF : Hid ((a.has n || b.has n) = true → (a.join b).has n = true) := Lib.hid (fun h => by
    rw [Bool.or_eq_true] at h
    rcases h with h | h
    · exact In.has_mono ha hjo (In.join_up ha hb).1 h
    · exact In.has_mono hb hjo (In.join_up ha hb).2 h)
  have l4 := fun A1 c1 w' => value_HasPtr (a.join b) (na || nb) (srt (la ++ lb)) A1 c1 name w' (by omega)
  rw [hasP_join] at l4
  have L4 : Hid (∀ A1 c1 w', _) := Lib.hid l4
  have M3 : Hid (∀ A1 c1 w', _) := Lib.hid (fun A1 c1 w' => value_HasInt (a.meetP b).red hmo.2.1 (na && nb) (srt (meetL la lb)) A1 c1 n w')
  have HMF : Hid ((a.has n && b.has n) = true → (a.meetP b).red.has n = true) := Lib.hid (fun h => by
    rw [Bool.and_eq_true] at h
    exact In.meet_in ha hb h.1 h.2)
  have m4 := fun A1 c1 w' => value_HasPtr (a.meetP b).red (na && nb) (srt (meetL la lb)) A1 c1 name w' (by omega)
  rw [hasP_meet] at m4
  have M4 : Hid (∀ A1 c1 w', _) := Lib.hid m4
  have HFITS : Hid (¬ (0 < a.c.clean.m ∧ 0 < b.c.clean.m ∧ 9223372036854775807 < lcmI a.c.clean.m b.c.clean.m) → (a.meetP b).red.has n = (a.has n && b.has n)) := Lib.hid (fun h => In.meet_is ha hb (fun h' => h (In.clean_big h')) n)
  have xcs := Cg.clean_std ha.2
  have ycs := Cg.clean_std hb.2
  have WD : Hid (∀ C w', Below w.heap.size w w' → IRow w' C [n] → _) := Lib.hid (fun C w' h hr => value_Widen a b ha hb na nb la lb A B ca cb [n] C 1 w' m0 hza hzb (hra.mono h) (hrb.mono h) (by simp) hr)
  obtain ⟨K, kn, kl, hKo, hkl, k1, k2, k3, k4, nar⟩ := narrow_any (a.join b) b hjs hb (na || nb) nb (srt (la ++ lb)) lb B cb w mT mb hzb hrb (srt_srt _) (In.join_up ha hb).2 (lat_j na nb la lb).2
  have NAR : Hid (∀ A1 c1 w', _) := Lib.hid nar
  have hwo := In.std_ok (In.widen_std' [n] ha hb)
  have mK : kl.length * 16 ≤ 140737488355328 := Nat.le_trans (Nat.mul_le_mul_right 16 (show kl.length ≤ 1048576 by omega)) (by decide)
  have p1 := fun A1 c1 A3 c3 w' (n1 : A1 = none → c1 = 0) (r1 : SRow w' A1 (srt (la ++ lb))) (n3 : A3 = none → c3 = 0) (r3 : SRow w' A3 (srt (la ++ lb))) => value_Leq (a.join b) (a.widen b [n]) hjo hwo (na || nb) (na || nb) (srt (la ++ lb)) (srt (la ++ lb)) A1 A3 c1 c3 w' mT mT n1 n3 r1 r3
  rw [In.join_widen [n] ha hb, leqS_refl] at p1
  have P1 : Hid (∀ A1 c1 A3 c3 w', _) := Lib.hid p1
  have p2 := fun A3 c3 w' (h : Below w.heap.size w w') (n3 : A3 = none → c3 = 0) (r3 : SRow w' A3 kl) => value_Leq b K hb hKo nb kn lb kl B A3 cb c3 w' mb mK hzb n3 (hrb.mono h) r3
  rw [k1, k2] at p2
  have P2 : Hid (∀ A3 c3 w', _) := Lib.hid p2
  have p3 := fun A1 c1 A3 c3 w' (n3 : A3 = none → c3 = 0) (r3 : SRow w' A3 kl) (n1 : A1 = none → c1 = 0) (r1 : SRow w' A1 (srt (la ++ lb))) => value_Leq K (a.join b) hKo hjo kn (na || nb) kl (srt (la ++ lb)) A3 A1 c3 c1 w' mK mT n3 n1 r3 r1
  rw [k3, k4] at p3
  have P3 : Hid (∀ A1 c1 A3 c3 w', _) := Lib.hid p3
  clear p1 p2 p3 k1 k2 k3 k4 nar
  generalize a.widen b [n] = wv at *
  have C1 := Lib.hid (fun w' => r5_clean a.c ha.2.1 w')
  have C2 := Lib.hid (fun w' => r5_clean b.c hb.2.1 w')
  clear l1 l2 l4 m4
  generalize a.c.clean = xc at *
  generalize b.c.clean = yc at *
  have HXS := Lib.hid xcs; have HYS := Lib.hid ycs
  clear xcs ycs
  generalize (a.join b).has n = hj at *
  generalize (a.meetP b).red.has n = hmi at *
  generalize a.join b = j at *
  generalize (a.meetP b).red = m at *
  generalize a.has n = i1 at *
  generalize b.has n = i2 at *
  generalize (if name == [] then na else hasL la name) = t1 at *
  generalize (if name == [] then nb else hasL lb name) = t2 at *
  clear hra hrb ma mb m0 ha hb hm hza hzb hjs hjo hmo hlj hlm hml mT hKo hkl hwo mK
  go_enter Tryz.func4, Tryz.ntmps4
  go_upto_region 1 with fail
  generalize hW : (w.alloc (.cells #[.bool a.s.s, .int .i64 a.s.lo, .int .i64 a.s.hi, .bool a.c.s, .int .i64 a.c.m, .int .i64 a.c.r, .bool na, .slice A la.length ca, .bool b.s.s, .int .i64 b.s.lo, .int .i64 b.s.hi, .bool b.c.s, .int .i64 b.c.m, .int .i64 b.c.r, .bool nb, .slice B lb.length cb, .int .i64 n, encStr name] 38)) = W
  have q0_0 : W.cell? ⟨w.heap.size, 0, none⟩ = some (.bool a.s.s) := by rw [← hW]; simp [go_sem]
  have q0_1 : W.cell? ⟨w.heap.size, 1, none⟩ = some (.int .i64 a.s.lo) := by rw [← hW]; simp [go_sem]
  have q0_2 : W.cell? ⟨w.heap.size, 2, none⟩ = some (.int .i64 a.s.hi) := by rw [← hW]; simp [go_sem]
  have q0_3 : W.cell? ⟨w.heap.size, 3, none⟩ = some (.bool a.c.s) := by rw [← hW]; simp [go_sem]
  have q0_4 : W.cell? ⟨w.heap.size, 4, none⟩ = some (.int .i64 a.c.m) := by rw [← hW]; simp [go_sem]
  have q0_5 : W.cell? ⟨w.heap.size, 5, none⟩ = some (.int .i64 a.c.r) := by rw [← hW]; simp [go_sem]
  have q0_6 : W.cell? ⟨w.heap.size, 6, none⟩ = some (.bool na) := by rw [← hW]; simp [go_sem]
  have q0_7 : W.cell? ⟨w.heap.size, 7, none⟩ = some (.slice A la.length ca) := by rw [← hW]; simp [go_sem]
  have q0_8 : W.cell? ⟨w.heap.size, 8, none⟩ = some (.bool b.s.s) := by rw [← hW]; simp [go_sem]
  have q0_9 : W.cell? ⟨w.heap.size, 9, none⟩ = some (.int .i64 b.s.lo) := by rw [← hW]; simp [go_sem]
  have q0_10 : W.cell? ⟨w.heap.size, 10, none⟩ = some (.int .i64 b.s.hi) := by rw [← hW]; simp [go_sem]
  have q0_11 : W.cell? ⟨w.heap.size, 11, none⟩ = some (.bool b.c.s) := by rw [← hW]; simp [go_sem]
  have q0_12 : W.cell? ⟨w.heap.size, 12, none⟩ = some (.int .i64 b.c.m) := by rw [← hW]; simp [go_sem]
  have q0_13 : W.cell? ⟨w.heap.size, 13, none⟩ = some (.int .i64 b.c.r) := by rw [← hW]; simp [go_sem]
  have q0_14 : W.cell? ⟨w.heap.size, 14, none⟩ = some (.bool nb) := by rw [← hW]; simp [go_sem]
  have q0_15 : W.cell? ⟨w.heap.size, 15, none⟩ = some (.slice B lb.length cb) := by rw [← hW]; simp [go_sem]
  have q0_16 : W.cell? ⟨w.heap.size, 16, none⟩ = some (.int .i64 n) := by rw [← hW]; simp [go_sem]
  have q0_17 : W.cell? ⟨w.heap.size, 17, none⟩ = some (encStr name) := by rw [← hW]; simp [go_sem]
  have z0 : w.heap.size < W.heap.size := by rw [← hW]; first | (simp; done) | (simp; omega)
  have HW : Below w.heap.size w W := by rw [← hW]; exact (by repeat (first | (with_reducible assumption) | (with_reducible exact Below.refl _ _) | (with_reducible refine Below.alloc ?_ (by first | omega | (simp; omega) | (simp; done) | (dsimp only; omega)) _) | (with_reducible refine Below.setCell ?_ (by first | omega | (simp; omega) | (simp; done) | (dsimp only; omega)) _) | (with_reducible refine Below.drew ?_) | (with_reducible refine Below.trans ?_ (Below.mono (by assumption) (by first | omega | (simp; omega) | (simp; done) | (dsimp only; omega))))))
  clear hW
  go_cut [3, 4, 5, 6] (fun s3 s4 s5 s6 wx => PairCut #[.bool a.s.s, .int .i64 a.s.lo, .int .i64 a.s.hi, .bool a.c.s, .int .i64 a.c.m, .int .i64 a.c.r, .bool na, .slice A la.length ca] #[.bool b.s.s, .int .i64 b.s.lo, .int .i64 b.s.hi, .bool b.c.s, .int .i64 b.c.m, .int .i64 b.c.r, .bool nb, .slice B lb.length cb] n name W s3 s4 s5 s6 wx)
  case first => as_aux_lemma =>
    have hdr : ∀ w : World, w.drew.heap.size = w.heap.size := fun _ => rfl
    go_region
    all_goals
      go_wp2
      go_meet
      first
        | exact ⟨W.heap.size, W.heap.size + 1, rfl, rfl, rfl, rfl, al2_0 _ _ _, al2_1 _ _ _, (by repeat (first | (with_reducible assumption) | (with_reducible exact Below.refl _ _) | (with_reducible refine Below.alloc ?_ (by first | omega | (simp; omega) | (simp; done) | (dsimp only; omega)) _) | (with_reducible refine Below.setCell ?_ (by first | omega | (simp; omega) | (simp; done) | (dsimp only; omega)) _) | (with_reducible refine Below.drew ?_) | (with_reducible refine Below.trans ?_ (Below.mono (by assumption) (by first | omega | (simp; omega) | (simp; done) | (dsimp only; omega))))))⟩
        | exact ⟨W.heap.size + 1, W.heap.size, rfl, rfl, rfl, rfl, al2_1 _ _ _, al2_0 _ _ _, (by repeat (first | (with_reducible assumption) | (with_reducible exact Below.refl _ _) | (with_reducible refine Below.alloc ?_ (by first | omega | (simp; omega) | (simp; done) | (dsimp only; omega)) _) | (with_reducible refine Below.setCell ?_ (by first | omega | (simp; omega) | (simp; done) | (dsimp only; omega)) _) | (with_reducible refine Below.drew ?_) | (with_reducible refine Below.trans ?_ (Below.mono (by assumption) (by first | omega | (simp; omega) | (simp; done) | (dsimp only; omega))))))⟩
  case rest => as_aux_lemma =>
    obtain ⟨ba, bb, rfl, rfl, rfl, rfl, ka, kb, HV⟩ := hcut
    have HB := HW.trans (HV.mono HW.size)
    clear HV HW q0_0 q0_1 q0_2 q0_3 q0_4 q0_5 q0_6 q0_7 q0_8 q0_9 q0_10 q0_11 q0_12 q0_13 q0_14 q0_15 q0_16 q0_17 z0
    have ga := blk_cell ka
    have gb := blk_cell kb
    have za := blk_lt ka
    have zb := blk_lt kb
    have KA := Lib.hid ka; have KB := Lib.hid kb
    clear ka kb
    go_upto_region 2 with fail
    refine region_seqg (W := wc) [_, _, _, _, _, _, _, _] [_, _] rfl (by kernel_rfl) (by kernel_rfl) (by repeat (first | (with_reducible assumption) | (with_reducible exact Below.refl _ _) | (with_reducible refine Below.alloc ?_ (by first | omega | (simp; omega) | (simp; done) | (dsimp only; omega)) _) | (with_reducible refine Below.setCell ?_ (by first | omega | (simp; omega) | (simp; done) | (dsimp only; omega)) _) | (with_reducible refine Below.drew ?_) | (with_reducible refine Below.trans ?_ (Below.mono (by assumption) (by first | omega | (simp; omega) | (simp; done) | (dsimp only; omega)))))) (fun fin hfin => ?_)
    iterate 2
      first
        | (refine SeqG.yes (v := ?_) (A' := ?_) rfl (fun γ => by rfl) ?_ ?_ ?_
           rotate_left 2
           · intro γ w' K hS hK
             obtain ⟨hc, hf⟩ := bcell hS
             have hz := hS.size
             go_simp
             first
               | exact hK.out _ (Below.refl _ _)
               | trace_state
           · intro γ; simp only [Act.put, List.setIfInBounds_toArray, List.set_cons_zero, List.set_cons_succ]; exact rfl)
        | (refine SeqG.no (A' := ?_) rfl (fun γ => by rfl) ?_ ?_
           rotate_left
           · intro γ; simp only [Act.put, List.setIfInBounds_toArray, List.set_cons_zero, List.set_cons_succ]; exact rfl)
    refine SeqG.make (k := 2) (A' := ?_) (fun g => .agg #[.bool j.s.s, .int .i64 j.s.lo, .int .i64 j.s.hi, .bool j.c.s, .int .i64 j.c.m, .int .i64 j.c.r, .bool (na || nb), .slice (gA g) (srt (la ++ lb)).length (g 2)]) (RSetG (srt (la ++ lb))) rfl (fun γ => by rfl) (RSetG.stable _) ?_ ?_ ?_
    rotate_left
    · intro γ w' K hS hF hK
      obtain ⟨hc, hf⟩ := bcell hS
      have hz := hS.size
      go_simp
      (go_at_call 11; refine (HJ.out w' (HB.trans (hS.mono HB.size))).mono ?_; rintro e w1 ⟨⟨A1, c1, rfl, hmade⟩, hb1⟩; obtain ⟨g, rfl, rfl, hg⟩ := MadeV.ghost hmade (by omega) (lo := w'.heap.size); exact hK.out g w1 hb1 hg)
    · intro γ; simp only [Act.put, List.setIfInBounds_toArray, List.set_cons_zero, List.set_cons_succ]; exact rfl
    iterate 2
      first
        | (refine SeqG.yes (v := ?_) (A' := ?_) rfl (fun γ => by rfl) ?_ ?_ ?_
           rotate_left 2
           · intro γ w' K hS hK
             obtain ⟨hc, hf⟩ := bcell hS
             have hz := hS.size
             go_simp
             first
               | exact hK.out _ (Below.refl _ _)
               | trace_state
           · intro γ; simp only [Act.put, List.setIfInBounds_toArray, List.set_cons_zero, List.set_cons_succ]; exact rfl)
        | (refine SeqG.no (A' := ?_) rfl (fun γ => by rfl) ?_ ?_
           rotate_left
           · intro γ; simp only [Act.put, List.setIfInBounds_toArray, List.set_cons_zero, List.set_cons_succ]; exact rfl)
    refine SeqG.make (k := 5) (A' := ?_) (fun g => .agg #[.bool m.s.s, .int .i64 m.s.lo, .int .i64 m.s.hi, .bool m.c.s, .int .i64 m.c.m, .int .i64 m.c.r, .bool (na && nb), .slice (gA g) (srt (meetL la lb)).length (g 2)]) (RSetG (srt (meetL la lb))) rfl (fun γ => by rfl) (RSetG.stable _) ?_ ?_ ?_
    rotate_left
    · intro γ w' K hS hF hK
      obtain ⟨hc, hf⟩ := bcell hS
      have hz := hS.size
      go_simp
      (go_at_call 12; refine (HM.out w' (HB.trans (hS.mono HB.size))).mono ?_; rintro e w1 ⟨⟨A1, c1, rfl, hmade⟩, hb1⟩; obtain ⟨g, rfl, rfl, hg⟩ := MadeV.ghost hmade (by omega) (lo := w'.heap.size); exact hK.out g w1 hb1 hg)
    · intro γ; simp only [Act.put, List.setIfInBounds_toArray, List.set_cons_zero, List.set_cons_succ]; exact rfl
    refine SeqG.make (k := 6) (A' := ?_) (fun g => .pointer (some ⟨g 0, 0, none⟩)) (RCell #[.bool false, .int .i64 0, .int .i64 0, .bool false, .int .i64 0, .int .i64 0, .bool false, .slice none 0 0] 30) rfl (fun γ => by rfl) (RCell.stable _ _) ?_ ?_ ?_
    rotate_left
    · intro γ w' K hS _ hK
      have hm := RCell.made (#[.bool false, .int .i64 0, .int .i64 0, .bool false, .int .i64 0, .int .i64 0, .bool false, .slice none 0 0]) (30) w'
      have HK := Lib.hid (hK.out (fun _ => w'.heap.size) (w'.alloc (.cells #[.bool false, .int .i64 0, .int .i64 0, .bool false, .int .i64 0, .int .i64 0, .bool false, .slice none 0 0] 30)) ((Below.refl _ _).alloc (Nat.le_refl _) _) hm); clear hK hm
      go_simp
      exact HK.out
    · intro γ; simp only [Act.put, List.setIfInBounds_toArray, List.set_cons_zero, List.set_cons_succ]; exact rfl
    refine SeqG.make (k := 7) (A' := ?_) (fun g => .pointer (some ⟨g 0, 0, none⟩)) (RCell #[.bool false, .int .i64 0, .int .i64 0, .bool false, .int .i64 0, .int .i64 0, .bool false, .slice none 0 0] 30) rfl (fun γ => by rfl) (RCell.stable _ _) ?_ ?_ ?_
    rotate_left
    · intro γ w' K hS _ hK
      have hm := RCell.made (#[.bool false, .int .i64 0, .int .i64 0, .bool false, .int .i64 0, .int .i64 0, .bool false, .slice none 0 0]) (30) w'
      have HK := Lib.hid (hK.out (fun _ => w'.heap.size) (w'.alloc (.cells #[.bool false, .int .i64 0, .int .i64 0, .bool false, .int .i64 0, .int .i64 0, .bool false, .slice none 0 0] 30)) ((Below.refl _ _).alloc (Nat.le_refl _) _) hm); clear hK hm
      go_simp
      exact HK.out
    · intro γ; simp only [Act.put, List.setIfInBounds_toArray, List.set_cons_zero, List.set_cons_succ]; exact rfl
    refine SeqG.nil (hfin.out _ _ ?_)
    clear hfin fin
    intro γ lo hi w1 hB1 hF hD
    replace hF := listF4 hF
    dsimp only at hF
    replace hD := listD4 hD
    dsimp only at hD
    obtain ⟨hD0, hD1, hD2, hD3, hD4, hD5⟩ := hD
    replace hD0 := hD0 (by decide)
    replace hD1 := hD1 (by decide)
    replace hD2 := hD2 (by decide)
    replace hD3 := hD3 (by decide)
    replace hD4 := hD4 (by decide)
    replace hD5 := hD5 (by decide)
    obtain ⟨⟨y1, l1, o1, r1, m1, t1, n1, s1⟩, ⟨y3, l3, o3, r3, m3, t3, n3, s3⟩, ⟨y4, l4, o4, p4, p4', h4⟩, ⟨y5, l5, o5, p5, p5', h5⟩⟩ := hF
    have w4 : wc.heap.size ≤ γ 6 0 := by omega
    have w5 : wc.heap.size ≤ γ 7 0 := by omega
    have x4 : γ 6 0 < w1.heap.size := by omega
    have x5 : γ 7 0 < w1.heap.size := by omega
    have n45 : γ 6 0 ≠ γ 7 0 := by omega
    have F1 : ∀ a, gA (γ 2) = some a → srt (la ++ lb) ≠ [] → a.block ≠ γ 6 0 ∧ a.block ≠ γ 7 0 := fun a e hne => by
      have h1 := (s1 a e).1; have h2 := (s1 a e).2 hne; omega
    have F3 : ∀ a, gA (γ 5) = some a → srt (meetL la lb) ≠ [] → a.block ≠ γ 6 0 ∧ a.block ≠ γ 7 0 := fun a e hne => by
      have h1 := (s3 a e).1; have h2 := (s3 a e).2 hne; omega
    clear hD0 hD1 hD2 hD3 hD4 hD5 s1 s3 y1 l1 o1 y3 l3 o3 y4 l4 o4 p4 p4' y5 l5 o5 p5 p5' m1 t1 m3 t3
    generalize γ 6 0 = bp at *
    generalize γ 7 0 = bq at *
    generalize gA (γ 2) = A1 at *
    generalize γ 2 2 = c1 at *
    generalize gA (γ 5) = A3 at *
    generalize γ 5 2 = c3 at *
    have n54 := Ne.symm n45
    have H4 := Lib.hid h4; have H5 := Lib.hid h5; have HF1 := Lib.hid F1; have HF3 := Lib.hid F3; have HR1 := Lib.hid r1; have HR3 := Lib.hid r3; have HN1 := Lib.hid n1; have HN3 := Lib.hid n3
    clear h4 h5 F1 F3 r1 r3 n1 n3
    refine TailL.cons (fun K hK => ?_)
    refine wp_store_mid _ _ _ rfl bp 0 _ rfl rfl (st8_there H4.out) (by kernel_rfl) (by simp [Value.oneCell']) ?_
    rw [st8_set]
    generalize hX1 : st8 w1 bp (.bool j.s.s) (.int .i64 j.s.lo) (.int .i64 j.s.hi) (.bool j.c.s) (.int .i64 j.c.m) (.int .i64 j.c.r) (.bool (na || nb)) (.slice A1 (srt (la ++ lb)).length c1) = X1
    have K4 := Lib.hid (show X1.heap[bp]? = some (.cells #[.bool j.s.s, .int .i64 j.s.lo, .int .i64 j.s.hi, .bool j.c.s, .int .i64 j.c.m, .int .i64 j.c.r, .bool (na || nb), .slice A1 (srt (la ++ lb)).length c1] 30) by rw [← hX1]; exact st8_blk H4.out)
    have K5 := Lib.hid ((show X1.heap[bq]? = w1.heap[bq]? by rw [← hX1]; exact st8_far _ _ n54).trans H5.out)
    have HX1 : Below wc.heap.size wc X1 := by rw [← hX1]; exact st8_below hB1 w4
    have Q1 := Lib.hid (show SRow X1 A1 (srt (la ++ lb)) from HR1.out.far (fun a e hne p hp => by rw [← hX1]; exact st8_cell _ _ (by rw [hp]; exact (HF1.out a e hne).1)))
    have Q3 := Lib.hid (show SRow X1 A3 (srt (meetL la lb)) from HR3.out.far (fun a e hne p hp => by rw [← hX1]; exact st8_cell _ _ (by rw [hp]; exact (HF3.out a e hne).1)))
    clear hX1 H4 H5 HR1 HR3 hB1 x4 x5
    refine hK.out _ _ ?_
    clear hK K
    refine TailL.cons (fun K hK => ?_)
    refine wp_store_mid _ _ _ rfl bq 0 _ rfl rfl (st8_there K5.out) (by kernel_rfl) (by simp [Value.oneCell']) ?_
    rw [st8_set]
    generalize hX : st8 X1 bq (.bool m.s.s) (.int .i64 m.s.lo) (.int .i64 m.s.hi) (.bool m.c.s) (.int .i64 m.c.m) (.int .i64 m.c.r) (.bool (na && nb)) (.slice A3 (srt (meetL la lb)).length c3) = X
    have kp : X.heap[bp]? = some (.cells #[.bool j.s.s, .int .i64 j.s.lo, .int .i64 j.s.hi, .bool j.c.s, .int .i64 j.c.m, .int .i64 j.c.r, .bool (na || nb), .slice A1 (srt (la ++ lb)).length c1] 30) := by rw [← hX]; exact (st8_far _ _ n45).trans K4.out
    have kq : X.heap[bq]? = some (.cells #[.bool m.s.s, .int .i64 m.s.lo, .int .i64 m.s.hi, .bool m.c.s, .int .i64 m.c.m, .int .i64 m.c.r, .bool (na && nb), .slice A3 (srt (meetL la lb)).length c3] 30) := by rw [← hX]; exact st8_blk K5.out
    have HX : Below wc.heap.size wc X := by rw [← hX]; exact st8_below HX1 w5
    have R1 : SRow X A1 (srt (la ++ lb)) := Q1.out.far (fun a e hne p hp => by rw [← hX]; exact st8_cell _ _ (by rw [hp]; exact (HF1.out a e hne).2))
    have R3 : SRow X A3 (srt (meetL la lb)) := Q3.out.far (fun a e hne p hp => by rw [← hX]; exact st8_cell _ _ (by rw [hp]; exact (HF3.out a e hne).2))
    clear hX K4 K5 HF1 HF3 Q1 Q3 HX1
    refine hK.out _ _ ?_
    clear hK K
    simp only [Act.put]
    refine TailL.nil ?_
    have ka := (HX.block _ za).trans KA.out
    have kb := (HX.block _ zb).trans KB.out
    replace HB := HB.trans (HX.mono HB.size)
    clear ga gb za zb KA KB HX HJ HM w4 w5 n45 n54
    have ga := blk_cell ka
    have gb := blk_cell kb
    have za := blk_lt ka
    have zb := blk_lt kb
    have zp := blk_lt kp
    have zq := blk_lt kq
    have KA := Lib.hid ka; have KB := Lib.hid kb; have KP := Lib.hid kp; have KQ := Lib.hid kq
    have RT := Lib.hid R1; have RM := Lib.hid R3
    clear ka kb kp kq R1 R3
    go_upto_region 3 with fail
    refine region_seq (S := fun w' => Below X.heap.size X w') rfl (by kernel_rfl) (by kernel_rfl) (by repeat (first | (with_reducible assumption) | (with_reducible exact Below.refl _ _) | (with_reducible refine Below.alloc ?_ (by first | omega | (simp; omega) | (simp; done) | (dsimp only; omega)) _) | (with_reducible refine Below.setCell ?_ (by first | omega | (simp; omega) | (simp; done) | (dsimp only; omega)) _) | (with_reducible refine Below.drew ?_) | (with_reducible refine Below.trans ?_ (Below.mono (by assumption) (by first | omega | (simp; omega) | (simp; done) | (dsimp only; omega)))))) (fun fin hfin => ?_)
    iterate 8
      first
        | (refine SeqL.yes (v := ?_) (A' := ?_) rfl (by rfl) ?_ ?_ ?_
           rotate_left 2
           · intro w' K hS hK
             obtain ⟨hc, hf⟩ := bcell hS
             have hz := hS.size
             go_simp
             first
               | exact hK.out _ hS
               | (go_at_call 13; (with_reducible refine (HI1.out w').mono ?_); rintro e w1 ⟨rfl, hb1⟩; exact hK.out _ (hS.trans (hb1.mono hz)))
               | (go_at_call 13; (with_reducible refine (HI2.out w').mono ?_); rintro e w1 ⟨rfl, hb1⟩; exact hK.out _ (hS.trans (hb1.mono hz)))
               | trace_state
           · simp only [Act.put, List.setIfInBounds_toArray, List.set_cons_zero, List.set_cons_succ]; exact rfl)
        | (refine SeqL.no (A' := ?_) rfl (by rfl) ?_ ?_
           rotate_left
           · simp only [Act.put, List.setIfInBounds_toArray, List.set_cons_zero, List.set_cons_succ]; exact rfl)
    refine SeqL.nil (hfin.out _ ?_)
    clear hfin fin
    intro w1 hS1
    have ka := (hS1.block _ za).trans KA.out
    have kb := (hS1.block _ zb).trans KB.out
    replace HB := HB.trans (hS1.mono HB.size)
    have S1 := Lib.hid hS1
    clear ga gb hS1
    have ga := blk_cell ka
    have gb := blk_cell kb
    have za1 := blk_lt ka
    have zb1 := blk_lt kb
    go_upto_region 4 with fail
    refine region_seq (S := fun w' => Below w1.heap.size w1 w') rfl (by kernel_rfl) (by kernel_rfl) (by repeat (first | (with_reducible assumption) | (with_reducible exact Below.refl _ _) | (with_reducible refine Below.alloc ?_ (by first | omega | (simp; omega) | (simp; done) | (dsimp only; omega)) _) | (with_reducible refine Below.setCell ?_ (by first | omega | (simp; omega) | (simp; done) | (dsimp only; omega)) _) | (with_reducible refine Below.drew ?_) | (with_reducible refine Below.trans ?_ (Below.mono (by assumption) (by first | omega | (simp; omega) | (simp; done) | (dsimp only; omega)))))) (fun fin hfin => ?_)
    iterate 10
      first
        | (refine SeqL.yes (v := ?_) (A' := ?_) rfl (by rfl) ?_ ?_ ?_
           rotate_left 2
           · intro w' K hS hK
             obtain ⟨hc, hf⟩ := bcell hS
             have hz := hS.size
             go_simp
             first
               | exact hK.out _ hS
               | (go_at_call 14; (with_reducible refine (HT1.out w' (HB.trans (hS.mono HB.size))).mono ?_); rintro e w1 ⟨rfl, hb1⟩; exact hK.out _ (hS.trans (hb1.mono hz)))
               | (go_at_call 14; (with_reducible refine (HT2.out w' (HB.trans (hS.mono HB.size))).mono ?_); rintro e w1 ⟨rfl, hb1⟩; exact hK.out _ (hS.trans (hb1.mono hz)))
               | trace_state
           · simp only [Act.put, List.setIfInBounds_toArray, List.set_cons_zero, List.set_cons_succ]; exact rfl)
        | (refine SeqL.no (A' := ?_) rfl (by rfl) ?_ ?_
           rotate_left
           · simp only [Act.put, List.setIfInBounds_toArray, List.set_cons_zero, List.set_cons_succ]; exact rfl)
    refine SeqL.nil (hfin.out _ ?_)
    clear hfin fin
    intro w1 hS1
    have ka := (hS1.block _ za1).trans ka
    have kb := (hS1.block _ zb1).trans kb
    have HBB := HB.trans (hS1.mono HB.size)
    have S2 := Lib.hid (S1.out.trans (hS1.mono S1.out.size))
    have kp := (S2.out.block _ zp).trans KP.out
    have kq := (S2.out.block _ zq).trans KQ.out
    have RT2 := Lib.hid (RT.out.mono S2.out)
    have RM2 := Lib.hid (RM.out.mono S2.out)
    clear ga gb za zb zp zq za1 zb1 KA KB KP KQ RT RM HB S1 S2 hS1 HI1 HI2 HT1 HT2
    have HB := HBB
    clear HBB
    have ga := blk_cell ka
    have za := blk_lt ka
    have gb := blk_cell kb
    have zb := blk_lt kb
    have gp := blk_cell kp
    have zp := blk_lt kp
    have gq := blk_cell kq
    have zq := blk_lt kq
    have KA := Lib.hid ka; have KB := Lib.hid kb; have KP := Lib.hid kp; have KQ := Lib.hid kq
    clear ka kb kp kq
    go_upto_region 5 with fail
    go_cut [79] (fun s79 wx => s79 = .bool false ∧ Below w1.heap.size w1 wx)
    case first => as_aux_lemma =>
      have SB : Below w1.heap.size w1 w1 := Below.refl _ _
      clear HMF M3 M4 HFITS C1 C2
      cases i1 <;> cases i2 <;> cases t1
      all_goals as_aux_lemma =>
        first
          | (have eh := HJF.out rfl
             subst eh
             go_wp2_with fail
             go_at_call 15
             refine (L1.out A1 c1 _ (HB.trans (SB.mono HB.size)) HN1.out (RT2.out.mono SB)).mono ?_
             rintro e u1 ⟨rfl, hb1⟩
             replace SB := SB.trans (hb1.mono SB.size)
             clear hb1
             (try clear ga)
             (try clear gb)
             (try clear gp)
             (try clear gq)
             have ga := blk_cell ((SB.block _ za).trans KA.out)
             have gb := blk_cell ((SB.block _ zb).trans KB.out)
             have gp := blk_cell ((SB.block _ zp).trans KP.out)
             have gq := blk_cell ((SB.block _ zq).trans KQ.out)
             go_wp2_with fail
             go_at_call 15
             refine (L2.out A1 c1 _ (HB.trans (SB.mono HB.size)) HN1.out (RT2.out.mono SB)).mono ?_
             rintro e u2 ⟨rfl, hb2⟩
             replace SB := SB.trans (hb2.mono SB.size)
             clear hb2
             (try clear ga)
             (try clear gb)
             (try clear gp)
             (try clear gq)
             have ga := blk_cell ((SB.block _ za).trans KA.out)
             have gb := blk_cell ((SB.block _ zb).trans KB.out)
             have gp := blk_cell ((SB.block _ zp).trans KP.out)
             have gq := blk_cell ((SB.block _ zq).trans KQ.out)
             go_wp2_with fail
             go_at_call 16
             refine (L3.out A1 c1 _).mono ?_
             rintro e u3 ⟨rfl, hb3⟩
             replace SB := SB.trans (hb3.mono SB.size)
             clear hb3
             (try clear ga)
             (try clear gb)
             (try clear gp)
             (try clear gq)
             have ga := blk_cell ((SB.block _ za).trans KA.out)
             have gb := blk_cell ((SB.block _ zb).trans KB.out)
             have gp := blk_cell ((SB.block _ zp).trans KP.out)
             have gq := blk_cell ((SB.block _ zq).trans KQ.out)
             go_wp2_with fail
             go_at_call 17
             refine (L4.out A1 c1 _ (RT2.out.mono SB)).mono ?_
             rintro e u4 ⟨rfl, hb4⟩
             replace SB := SB.trans (hb4.mono SB.size)
             clear hb4
             (try clear ga)
             (try clear gb)
             (try clear gp)
             (try clear gq)
             have ga := blk_cell ((SB.block _ za).trans KA.out)
             have gb := blk_cell ((SB.block _ zb).trans KB.out)
             have gp := blk_cell ((SB.block _ zp).trans KP.out)
             have gq := blk_cell ((SB.block _ zq).trans KQ.out)
             go_wp2
             go_meet
             exact ⟨rfl, SB⟩)
          | (go_wp2_with fail
             go_at_call 15
             refine (L1.out A1 c1 _ (HB.trans (SB.mono HB.size)) HN1.out (RT2.out.mono SB)).mono ?_
             rintro e u1 ⟨rfl, hb1⟩
             replace SB := SB.trans (hb1.mono SB.size)
             clear hb1
             (try clear ga)
             (try clear gb)
             (try clear gp)
             (try clear gq)
             have ga := blk_cell ((SB.block _ za).trans KA.out)
             have gb := blk_cell ((SB.block _ zb).trans KB.out)
             have gp := blk_cell ((SB.block _ zp).trans KP.out)
             have gq := blk_cell ((SB.block _ zq).trans KQ.out)
             go_wp2_with fail
             go_at_call 15
             refine (L2.out A1 c1 _ (HB.trans (SB.mono HB.size)) HN1.out (RT2.out.mono SB)).mono ?_
             rintro e u2 ⟨rfl, hb2⟩
             replace SB := SB.trans (hb2.mono SB.size)
             clear hb2
             (try clear ga)
             (try clear gb)
             (try clear gp)
             (try clear gq)
             have ga := blk_cell ((SB.block _ za).trans KA.out)
             have gb := blk_cell ((SB.block _ zb).trans KB.out)
             have gp := blk_cell ((SB.block _ zp).trans KP.out)
             have gq := blk_cell ((SB.block _ zq).trans KQ.out)
             go_wp2_with fail
             go_at_call 17
             refine (L4.out A1 c1 _ (RT2.out.mono SB)).mono ?_
             rintro e u4 ⟨rfl, hb4⟩
             replace SB := SB.trans (hb4.mono SB.size)
             clear hb4
             (try clear ga)
             (try clear gb)
             (try clear gp)
             (try clear gq)
             have ga := blk_cell ((SB.block _ za).trans KA.out)
             have gb := blk_cell ((SB.block _ zb).trans KB.out)
             have gp := blk_cell ((SB.block _ zp).trans KP.out)
             have gq := blk_cell ((SB.block _ zq).trans KQ.out)
             go_wp2
             go_meet
             exact ⟨rfl, SB⟩)
    case rest => as_aux_lemma =>
      obtain ⟨rfl, hcb⟩ := hcut
      replace HB := HB.trans (hcb.mono HB.size)
      replace KA := Lib.hid ((hcb.block _ za).trans KA.out)
      replace KB := Lib.hid ((hcb.block _ zb).trans KB.out)
      replace KP := Lib.hid ((hcb.block _ zp).trans KP.out)
      replace KQ := Lib.hid ((hcb.block _ zq).trans KQ.out)
      replace RT2 := Lib.hid (RT2.out.mono hcb)
      replace RM2 := Lib.hid (RM2.out.mono hcb)
      clear hcb
      (try clear ga)
      clear za
      have ga := blk_cell KA.out
      have za := blk_lt KA.out
      (try clear gb)
      clear zb
      have gb := blk_cell KB.out
      have zb := blk_lt KB.out
      (try clear gp)
      clear zp
      have gp := blk_cell KP.out
      have zp := blk_lt KP.out
      (try clear gq)
      clear zq
      have gq := blk_cell KQ.out
      have zq := blk_lt KQ.out
      clear HJF L3 L4
      go_upto_region 7 with fail
      go_cut [99] (fun s99 wx => s99 = .bool false ∧ Below wc.heap.size wc wx)
      case first => as_aux_lemma =>
        have SB : Below wc.heap.size wc wc := Below.refl _ _
        clear HFITS C1 C2
        cases i1 <;> cases i2 <;> cases t1
        all_goals as_aux_lemma =>
          first
            | (have eh := HMF.out rfl
               subst eh
               go_wp2_with fail
               go_at_call 16
               refine (M3.out A3 c3 _).mono ?_
               rintro e u3 ⟨rfl, hb3⟩
               replace SB := SB.trans (hb3.mono SB.size)
               clear hb3
               (try clear ga)
               (try clear gb)
               (try clear gp)
               (try clear gq)
               have ga := blk_cell ((SB.block _ za).trans KA.out)
               have gb := blk_cell ((SB.block _ zb).trans KB.out)
               have gp := blk_cell ((SB.block _ zp).trans KP.out)
               have gq := blk_cell ((SB.block _ zq).trans KQ.out)
               go_wp2_with fail
               go_at_call 17
               refine (M4.out A3 c3 _ (RM2.out.mono SB)).mono ?_
               rintro e u4 ⟨rfl, hb4⟩
               replace SB := SB.trans (hb4.mono SB.size)
               clear hb4
               (try clear ga)
               (try clear gb)
               (try clear gp)
               (try clear gq)
               have ga := blk_cell ((SB.block _ za).trans KA.out)
               have gb := blk_cell ((SB.block _ zb).trans KB.out)
               have gp := blk_cell ((SB.block _ zp).trans KP.out)
               have gq := blk_cell ((SB.block _ zq).trans KQ.out)
               go_wp2
               go_meet
               exact ⟨rfl, SB⟩)
            | (go_wp2_with fail
               go_at_call 17
               refine (M4.out A3 c3 _ (RM2.out.mono SB)).mono ?_
               rintro e u4 ⟨rfl, hb4⟩
               replace SB := SB.trans (hb4.mono SB.size)
               clear hb4
               (try clear ga)
               (try clear gb)
               (try clear gp)
               (try clear gq)
               have ga := blk_cell ((SB.block _ za).trans KA.out)
               have gb := blk_cell ((SB.block _ zb).trans KB.out)
               have gp := blk_cell ((SB.block _ zp).trans KP.out)
               have gq := blk_cell ((SB.block _ zq).trans KQ.out)
               go_wp2
               go_meet
               exact ⟨rfl, SB⟩)
      case rest => as_aux_lemma =>
        obtain ⟨rfl, hcb⟩ := hcut
        replace HB := HB.trans (hcb.mono HB.size)
        replace KA := Lib.hid ((hcb.block _ za).trans KA.out)
        replace KB := Lib.hid ((hcb.block _ zb).trans KB.out)
        replace KP := Lib.hid ((hcb.block _ zp).trans KP.out)
        replace KQ := Lib.hid ((hcb.block _ zq).trans KQ.out)
        replace RT2 := Lib.hid (RT2.out.mono hcb)
        replace RM2 := Lib.hid (RM2.out.mono hcb)
        clear hcb
        (try clear ga)
        clear za
        have ga := blk_cell KA.out
        have za := blk_lt KA.out
        (try clear gb)
        clear zb
        have gb := blk_cell KB.out
        have zb := blk_lt KB.out
        (try clear gp)
        clear zp
        have gp := blk_cell KP.out
        have zp := blk_lt KP.out
        (try clear gq)
        clear zq
        have gq := blk_cell KQ.out
        have zq := blk_lt KQ.out
        go_upto_region 9 with fail
        refine region_seqg (W := wc) [_, _, _, _, _, _, _, _] [_, _] rfl (by kernel_rfl) (by kernel_rfl) (by repeat (first | (with_reducible assumption) | (with_reducible exact Below.refl _ _) | (with_reducible refine Below.alloc ?_ (by first | omega | (simp; omega) | (simp; done) | (dsimp only; omega)) _) | (with_reducible refine Below.setCell ?_ (by first | omega | (simp; omega) | (simp; done) | (dsimp only; omega)) _) | (with_reducible refine Below.drew ?_) | (with_reducible refine Below.trans ?_ (Below.mono (by assumption) (by first | omega | (simp; omega) | (simp; done) | (dsimp only; omega)))))) (fun fin hfin => ?_)
        iterate 6
          first
            | (refine SeqG.yes (v := ?_) (A' := ?_) rfl (fun γ => by rfl) ?_ ?_ ?_
               rotate_left 2
               · intro γ w' K hS hK
                 obtain ⟨hc, hf⟩ := bcell hS
                 have hz := hS.size
                 go_simp
                 first
                   | exact hK.out _ (Below.refl _ _)
                   | (go_at_call 18; (with_reducible refine (C1.out w').mono ?_); rintro e w1 ⟨rfl, hb1⟩; exact hK.out _ hb1)
                   | (go_at_call 18; (with_reducible refine (C2.out w').mono ?_); rintro e w1 ⟨rfl, hb1⟩; exact hK.out _ hb1)
                   | trace_state
               · intro γ; simp only [Act.put, List.setIfInBounds_toArray, List.set_cons_zero, List.set_cons_succ]; exact rfl)
            | (refine SeqG.no (A' := ?_) rfl (fun γ => by rfl) ?_ ?_
               rotate_left
               · intro γ; simp only [Act.put, List.setIfInBounds_toArray, List.set_cons_zero, List.set_cons_succ]; exact rfl)
        refine SeqG.make (k := 6) (A' := ?_) (fun g => .pointer (some ⟨g 0, 0, none⟩)) (RCell #[.bool false, .int .i64 0, .int .i64 0] 25) rfl (fun γ => by rfl) (RCell.stable _ _) ?_ ?_ ?_
        rotate_left
        · intro γ w' K hS _ hK
          have hm := RCell.made (#[.bool false, .int .i64 0, .int .i64 0]) (25) w'
          have HK := Lib.hid (hK.out (fun _ => w'.heap.size) (w'.alloc (.cells #[.bool false, .int .i64 0, .int .i64 0] 25)) ((Below.refl _ _).alloc (Nat.le_refl _) _) hm); clear hK hm
          go_simp
          exact HK.out
        · intro γ; simp only [Act.put, List.setIfInBounds_toArray, List.set_cons_zero, List.set_cons_succ]; exact rfl
        refine SeqG.make (k := 7) (A' := ?_) (fun g => .pointer (some ⟨g 0, 0, none⟩)) (RCell #[.bool false, .int .i64 0, .int .i64 0] 25) rfl (fun γ => by rfl) (RCell.stable _ _) ?_ ?_ ?_
        rotate_left
        · intro γ w' K hS _ hK
          have hm := RCell.made (#[.bool false, .int .i64 0, .int .i64 0]) (25) w'
          have HK := Lib.hid (hK.out (fun _ => w'.heap.size) (w'.alloc (.cells #[.bool false, .int .i64 0, .int .i64 0] 25)) ((Below.refl _ _).alloc (Nat.le_refl _) _) hm); clear hK hm
          go_simp
          exact HK.out
        · intro γ; simp only [Act.put, List.setIfInBounds_toArray, List.set_cons_zero, List.set_cons_succ]; exact rfl
        refine SeqG.nil (hfin.out _ _ ?_)
        clear hfin fin
        intro γ lo hi w1 hB1 hF hD
        replace hF := listF2 hF
        dsimp only at hF
        replace hD := listD2 hD
        dsimp only at hD
        replace hD := hD (by decide)
        obtain ⟨⟨y4, l4, o4, p4, p4', h4⟩, ⟨y5, l5, o5, p5, p5', h5⟩⟩ := hF
        have w4 : wc.heap.size ≤ γ 6 0 := by omega
        have w5 : wc.heap.size ≤ γ 7 0 := by omega
        have x4 : γ 6 0 < w1.heap.size := by omega
        have x5 : γ 7 0 < w1.heap.size := by omega
        have n45 : γ 6 0 ≠ γ 7 0 := by omega
        clear hD y4 l4 o4 p4 p4' y5 l5 o5 p5 p5' C1 C2 ga gb gp gq
        generalize γ 6 0 = bx at *
        generalize γ 7 0 = bz at *
        have g4 := blk_cell h4
        have g5 := blk_cell h5
        have f4 := blk_free h4
        have f5 := blk_free h5
        have n54 := Ne.symm n45
        refine TailL.cons (fun K hK => ?_)
        go_simp
        refine hK.out _ _ ?_
        clear hK K
        refine TailL.cons (fun K hK => ?_)
        go_simp
        refine hK.out _ _ ?_
        clear hK K
        refine TailL.nil ?_
        have kx : ((((((w1.setCell ⟨bx, 0, none⟩ (.bool xc.s)).setCell ⟨bx, 1, none⟩ (.int .i64 xc.m)).setCell ⟨bx, 2, none⟩ (.int .i64 xc.r)).setCell ⟨bz, 0, none⟩ (.bool yc.s)).setCell ⟨bz, 1, none⟩ (.int .i64 yc.m)).setCell ⟨bz, 2, none⟩ (.int .i64 yc.r)).heap[bx]? = some (.cells #[.bool xc.s, .int .i64 xc.m, .int .i64 xc.r] 25) := by
          (iterate 3 (refine (Below.heap_setCell _ _ _ _ (by dsimp only; omega)).trans ?_))
          exact blk_set3 h4
        have ky : ((((((w1.setCell ⟨bx, 0, none⟩ (.bool xc.s)).setCell ⟨bx, 1, none⟩ (.int .i64 xc.m)).setCell ⟨bx, 2, none⟩ (.int .i64 xc.r)).setCell ⟨bz, 0, none⟩ (.bool yc.s)).setCell ⟨bz, 1, none⟩ (.int .i64 yc.m)).setCell ⟨bz, 2, none⟩ (.int .i64 yc.r)).heap[bz]? = some (.cells #[.bool yc.s, .int .i64 yc.m, .int .i64 yc.r] 25) := by
          refine blk_set3 (c0 := .bool false) (c1 := .int .i64 0) (c2 := .int .i64 0) ?_
          (iterate 3 (refine (Below.heap_setCell _ _ _ _ (by dsimp only; omega)).trans ?_))
          exact h5
        have hcb : Below wc.heap.size wc ((((((w1.setCell ⟨bx, 0, none⟩ (.bool xc.s)).setCell ⟨bx, 1, none⟩ (.int .i64 xc.m)).setCell ⟨bx, 2, none⟩ (.int .i64 xc.r)).setCell ⟨bz, 0, none⟩ (.bool yc.s)).setCell ⟨bz, 1, none⟩ (.int .i64 yc.m)).setCell ⟨bz, 2, none⟩ (.int .i64 yc.r)) := (by repeat (first | (with_reducible assumption) | (with_reducible exact Below.refl _ _) | (with_reducible refine Below.alloc ?_ (by first | omega | (simp; omega) | (simp; done) | (dsimp only; omega)) _) | (with_reducible refine Below.setCell ?_ (by first | omega | (simp; omega) | (simp; done) | (dsimp only; omega)) _) | (with_reducible refine Below.drew ?_) | (with_reducible refine Below.trans ?_ (Below.mono (by assumption) (by first | omega | (simp; omega) | (simp; done) | (dsimp only; omega))))))
        generalize (((((w1.setCell ⟨bx, 0, none⟩ (.bool xc.s)).setCell ⟨bx, 1, none⟩ (.int .i64 xc.m)).setCell ⟨bx, 2, none⟩ (.int .i64 xc.r)).setCell ⟨bz, 0, none⟩ (.bool yc.s)).setCell ⟨bz, 1, none⟩ (.int .i64 yc.m)).setCell ⟨bz, 2, none⟩ (.int .i64 yc.r) = Z at *
        clear g4 g5 f4 f5 h4 h5 x4 x5 hB1 w4 w5 n45 n54
        replace HB := HB.trans (hcb.mono HB.size)
        replace KA := Lib.hid ((hcb.block _ za).trans KA.out)
        replace KB := Lib.hid ((hcb.block _ zb).trans KB.out)
        replace KP := Lib.hid ((hcb.block _ zp).trans KP.out)
        replace KQ := Lib.hid ((hcb.block _ zq).trans KQ.out)
        replace RT2 := Lib.hid (RT2.out.mono hcb)
        replace RM2 := Lib.hid (RM2.out.mono hcb)
        clear hcb
        (try clear ga)
        clear za
        have ga := blk_cell KA.out
        have za := blk_lt KA.out
        (try clear gb)
        clear zb
        have gb := blk_cell KB.out
        have zb := blk_lt KB.out
        (try clear gp)
        clear zp
        have gp := blk_cell KP.out
        have zp := blk_lt KP.out
        (try clear gq)
        clear zq
        have gq := blk_cell KQ.out
        have zq := blk_lt KQ.out
        have gx := blk_cell kx
        have gy := blk_cell ky
        have zx := blk_lt kx
        have zy := blk_lt ky
        go_upto_region 11 with fail
        go_cut [113] (fun s113 wx => s113 = .bool (decide (0 < xc.m) && decide (0 < yc.m)) ∧ Below Z.heap.size Z wx)
        case first => as_aux_lemma =>
          clear WD NAR M3 KA KB KP KQ RT2 RM2 ga gb gp gq za zb zp zq
          by_cases hx : 0 < xc.m
          · by_cases hy : 0 < yc.m
            · go_wp2
              go_meet
              exact ⟨by first | (simp [hx, hy]; done) | (simp; omega), Below.refl _ _⟩
            · go_wp2
              go_meet
              exact ⟨by first | (simp [hx, hy]; done) | (simp; omega), Below.refl _ _⟩
          · go_wp2
            go_meet
            exact ⟨by first | (simp; done) | (simp; omega), Below.refl _ _⟩
        case rest => as_aux_lemma =>
          obtain ⟨rfl, hcb⟩ := hcut
          have kx2 := Lib.hid ((hcb.block _ zx).trans kx)
          have ky2 := Lib.hid ((hcb.block _ zy).trans ky)
          clear kx ky gx gy zx zy
          replace HB := HB.trans (hcb.mono HB.size)
          replace KA := Lib.hid ((hcb.block _ za).trans KA.out)
          replace KB := Lib.hid ((hcb.block _ zb).trans KB.out)
          replace KP := Lib.hid ((hcb.block _ zp).trans KP.out)
          replace KQ := Lib.hid ((hcb.block _ zq).trans KQ.out)
          replace RT2 := Lib.hid (RT2.out.mono hcb)
          replace RM2 := Lib.hid (RM2.out.mono hcb)
          clear hcb
          (try clear ga)
          clear za
          have ga := blk_cell KA.out
          have za := blk_lt KA.out
          (try clear gb)
          clear zb
          have gb := blk_cell KB.out
          have zb := blk_lt KB.out
          (try clear gp)
          clear zp
          have gp := blk_cell KP.out
          have zp := blk_lt KP.out
          (try clear gq)
          clear zq
          have gq := blk_cell KQ.out
          have zq := blk_lt KQ.out
          have gx := blk_cell kx2.out
          have gy := blk_cell ky2.out
          have zx := blk_lt kx2.out
          have zy := blk_lt ky2.out
          have HCV : (decide (0 < xc.m) && decide (0 < yc.m)) = false ∧ ¬ (0 < xc.m ∧ 0 < yc.m) ∨ (decide (0 < xc.m) && decide (0 < yc.m)) = true ∧ 0 < xc.m ∧ 0 < yc.m := by
            by_cases hx : 0 < xc.m
            · by_cases hy : 0 < yc.m
              · right; exact ⟨by simp [hx, hy], hx, hy⟩
              · left; exact ⟨by rw [show decide (0 < yc.m) = false from decide_eq_false hy, Bool.and_false], fun h => hy h.2⟩
            · left; exact ⟨by simp [hx], fun h => hx h.1⟩
          generalize (decide (0 < xc.m) && decide (0 < yc.m)) = cv at *
          rcases HCV with ⟨rfl, hnn⟩ | ⟨rfl, hx, hy⟩
          · have HF := HFITS.out (fun h => hnn ⟨h.1, h.2.1⟩)
            subst HF
            clear hnn HFITS HXS HYS gx gy kx2 ky2
            go_upto_region 14 with fail
            go_cut [143] (fun s143 wx => s143 = .bool false ∧ Below wc.heap.size wc wx)
            case first => as_aux_lemma =>
              have SB : Below wc.heap.size wc wc := Below.refl _ _
              clear WD NAR
              cases i1
              all_goals
                go_wp2_with fail
                go_at_call 16
                refine (M3.out A3 c3 _).mono ?_
                rintro e u3 ⟨rfl, hb3⟩
                replace SB := SB.trans (hb3.mono SB.size)
                clear hb3
                (try clear ga)
                (try clear gb)
                (try clear gp)
                (try clear gq)
                have ga := blk_cell ((SB.block _ za).trans KA.out)
                have gb := blk_cell ((SB.block _ zb).trans KB.out)
                have gp := blk_cell ((SB.block _ zp).trans KP.out)
                have gq := blk_cell ((SB.block _ zq).trans KQ.out)
                go_wp2
                go_meet
                exact ⟨rfl, SB⟩
            case rest => as_aux_lemma =>
              obtain ⟨rfl, hcb⟩ := hcut
              replace HB := HB.trans (hcb.mono HB.size)
              replace KA := Lib.hid ((hcb.block _ za).trans KA.out)
              replace KB := Lib.hid ((hcb.block _ zb).trans KB.out)
              replace KP := Lib.hid ((hcb.block _ zp).trans KP.out)
              replace KQ := Lib.hid ((hcb.block _ zq).trans KQ.out)
              replace RT2 := Lib.hid (RT2.out.mono hcb)
              replace RM2 := Lib.hid (RM2.out.mono hcb)
              clear hcb
              (try clear ga)
              clear za
              have ga := blk_cell KA.out
              have za := blk_lt KA.out
              (try clear gb)
              clear zb
              have gb := blk_cell KB.out
              have zb := blk_lt KB.out
              (try clear gp)
              clear zp
              have gp := blk_cell KP.out
              have zp := blk_lt KP.out
              (try clear gq)
              clear zq
              have gq := blk_cell KQ.out
              have zq := blk_lt KQ.out
              clear M3
              go_upto_region 16 with fail
              go_wp2_with fail
              have IR := IRow.one wc n 3
              have HN : Below wc.heap.size wc (wc.alloc (.cells #[.int .i64 n] 3)) := (by repeat (first | (with_reducible assumption) | (with_reducible exact Below.refl _ _) | (with_reducible refine Below.alloc ?_ (by first | omega | (simp; omega) | (simp; done) | (dsimp only; omega)) _) | (with_reducible refine Below.setCell ?_ (by first | omega | (simp; omega) | (simp; done) | (dsimp only; omega)) _) | (with_reducible refine Below.drew ?_) | (with_reducible refine Below.trans ?_ (Below.mono (by assumption) (by first | omega | (simp; omega) | (simp; done) | (dsimp only; omega))))))
              generalize wc.alloc (.cells #[.int .i64 n] 3) = N at *
              go_at_call 6
              refine (WD.out _ N (HB.trans (HN.mono HB.size)) IR).mono ?_
              rintro e v1 ⟨⟨A5, c5, rfl, m5⟩, hb1⟩
              have hcd := HN.trans (hb1.mono HN.size)
              clear HN hb1 IR
              go_upto_region 17 with fail
              have kw := al_new v1 (.cells #[.bool wv.s.s, .int .i64 wv.s.lo, .int .i64 wv.s.hi, .bool wv.c.s, .int .i64 wv.c.m, .int .i64 wv.c.r, .bool (na || nb), .slice A5 (srt (la ++ lb)).length c5] 30) rfl
              have HV5 : Below v1.heap.size v1 (v1.alloc (.cells #[.bool wv.s.s, .int .i64 wv.s.lo, .int .i64 wv.s.hi, .bool wv.c.s, .int .i64 wv.c.m, .int .i64 wv.c.r, .bool (na || nb), .slice A5 (srt (la ++ lb)).length c5] 30)) := (by repeat (first | (with_reducible assumption) | (with_reducible exact Below.refl _ _) | (with_reducible refine Below.alloc ?_ (by first | omega | (simp; omega) | (simp; done) | (dsimp only; omega)) _) | (with_reducible refine Below.setCell ?_ (by first | omega | (simp; omega) | (simp; done) | (dsimp only; omega)) _) | (with_reducible refine Below.drew ?_) | (with_reducible refine Below.trans ?_ (Below.mono (by assumption) (by first | omega | (simp; omega) | (simp; done) | (dsimp only; omega))))))
              generalize v1.alloc (.cells #[.bool wv.s.s, .int .i64 wv.s.lo, .int .i64 wv.s.hi, .bool wv.c.s, .int .i64 wv.c.m, .int .i64 wv.c.r, .bool (na || nb), .slice A5 (srt (la ++ lb)).length c5] 30) = V5 at *
              have R5 := Lib.hid (m5.2.2.1.mono HV5)
              have N5 := Lib.hid m5.2.2.2.1
              have hce := hcd.trans (HV5.mono hcd.size)
              clear hcd HV5 m5 WD
              replace HB := HB.trans (hce.mono HB.size)
              replace KA := Lib.hid ((hce.block _ za).trans KA.out)
              replace KB := Lib.hid ((hce.block _ zb).trans KB.out)
              replace KP := Lib.hid ((hce.block _ zp).trans KP.out)
              replace KQ := Lib.hid ((hce.block _ zq).trans KQ.out)
              replace RT2 := Lib.hid (RT2.out.mono hce)
              replace RM2 := Lib.hid (RM2.out.mono hce)
              clear hce
              (try clear ga)
              clear za
              have ga := blk_cell KA.out
              have za := blk_lt KA.out
              (try clear gb)
              clear zb
              have gb := blk_cell KB.out
              have zb := blk_lt KB.out
              (try clear gp)
              clear zp
              have gp := blk_cell KP.out
              have zp := blk_lt KP.out
              (try clear gq)
              clear zq
              have gq := blk_cell KQ.out
              have zq := blk_lt KQ.out
              have KW := Lib.hid kw
              have gw := blk_cell kw
              have zw := blk_lt kw
              clear kw
              go_wp2_with fail
              go_at_call 8
              refine (NAR.out A1 c1 _ HN1.out RT2.out HB).mono ?_
              rintro e v2 ⟨⟨A6, c6, rfl, m6⟩, hb2⟩
              have R52 := Lib.hid (R5.out.mono hb2)
              have KW2 := Lib.hid ((hb2.block _ zw).trans KW.out)
              clear gw zw KW R5
              have zw := blk_lt KW2.out
              replace HB := HB.trans (hb2.mono HB.size)
              replace KA := Lib.hid ((hb2.block _ za).trans KA.out)
              replace KB := Lib.hid ((hb2.block _ zb).trans KB.out)
              replace KP := Lib.hid ((hb2.block _ zp).trans KP.out)
              replace KQ := Lib.hid ((hb2.block _ zq).trans KQ.out)
              replace RT2 := Lib.hid (RT2.out.mono hb2)
              replace RM2 := Lib.hid (RM2.out.mono hb2)
              clear hb2
              (try clear ga)
              clear za
              have ga := blk_cell KA.out
              have za := blk_lt KA.out
              (try clear gb)
              clear zb
              have gb := blk_cell KB.out
              have zb := blk_lt KB.out
              (try clear gp)
              clear zp
              have gp := blk_cell KP.out
              have zp := blk_lt KP.out
              (try clear gq)
              clear zq
              have gq := blk_cell KQ.out
              have zq := blk_lt KQ.out
              go_upto_region 18 with fail
              have kk := al_new v2 (.cells #[.bool K.s.s, .int .i64 K.s.lo, .int .i64 K.s.hi, .bool K.c.s, .int .i64 K.c.m, .int .i64 K.c.r, .bool kn, .slice A6 kl.length c6] 30) rfl
              have HV6 : Below v2.heap.size v2 (v2.alloc (.cells #[.bool K.s.s, .int .i64 K.s.lo, .int .i64 K.s.hi, .bool K.c.s, .int .i64 K.c.m, .int .i64 K.c.r, .bool kn, .slice A6 kl.length c6] 30)) := (by repeat (first | (with_reducible assumption) | (with_reducible exact Below.refl _ _) | (with_reducible refine Below.alloc ?_ (by first | omega | (simp; omega) | (simp; done) | (dsimp only; omega)) _) | (with_reducible refine Below.setCell ?_ (by first | omega | (simp; omega) | (simp; done) | (dsimp only; omega)) _) | (with_reducible refine Below.drew ?_) | (with_reducible refine Below.trans ?_ (Below.mono (by assumption) (by first | omega | (simp; omega) | (simp; done) | (dsimp only; omega))))))
              generalize v2.alloc (.cells #[.bool K.s.s, .int .i64 K.s.lo, .int .i64 K.s.hi, .bool K.c.s, .int .i64 K.c.m, .int .i64 K.c.r, .bool kn, .slice A6 kl.length c6] 30) = V6 at *
              have R6 := Lib.hid (m6.2.2.1.mono HV6)
              have N6 := Lib.hid m6.2.2.2.1
              have R53 := Lib.hid (R52.out.mono HV6)
              have KW3 := Lib.hid ((HV6.block _ zw).trans KW2.out)
              clear zw KW2 R52 m6 NAR
              replace HB := HB.trans (HV6.mono HB.size)
              replace KA := Lib.hid ((HV6.block _ za).trans KA.out)
              replace KB := Lib.hid ((HV6.block _ zb).trans KB.out)
              replace KP := Lib.hid ((HV6.block _ zp).trans KP.out)
              replace KQ := Lib.hid ((HV6.block _ zq).trans KQ.out)
              replace RT2 := Lib.hid (RT2.out.mono HV6)
              replace RM2 := Lib.hid (RM2.out.mono HV6)
              clear HV6
              (try clear ga)
              clear za
              have ga := blk_cell KA.out
              have za := blk_lt KA.out
              (try clear gb)
              clear zb
              have gb := blk_cell KB.out
              have zb := blk_lt KB.out
              (try clear gp)
              clear zp
              have gp := blk_cell KP.out
              have zp := blk_lt KP.out
              (try clear gq)
              clear zq
              have gq := blk_cell KQ.out
              have zq := blk_lt KQ.out
              have zw := blk_lt KW3.out
              have gw := blk_cell KW3.out
              have KK := Lib.hid kk
              have gk := blk_cell kk
              have zk := blk_lt kk
              clear kk
              have SB : Below V6.heap.size V6 V6 := Below.refl _ _
              have KW := KW3
              go_wp2_with fail
              go_at_call 15
              refine (P1.out A1 c1 A5 c5 _ HN1.out (RT2.out.mono SB) N5.out (R53.out.mono SB)).mono ?_
              rintro e u1 ⟨rfl, hb1⟩
              replace SB := SB.trans (hb1.mono SB.size)
              clear hb1
              (try clear ga)
              (try clear gb)
              (try clear gp)
              (try clear gq)
              have ga := blk_cell ((SB.block _ za).trans KA.out)
              have gb := blk_cell ((SB.block _ zb).trans KB.out)
              have gp := blk_cell ((SB.block _ zp).trans KP.out)
              clear gw gk
              have gw := blk_cell ((SB.block _ zw).trans KW.out)
              have gk := blk_cell ((SB.block _ zk).trans KK.out)
              go_wp2_with fail
              go_at_call 15
              refine (P2.out A6 c6 _ (HB.trans (SB.mono HB.size)) N6.out (R6.out.mono SB)).mono ?_
              rintro e u2 ⟨rfl, hb2⟩
              replace SB := SB.trans (hb2.mono SB.size)
              clear hb2
              (try clear ga)
              (try clear gb)
              (try clear gp)
              (try clear gq)
              have ga := blk_cell ((SB.block _ za).trans KA.out)
              have gb := blk_cell ((SB.block _ zb).trans KB.out)
              have gp := blk_cell ((SB.block _ zp).trans KP.out)
              clear gw gk
              have gw := blk_cell ((SB.block _ zw).trans KW.out)
              have gk := blk_cell ((SB.block _ zk).trans KK.out)
              go_wp2_with fail
              go_at_call 15
              refine (P3.out A1 c1 A6 c6 _ N6.out (R6.out.mono SB) HN1.out (RT2.out.mono SB)).mono ?_
              rintro e u3 ⟨rfl, hb3⟩
              replace SB := SB.trans (hb3.mono SB.size)
              clear hb3
              (try clear ga)
              (try clear gb)
              (try clear gp)
              (try clear gq)
              have ga := blk_cell ((SB.block _ za).trans KA.out)
              have gb := blk_cell ((SB.block _ zb).trans KB.out)
              have gp := blk_cell ((SB.block _ zp).trans KP.out)
              go_wp2_with fail
              go_at_call 10
              refine (law08_lives _).mono ?_
              rintro e u9 ⟨rfl, hb9⟩
              go_wp2
              go_ret
              exact ⟨rfl, HB.trans ((SB.trans (hb9.mono SB.size)).mono HB.size)⟩
          · obtain ⟨g, b', e1, hg, g1, tt, pb, b1, el, l0, lB⟩ := lcm_parts HXS.out.1 HYS.out.1 hx hy
            have xm := HXS.out.1.1
            have ym := HYS.out.1.1
            unfold I64 at xm ym
            have HGC := r5_gcd' xc.m yc.m (by unfold U64 M64; omega) (by unfold U64 M64; omega)
            rw [e1] at HGC
            have HGCC := Lib.hid HGC
            have hmm := r_mul xc.m b' (by unfold I64; omega) (by unfold I64; omega)
            rw [el] at hmm
            have HMM := Lib.hid hmm
            have hii := r_int (hiW (lcmI xc.m yc.m)) (loW (lcmI xc.m yc.m)) (I64_hi (by unfold I128; omega)) (U64.lo _)
            rw [wv_hilo] at hii
            have HII := Lib.hid hii
            have HFI := Lib.hid (show isI (lcmI xc.m yc.m) = true → hmi = (i1 && i2) from fun h => HFITS.out (fun h' => by
              have := (isI_iff _).1 h; unfold I64 at this; omega))
            clear HGC hmm hii e1 el HFITS HXS HYS
            generalize lcmI xc.m yc.m = l at *
            generalize hiW l = lh at *
            generalize loW l = ll at *
            generalize isI l = il at *
            generalize intI l = nl at *
            clear l0 lB
            have g0 : (g == 0) = false := by simp; omega
            have g2 : ¬ g = 0 := by omega
            have ww1 : IntKind.u64.wrap xc.m = xc.m := by rw [wrapu]; omega
            have ww2 : IntKind.u64.wrap yc.m = yc.m := by rw [wrapu]; omega
            have ww3 : wrap64 g = g := by unfold wrap64; omega
            have ww4 : IntKind.i64.wrap g = g := IntWalk.i64_in _ (by omega)
            have ww5 : IntKind.i64.wrap b' = b' := IntWalk.i64_in _ (by omega)
            (try clear ga)
            (try clear gb)
            (try clear gp)
            (try clear gq)
            go_upto_region 12 with fail
            refine region_seq (S := fun w' => Below wc.heap.size wc w') rfl (by kernel_rfl) (by kernel_rfl) (by repeat (first | (with_reducible assumption) | (with_reducible exact Below.refl _ _) | (with_reducible refine Below.alloc ?_ (by first | omega | (simp; omega) | (simp; done) | (dsimp only; omega)) _) | (with_reducible refine Below.setCell ?_ (by first | omega | (simp; omega) | (simp; done) | (dsimp only; omega)) _) | (with_reducible refine Below.drew ?_) | (with_reducible refine Below.trans ?_ (Below.mono (by assumption) (by first | omega | (simp; omega) | (simp; done) | (dsimp only; omega)))))) (fun fin hfin => ?_)
            iterate 20
              first
                | (refine SeqL.yes (v := ?_) (A' := ?_) rfl (by rfl) ?_ ?_ ?_
                   rotate_left 2
                   · intro w' K hS hK
                     obtain ⟨hc, hf⟩ := bcell hS
                     have hz := hS.size
                     go_simp
                     first
                       | exact hK.out _ hS
                       | (go_at_call 21; (with_reducible refine (HGCC.out _).mono ?_); rintro e w1 ⟨rfl, hb1⟩; exact hK.out _ (hS.trans (hb1.mono hz)))
                       | (go_at_call 20; (with_reducible refine (HMM.out _).mono ?_); rintro e w1 ⟨rfl, hb1⟩; exact hK.out _ (hS.trans (hb1.mono hz)))
                       | (go_at_call 19; (with_reducible refine (HII.out _).mono ?_); rintro e w1 ⟨rfl, hb1⟩; exact hK.out _ (hS.trans (hb1.mono hz)))
                       | trace_state
                   · simp only [Act.put, List.setIfInBounds_toArray, List.set_cons_zero, List.set_cons_succ]; exact rfl)
                | (refine SeqL.no (A' := ?_) rfl (by rfl) ?_ ?_
                   rotate_left
                   · simp only [Act.put, List.setIfInBounds_toArray, List.set_cons_zero, List.set_cons_succ]; exact rfl)
            refine SeqL.nil (hfin.out _ ?_)
            clear hfin fin
            intro w1 hS1
            clear ww1 ww2 ww3 ww4 ww5 g0 g2 gx gy kx2 ky2 HGCC HMM HII xm ym hx hy hg g1 tt pb b1
            replace HB := HB.trans (hS1.mono HB.size)
            replace KA := Lib.hid ((hS1.block _ za).trans KA.out)
            replace KB := Lib.hid ((hS1.block _ zb).trans KB.out)
            replace KP := Lib.hid ((hS1.block _ zp).trans KP.out)
            replace KQ := Lib.hid ((hS1.block _ zq).trans KQ.out)
            replace RT2 := Lib.hid (RT2.out.mono hS1)
            replace RM2 := Lib.hid (RM2.out.mono hS1)
            clear hS1
            (try clear ga)
            clear za
            have ga := blk_cell KA.out
            have za := blk_lt KA.out
            (try clear gb)
            clear zb
            have gb := blk_cell KB.out
            have zb := blk_lt KB.out
            (try clear gp)
            clear zp
            have gp := blk_cell KP.out
            have zp := blk_lt KP.out
            (try clear gq)
            clear zq
            have gq := blk_cell KQ.out
            have zq := blk_lt KQ.out
            cases il
            · go_upto_region 14 with fail
              go_cut [143] (fun s143 wx => s143 = .bool false ∧ Below w1.heap.size w1 wx)
              case first => as_aux_lemma =>
                have SB : Below w1.heap.size w1 w1 := Below.refl _ _
                clear WD NAR
                go_wp2
                go_meet
                exact ⟨rfl, SB⟩
              case rest => as_aux_lemma =>
                obtain ⟨rfl, hcb⟩ := hcut
                replace HB := HB.trans (hcb.mono HB.size)
                replace KA := Lib.hid ((hcb.block _ za).trans KA.out)
                replace KB := Lib.hid ((hcb.block _ zb).trans KB.out)
                replace KP := Lib.hid ((hcb.block _ zp).trans KP.out)
                replace KQ := Lib.hid ((hcb.block _ zq).trans KQ.out)
                replace RT2 := Lib.hid (RT2.out.mono hcb)
                replace RM2 := Lib.hid (RM2.out.mono hcb)
                clear hcb
                (try clear ga)
                clear za
                have ga := blk_cell KA.out
                have za := blk_lt KA.out
                (try clear gb)
                clear zb
                have gb := blk_cell KB.out
                have zb := blk_lt KB.out
                (try clear gp)
                clear zp
                have gp := blk_cell KP.out
                have zp := blk_lt KP.out
                (try clear gq)
                clear zq
                have gq := blk_cell KQ.out
                have zq := blk_lt KQ.out
                clear M3
                go_upto_region 16 with fail
                go_wp2_with fail
                have IR := IRow.one wc n 3
                have HN : Below wc.heap.size wc (wc.alloc (.cells #[.int .i64 n] 3)) := (by repeat (first | (with_reducible assumption) | (with_reducible exact Below.refl _ _) | (with_reducible refine Below.alloc ?_ (by first | omega | (simp; omega) | (simp; done) | (dsimp only; omega)) _) | (with_reducible refine Below.setCell ?_ (by first | omega | (simp; omega) | (simp; done) | (dsimp only; omega)) _) | (with_reducible refine Below.drew ?_) | (with_reducible refine Below.trans ?_ (Below.mono (by assumption) (by first | omega | (simp; omega) | (simp; done) | (dsimp only; omega))))))
                generalize wc.alloc (.cells #[.int .i64 n] 3) = N at *
                go_at_call 6
                refine (WD.out _ N (HB.trans (HN.mono HB.size)) IR).mono ?_
                rintro e v1 ⟨⟨A5, c5, rfl, m5⟩, hb1⟩
                have hcd := HN.trans (hb1.mono HN.size)
                clear HN hb1 IR
                go_upto_region 17 with fail
                have kw := al_new v1 (.cells #[.bool wv.s.s, .int .i64 wv.s.lo, .int .i64 wv.s.hi, .bool wv.c.s, .int .i64 wv.c.m, .int .i64 wv.c.r, .bool (na || nb), .slice A5 (srt (la ++ lb)).length c5] 30) rfl
                have HV5 : Below v1.heap.size v1 (v1.alloc (.cells #[.bool wv.s.s, .int .i64 wv.s.lo, .int .i64 wv.s.hi, .bool wv.c.s, .int .i64 wv.c.m, .int .i64 wv.c.r, .bool (na || nb), .slice A5 (srt (la ++ lb)).length c5] 30)) := (by repeat (first | (with_reducible assumption) | (with_reducible exact Below.refl _ _) | (with_reducible refine Below.alloc ?_ (by first | omega | (simp; omega) | (simp; done) | (dsimp only; omega)) _) | (with_reducible refine Below.setCell ?_ (by first | omega | (simp; omega) | (simp; done) | (dsimp only; omega)) _) | (with_reducible refine Below.drew ?_) | (with_reducible refine Below.trans ?_ (Below.mono (by assumption) (by first | omega | (simp; omega) | (simp; done) | (dsimp only; omega))))))
                generalize v1.alloc (.cells #[.bool wv.s.s, .int .i64 wv.s.lo, .int .i64 wv.s.hi, .bool wv.c.s, .int .i64 wv.c.m, .int .i64 wv.c.r, .bool (na || nb), .slice A5 (srt (la ++ lb)).length c5] 30) = V5 at *
                have R5 := Lib.hid (m5.2.2.1.mono HV5)
                have N5 := Lib.hid m5.2.2.2.1
                have hce := hcd.trans (HV5.mono hcd.size)
                clear hcd HV5 m5 WD
                replace HB := HB.trans (hce.mono HB.size)
                replace KA := Lib.hid ((hce.block _ za).trans KA.out)
                replace KB := Lib.hid ((hce.block _ zb).trans KB.out)
                replace KP := Lib.hid ((hce.block _ zp).trans KP.out)
                replace KQ := Lib.hid ((hce.block _ zq).trans KQ.out)
                replace RT2 := Lib.hid (RT2.out.mono hce)
                replace RM2 := Lib.hid (RM2.out.mono hce)
                clear hce
                (try clear ga)
                clear za
                have ga := blk_cell KA.out
                have za := blk_lt KA.out
                (try clear gb)
                clear zb
                have gb := blk_cell KB.out
                have zb := blk_lt KB.out
                (try clear gp)
                clear zp
                have gp := blk_cell KP.out
                have zp := blk_lt KP.out
                (try clear gq)
                clear zq
                have gq := blk_cell KQ.out
                have zq := blk_lt KQ.out
                have KW := Lib.hid kw
                have gw := blk_cell kw
                have zw := blk_lt kw
                clear kw
                go_wp2_with fail
                go_at_call 8
                refine (NAR.out A1 c1 _ HN1.out RT2.out HB).mono ?_
                rintro e v2 ⟨⟨A6, c6, rfl, m6⟩, hb2⟩
                have R52 := Lib.hid (R5.out.mono hb2)
                have KW2 := Lib.hid ((hb2.block _ zw).trans KW.out)
                clear gw zw KW R5
                have zw := blk_lt KW2.out
                replace HB := HB.trans (hb2.mono HB.size)
                replace KA := Lib.hid ((hb2.block _ za).trans KA.out)
                replace KB := Lib.hid ((hb2.block _ zb).trans KB.out)
                replace KP := Lib.hid ((hb2.block _ zp).trans KP.out)
                replace KQ := Lib.hid ((hb2.block _ zq).trans KQ.out)
                replace RT2 := Lib.hid (RT2.out.mono hb2)
                replace RM2 := Lib.hid (RM2.out.mono hb2)
                clear hb2
                (try clear ga)
                clear za
                have ga := blk_cell KA.out
                have za := blk_lt KA.out
                (try clear gb)
                clear zb
                have gb := blk_cell KB.out
                have zb := blk_lt KB.out
                (try clear gp)
                clear zp
                have gp := blk_cell KP.out
                have zp := blk_lt KP.out
                (try clear gq)
                clear zq
                have gq := blk_cell KQ.out
                have zq := blk_lt KQ.out
                go_upto_region 18 with fail
                have kk := al_new v2 (.cells #[.bool K.s.s, .int .i64 K.s.lo, .int .i64 K.s.hi, .bool K.c.s, .int .i64 K.c.m, .int .i64 K.c.r, .bool kn, .slice A6 kl.length c6] 30) rfl
                have HV6 : Below v2.heap.size v2 (v2.alloc (.cells #[.bool K.s.s, .int .i64 K.s.lo, .int .i64 K.s.hi, .bool K.c.s, .int .i64 K.c.m, .int .i64 K.c.r, .bool kn, .slice A6 kl.length c6] 30)) := (by repeat (first | (with_reducible assumption) | (with_reducible exact Below.refl _ _) | (with_reducible refine Below.alloc ?_ (by first | omega | (simp; omega) | (simp; done) | (dsimp only; omega)) _) | (with_reducible refine Below.setCell ?_ (by first | omega | (simp; omega) | (simp; done) | (dsimp only; omega)) _) | (with_reducible refine Below.drew ?_) | (with_reducible refine Below.trans ?_ (Below.mono (by assumption) (by first | omega | (simp; omega) | (simp; done) | (dsimp only; omega))))))
                generalize v2.alloc (.cells #[.bool K.s.s, .int .i64 K.s.lo, .int .i64 K.s.hi, .bool K.c.s, .int .i64 K.c.m, .int .i64 K.c.r, .bool kn, .slice A6 kl.length c6] 30) = V6 at *
                have R6 := Lib.hid (m6.2.2.1.mono HV6)
                have N6 := Lib.hid m6.2.2.2.1
                have R53 := Lib.hid (R52.out.mono HV6)
                have KW3 := Lib.hid ((HV6.block _ zw).trans KW2.out)
                clear zw KW2 R52 m6 NAR
                replace HB := HB.trans (HV6.mono HB.size)
                replace KA := Lib.hid ((HV6.block _ za).trans KA.out)
                replace KB := Lib.hid ((HV6.block _ zb).trans KB.out)
                replace KP := Lib.hid ((HV6.block _ zp).trans KP.out)
                replace KQ := Lib.hid ((HV6.block _ zq).trans KQ.out)
                replace RT2 := Lib.hid (RT2.out.mono HV6)
                replace RM2 := Lib.hid (RM2.out.mono HV6)
                clear HV6
                (try clear ga)
                clear za
                have ga := blk_cell KA.out
                have za := blk_lt KA.out
                (try clear gb)
                clear zb
                have gb := blk_cell KB.out
                have zb := blk_lt KB.out
                (try clear gp)
                clear zp
                have gp := blk_cell KP.out
                have zp := blk_lt KP.out
                (try clear gq)
                clear zq
                have gq := blk_cell KQ.out
                have zq := blk_lt KQ.out
                have zw := blk_lt KW3.out
                have gw := blk_cell KW3.out
                have KK := Lib.hid kk
                have gk := blk_cell kk
                have zk := blk_lt kk
                clear kk
                have SB : Below V6.heap.size V6 V6 := Below.refl _ _
                have KW := KW3
                go_wp2_with fail
                go_at_call 15
                refine (P1.out A1 c1 A5 c5 _ HN1.out (RT2.out.mono SB) N5.out (R53.out.mono SB)).mono ?_
                rintro e u1 ⟨rfl, hb1⟩
                replace SB := SB.trans (hb1.mono SB.size)
                clear hb1
                (try clear ga)
                (try clear gb)
                (try clear gp)
                (try clear gq)
                have ga := blk_cell ((SB.block _ za).trans KA.out)
                have gb := blk_cell ((SB.block _ zb).trans KB.out)
                have gp := blk_cell ((SB.block _ zp).trans KP.out)
                clear gw gk
                have gw := blk_cell ((SB.block _ zw).trans KW.out)
                have gk := blk_cell ((SB.block _ zk).trans KK.out)
                go_wp2_with fail
                go_at_call 15
                refine (P2.out A6 c6 _ (HB.trans (SB.mono HB.size)) N6.out (R6.out.mono SB)).mono ?_
                rintro e u2 ⟨rfl, hb2⟩
                replace SB := SB.trans (hb2.mono SB.size)
                clear hb2
                (try clear ga)
                (try clear gb)
                (try clear gp)
                (try clear gq)
                have ga := blk_cell ((SB.block _ za).trans KA.out)
                have gb := blk_cell ((SB.block _ zb).trans KB.out)
                have gp := blk_cell ((SB.block _ zp).trans KP.out)
                clear gw gk
                have gw := blk_cell ((SB.block _ zw).trans KW.out)
                have gk := blk_cell ((SB.block _ zk).trans KK.out)
                go_wp2_with fail
                go_at_call 15
                refine (P3.out A1 c1 A6 c6 _ N6.out (R6.out.mono SB) HN1.out (RT2.out.mono SB)).mono ?_
                rintro e u3 ⟨rfl, hb3⟩
                replace SB := SB.trans (hb3.mono SB.size)
                clear hb3
                (try clear ga)
                (try clear gb)
                (try clear gp)
                (try clear gq)
                have ga := blk_cell ((SB.block _ za).trans KA.out)
                have gb := blk_cell ((SB.block _ zb).trans KB.out)
                have gp := blk_cell ((SB.block _ zp).trans KP.out)
                go_wp2_with fail
                go_at_call 10
                refine (law08_lives _).mono ?_
                rintro e u9 ⟨rfl, hb9⟩
                go_wp2
                go_ret
                exact ⟨rfl, HB.trans ((SB.trans (hb9.mono SB.size)).mono HB.size)⟩
            · have HF := HFI.out rfl
              subst HF
              clear HFI
              go_upto_region 14 with fail
              go_cut [143] (fun s143 wx => s143 = .bool false ∧ Below w1.heap.size w1 wx)
              case first => as_aux_lemma =>
                have SB : Below w1.heap.size w1 w1 := Below.refl _ _
                clear WD NAR
                cases i1
                all_goals
                  go_wp2_with fail
                  go_at_call 16
                  refine (M3.out A3 c3 _).mono ?_
                  rintro e u3 ⟨rfl, hb3⟩
                  replace SB := SB.trans (hb3.mono SB.size)
                  clear hb3
                  (try clear ga)
                  (try clear gb)
                  (try clear gp)
                  (try clear gq)
                  have ga := blk_cell ((SB.block _ za).trans KA.out)
                  have gb := blk_cell ((SB.block _ zb).trans KB.out)
                  have gp := blk_cell ((SB.block _ zp).trans KP.out)
                  have gq := blk_cell ((SB.block _ zq).trans KQ.out)
                  go_wp2
                  go_meet
                  exact ⟨rfl, SB⟩
              case rest => as_aux_lemma =>
                obtain ⟨rfl, hcb⟩ := hcut
                replace HB := HB.trans (hcb.mono HB.size)
                replace KA := Lib.hid ((hcb.block _ za).trans KA.out)
                replace KB := Lib.hid ((hcb.block _ zb).trans KB.out)
                replace KP := Lib.hid ((hcb.block _ zp).trans KP.out)
                replace KQ := Lib.hid ((hcb.block _ zq).trans KQ.out)
                replace RT2 := Lib.hid (RT2.out.mono hcb)
                replace RM2 := Lib.hid (RM2.out.mono hcb)
                clear hcb
                (try clear ga)
                clear za
                have ga := blk_cell KA.out
                have za := blk_lt KA.out
                (try clear gb)
                clear zb
                have gb := blk_cell KB.out
                have zb := blk_lt KB.out
                (try clear gp)
                clear zp
                have gp := blk_cell KP.out
                have zp := blk_lt KP.out
                (try clear gq)
                clear zq
                have gq := blk_cell KQ.out
                have zq := blk_lt KQ.out
                clear M3
                go_upto_region 16 with fail
                go_wp2_with fail
                have IR := IRow.one wc n 3
                have HN : Below wc.heap.size wc (wc.alloc (.cells #[.int .i64 n] 3)) := (by repeat (first | (with_reducible assumption) | (with_reducible exact Below.refl _ _) | (with_reducible refine Below.alloc ?_ (by first | omega | (simp; omega) | (simp; done) | (dsimp only; omega)) _) | (with_reducible refine Below.setCell ?_ (by first | omega | (simp; omega) | (simp; done) | (dsimp only; omega)) _) | (with_reducible refine Below.drew ?_) | (with_reducible refine Below.trans ?_ (Below.mono (by assumption) (by first | omega | (simp; omega) | (simp; done) | (dsimp only; omega))))))
                generalize wc.alloc (.cells #[.int .i64 n] 3) = N at *
                go_at_call 6
                refine (WD.out _ N (HB.trans (HN.mono HB.size)) IR).mono ?_
                rintro e v1 ⟨⟨A5, c5, rfl, m5⟩, hb1⟩
                have hcd := HN.trans (hb1.mono HN.size)
                clear HN hb1 IR
                go_upto_region 17 with fail
                have kw := al_new v1 (.cells #[.bool wv.s.s, .int .i64 wv.s.lo, .int .i64 wv.s.hi, .bool wv.c.s, .int .i64 wv.c.m, .int .i64 wv.c.r, .bool (na || nb), .slice A5 (srt (la ++ lb)).length c5] 30) rfl
                have HV5 : Below v1.heap.size v1 (v1.alloc (.cells #[.bool wv.s.s, .int .i64 wv.s.lo, .int .i64 wv.s.hi, .bool wv.c.s, .int .i64 wv.c.m, .int .i64 wv.c.r, .bool (na || nb), .slice A5 (srt (la ++ lb)).length c5] 30)) := (by repeat (first | (with_reducible assumption) | (with_reducible exact Below.refl _ _) | (with_reducible refine Below.alloc ?_ (by first | omega | (simp; omega) | (simp; done) | (dsimp only; omega)) _) | (with_reducible refine Below.setCell ?_ (by first | omega | (simp; omega) | (simp; done) | (dsimp only; omega)) _) | (with_reducible refine Below.drew ?_) | (with_reducible refine Below.trans ?_ (Below.mono (by assumption) (by first | omega | (simp; omega) | (simp; done) | (dsimp only; omega))))))
                generalize v1.alloc (.cells #[.bool wv.s.s, .int .i64 wv.s.lo, .int .i64 wv.s.hi, .bool wv.c.s, .int .i64 wv.c.m, .int .i64 wv.c.r, .bool (na || nb), .slice A5 (srt (la ++ lb)).length c5] 30) = V5 at *
                have R5 := Lib.hid (m5.2.2.1.mono HV5)
                have N5 := Lib.hid m5.2.2.2.1
                have hce := hcd.trans (HV5.mono hcd.size)
                clear hcd HV5 m5 WD
                replace HB := HB.trans (hce.mono HB.size)
                replace KA := Lib.hid ((hce.block _ za).trans KA.out)
                replace KB := Lib.hid ((hce.block _ zb).trans KB.out)
                replace KP := Lib.hid ((hce.block _ zp).trans KP.out)
                replace KQ := Lib.hid ((hce.block _ zq).trans KQ.out)
                replace RT2 := Lib.hid (RT2.out.mono hce)
                replace RM2 := Lib.hid (RM2.out.mono hce)
                clear hce
                (try clear ga)
                clear za
                have ga := blk_cell KA.out
                have za := blk_lt KA.out
                (try clear gb)
                clear zb
                have gb := blk_cell KB.out
                have zb := blk_lt KB.out
                (try clear gp)
                clear zp
                have gp := blk_cell KP.out
                have zp := blk_lt KP.out
                (try clear gq)
                clear zq
                have gq := blk_cell KQ.out
                have zq := blk_lt KQ.out
                have KW := Lib.hid kw
                have gw := blk_cell kw
                have zw := blk_lt kw
                clear kw
                go_wp2_with fail
                go_at_call 8
                refine (NAR.out A1 c1 _ HN1.out RT2.out HB).mono ?_
                rintro e v2 ⟨⟨A6, c6, rfl, m6⟩, hb2⟩
                have R52 := Lib.hid (R5.out.mono hb2)
                have KW2 := Lib.hid ((hb2.block _ zw).trans KW.out)
                clear gw zw KW R5
                have zw := blk_lt KW2.out
                replace HB := HB.trans (hb2.mono HB.size)
                replace KA := Lib.hid ((hb2.block _ za).trans KA.out)
                replace KB := Lib.hid ((hb2.block _ zb).trans KB.out)
                replace KP := Lib.hid ((hb2.block _ zp).trans KP.out)
                replace KQ := Lib.hid ((hb2.block _ zq).trans KQ.out)
                replace RT2 := Lib.hid (RT2.out.mono hb2)
                replace RM2 := Lib.hid (RM2.out.mono hb2)
                clear hb2
                (try clear ga)
                clear za
                have ga := blk_cell KA.out
                have za := blk_lt KA.out
                (try clear gb)
                clear zb
                have gb := blk_cell KB.out
                have zb := blk_lt KB.out
                (try clear gp)
                clear zp
                have gp := blk_cell KP.out
                have zp := blk_lt KP.out
                (try clear gq)
                clear zq
                have gq := blk_cell KQ.out
                have zq := blk_lt KQ.out
                go_upto_region 18 with fail
                have kk := al_new v2 (.cells #[.bool K.s.s, .int .i64 K.s.lo, .int .i64 K.s.hi, .bool K.c.s, .int .i64 K.c.m, .int .i64 K.c.r, .bool kn, .slice A6 kl.length c6] 30) rfl
                have HV6 : Below v2.heap.size v2 (v2.alloc (.cells #[.bool K.s.s, .int .i64 K.s.lo, .int .i64 K.s.hi, .bool K.c.s, .int .i64 K.c.m, .int .i64 K.c.r, .bool kn, .slice A6 kl.length c6] 30)) := (by repeat (first | (with_reducible assumption) | (with_reducible exact Below.refl _ _) | (with_reducible refine Below.alloc ?_ (by first | omega | (simp; omega) | (simp; done) | (dsimp only; omega)) _) | (with_reducible refine Below.setCell ?_ (by first | omega | (simp; omega) | (simp; done) | (dsimp only; omega)) _) | (with_reducible refine Below.drew ?_) | (with_reducible refine Below.trans ?_ (Below.mono (by assumption) (by first | omega | (simp; omega) | (simp; done) | (dsimp only; omega))))))
                generalize v2.alloc (.cells #[.bool K.s.s, .int .i64 K.s.lo, .int .i64 K.s.hi, .bool K.c.s, .int .i64 K.c.m, .int .i64 K.c.r, .bool kn, .slice A6 kl.length c6] 30) = V6 at *
                have R6 := Lib.hid (m6.2.2.1.mono HV6)
                have N6 := Lib.hid m6.2.2.2.1
                have R53 := Lib.hid (R52.out.mono HV6)
                have KW3 := Lib.hid ((HV6.block _ zw).trans KW2.out)
                clear zw KW2 R52 m6 NAR
                replace HB := HB.trans (HV6.mono HB.size)
                replace KA := Lib.hid ((HV6.block _ za).trans KA.out)
                replace KB := Lib.hid ((HV6.block _ zb).trans KB.out)
                replace KP := Lib.hid ((HV6.block _ zp).trans KP.out)
                replace KQ := Lib.hid ((HV6.block _ zq).trans KQ.out)
                replace RT2 := Lib.hid (RT2.out.mono HV6)
                replace RM2 := Lib.hid (RM2.out.mono HV6)
                clear HV6
                (try clear ga)
                clear za
                have ga := blk_cell KA.out
                have za := blk_lt KA.out
                (try clear gb)
                clear zb
                have gb := blk_cell KB.out
                have zb := blk_lt KB.out
                (try clear gp)
                clear zp
                have gp := blk_cell KP.out
                have zp := blk_lt KP.out
                (try clear gq)
                clear zq
                have gq := blk_cell KQ.out
                have zq := blk_lt KQ.out
                have zw := blk_lt KW3.out
                have gw := blk_cell KW3.out
                have KK := Lib.hid kk
                have gk := blk_cell kk
                have zk := blk_lt kk
                clear kk
                have SB : Below V6.heap.size V6 V6 := Below.refl _ _
                have KW := KW3
                go_wp2_with fail
                go_at_call 15
                refine (P1.out A1 c1 A5 c5 _ HN1.out (RT2.out.mono SB) N5.out (R53.out.mono SB)).mono ?_
                rintro e u1 ⟨rfl, hb1⟩
                replace SB := SB.trans (hb1.mono SB.size)
                clear hb1
                (try clear ga)
                (try clear gb)
                (try clear gp)
                (try clear gq)
                have ga := blk_cell ((SB.block _ za).trans KA.out)
                have gb := blk_cell ((SB.block _ zb).trans KB.out)
                have gp := blk_cell ((SB.block _ zp).trans KP.out)
                clear gw gk
                have gw := blk_cell ((SB.block _ zw).trans KW.out)
                have gk := blk_cell ((SB.block _ zk).trans KK.out)
                go_wp2_with fail
                go_at_call 15
                refine (P2.out A6 c6 _ (HB.trans (SB.mono HB.size)) N6.out (R6.out.mono SB)).mono ?_
                rintro e u2 ⟨rfl, hb2⟩
                replace SB := SB.trans (hb2.mono SB.size)
                clear hb2
                (try clear ga)
                (try clear gb)
                (try clear gp)
                (try clear gq)
                have ga := blk_cell ((SB.block _ za).trans KA.out)
                have gb := blk_cell ((SB.block _ zb).trans KB.out)
                have gp := blk_cell ((SB.block _ zp).trans KP.out)
                clear gw gk
                have gw := blk_cell ((SB.block _ zw).trans KW.out)
                have gk := blk_cell ((SB.block _ zk).trans KK.out)
                go_wp2_with fail
                go_at_call 15
                refine (P3.out A1 c1 A6 c6 _ N6.out (R6.out.mono SB) HN1.out (RT2.out.mono SB)).mono ?_
                rintro e u3 ⟨rfl, hb3⟩
                replace SB := SB.trans (hb3.mono SB.size)
                clear hb3
                (try clear ga)
                (try clear gb)
                (try clear gp)
                (try clear gq)
                have ga := blk_cell ((SB.block _ za).trans KA.out)
                have gb := blk_cell ((SB.block _ zb).trans KB.out)
                have gp := blk_cell ((SB.block _ zp).trans KP.out)
                go_wp2_with fail
                go_at_call 10
                refine (law08_lives _).mono ?_
                rintro e u9 ⟨rfl, hb9⟩
                go_wp2
                go_ret
                exact ⟨rfl, HB.trans ((SB.trans (hb9.mono SB.size)).mono HB.size)⟩
end Go.Proofs.YtdpnphnafidpiaaGreat
