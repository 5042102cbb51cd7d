/- X-PARTIAL The law KeyRows, walked: layer 26. -/
import Derived.Test.YtoclpodjigfmgaaDoorKeyAp
import Derived.Test.YtoclpodjigfmgaaDoorGrow
namespace Go.Proofs.YtoclpodjigfmgaaDoor
open Go.RowKit Go.Lib

set_option maxRecDepth 1000000 in
set_option maxHeartbeats 4000000 in
theorem law_keyRows (a b : List Ky) (k : Ky) (A B : Option Addr) (ca cb : Nat) (w : World) (hra : KRow w A a) (hrb : KRow w B b) (hza : A = none → ca = 0) (hzb : B = none → cb = 0) (hm : a.length + b.length ≤ 1048576) (hv : RV w) (ht : TV w) :
    Calls Tryd.prog 3 #[.slice A a.length ca, .slice B b.length cb, .agg #[encStr k.n, .int .i64 k.d]] w fun e w' => e = .returned (.bool true) ∧ Below w.heap.size w w' := by
  have HL := Lib.hid (fun w' (hb : Below w.heap.size w w') => law26_lives w' (hv.mono hb) (ht.mono hb))
  have HZA := Lib.hid hza
  have HZB := Lib.hid hzb
  have k0 : (w.alloc (.cells #[encStr k.n, .int .i64 k.d] 24)).heap[w.heap.size]? = some (.cells #[encStr k.n, .int .i64 k.d] 24) := al_new w _ rfl
  have hb0 : Below w.heap.size w (w.alloc (.cells #[encStr k.n, .int .i64 k.d] 24)) := (Below.refl _ w).alloc (Nat.le_refl _) _
  have q0 : (w.alloc (.cells #[encStr k.n, .int .i64 k.d] 24)).cell? ⟨w.heap.size, 0, none⟩ = some (encStr k.n) := by simp [go_sem]
  have q1 : (w.alloc (.cells #[encStr k.n, .int .i64 k.d] 24)).cell? ⟨w.heap.size, 1, none⟩ = some (.int .i64 k.d) := by simp [go_sem]
  have zb : w.heap.size + 1 ≤ (w.alloc (.cells #[encStr k.n, .int .i64 k.d] 24)).heap.size := blk_lt k0
  have HRA := Lib.hid hra
  have HRB := Lib.hid hrb
  clear k0 hv ht hza hzb hra hrb
  go_enter Tryd.func3, Tryd.ntmps3
  go_upto_region 2 with fail
  generalize w.alloc (.cells #[encStr k.n, .int .i64 k.d] 24) = W at *
  go_wp2_with (at_builtin; refine wpList_append_kk rfl _ _ rfl (w.heap.size + 1) (.slice none 0 0) [] a rfl (OwnKv.nil _ _) A ca rfl HZA.out (HRA.out.mono hb0) (by simp; omega) zb ?_)
  intro v1 w1 hown1 hgr1
  obtain ⟨A1, c1, rfl, -⟩ := hown1.row
  have hB1 : Below (w.heap.size + 1) W w1 := Below.grown (Below.refl _ W) hgr1 zb (fun j e => by cases e)
  have zb1 := Nat.le_trans zb hB1.size
  have HOW1 := Lib.hid hown1
  clear hown1 hgr1
  go_wp2_with (at_builtin; refine wpList_append_kk rfl _ _ rfl (w.heap.size + 1) (.slice A1 a.length c1) a b rfl HOW1.out B cb rfl HZB.out (HRB.out.mono (hb0.trans (hB1.mono (Nat.le_succ _)))) (by omega) zb1 ?_)
  intro v2 w2 hown2 hgr2
  obtain ⟨A2, c2, rfl, hr2⟩ := hown2.row
  have hB2 : Below (w.heap.size + 1) W w2 := Below.grown hB1 hgr2 zb1 (fun j e => (HOW1.out.lt j e).1)
  have zb2 := Nat.le_trans zb hB2.size
  have HR2 := Lib.hid hr2
  have p0 := (hB2.cell (p := ⟨w.heap.size, 0, none⟩) (Nat.lt_succ_self _)).trans q0
  have p1 := (hB2.cell (p := ⟨w.heap.size, 1, none⟩) (Nat.lt_succ_self _)).trans q1
  have hl2 := congrArg List.length (show a ++ b = a ++ b from rfl)
  clear hown2 hgr2 hr2 HOW1 hB1 zb1 q0 q1
  generalize hn2 : (a ++ b).length = n2 at *
  have HN2 := Lib.hid hn2
  clear hn2 hl2
  have hlit : OwnKv (w2.alloc (.cells #[encStr k.n, .int .i64 k.d] 24)) (w.heap.size + 1) (.slice (some ⟨w2.heap.size, 0, none⟩) 1 1) [k] := World.ownsRow_lit w2 #[encStr k.n, .int .i64 k.d] 1 zb2 (by unfold maxLen; omega) rfl
  have hB3 : Below (w.heap.size + 1) W (w2.alloc (.cells #[encStr k.n, .int .i64 k.d] 24)) := hB2.alloc zb2 _
  have HLIT := Lib.hid hlit
  have HB3 := Lib.hid hB3
  have HZ3 := Lib.hid (show w.heap.size + 1 ≤ (w2.alloc (.cells #[encStr k.n, .int .i64 k.d] 24)).heap.size from Nat.le_trans zb hB3.size)
  clear hlit hB3
  go_wp2_with (at_builtin; refine wpList_append_kk rfl _ _ rfl (w.heap.size + 1) (.slice (some ⟨w2.heap.size, 0, none⟩) 1 1) [k] a rfl HLIT.out A ca rfl HZA.out (HRA.out.mono (hb0.trans (HB3.out.mono (Nat.le_succ _)))) (by simp; omega) HZ3.out ?_)
  intro v3 w3 hown3 hgr3
  obtain ⟨A3, c3, rfl, hr3⟩ := hown3.row
  have hB4 : Below w.heap.size w w3 := hb0.trans ((Below.grown HB3.out hgr3 HZ3.out (fun j e => (HLIT.out.lt j e).1)).mono (Nat.le_succ _))
  have hg2 : Below w2.heap.size w2 w3 := Below.grown ((Below.refl _ w2).alloc (Nat.le_refl _) _) hgr3 (by rw [World.size_alloc]; omega) (fun j e => by cases e; exact Nat.le_refl _)
  have HR2' := Lib.hid (HR2.out.mono hg2)
  have HR3 := Lib.hid hr3
  have s0 := (hg2.cell (p := ⟨w.heap.size, 0, none⟩) zb2).trans p0
  have s1 := (hg2.cell (p := ⟨w.heap.size, 1, none⟩) zb2).trans p1
  have z3 : w.heap.size < w3.heap.size := Nat.lt_of_lt_of_le zb2 hg2.size
  have HB4 := Lib.hid hB4
  clear hown3 hgr3 hr3 hB4 hg2 p0 p1 HLIT HB3 HZ3 HR2 hB2 zb2 zb hb0
  generalize hn3 : (k :: a).length = n3 at *
  have HN3 := Lib.hid hn3
  clear hn3
  go_upto_region 5 with fail
  have HB : Below w3.heap.size w3 w3.drew := (Below.refl _ w3).drew
  have HRA3 := Lib.hid (HRA.out.mono HB4.out)
  have HRB3 := Lib.hid (HRB.out.mono HB4.out)
  have la := rowR_len a
  have lp := rowR_len (a ++ [k])
  have lj := rowR_len (a ++ b)
  have lc := cutR_len a k
  rw [List.length_append] at lj lp
  rw [List.length_singleton] at lp
  have HQ1 := Lib.hid (fun W (h : KRow W A a) => key_Row a A ca W h (by omega))
  have HQ3 := Lib.hid (fun W (h : KRow W A a) => r26_Row a A ca W h (by omega))
  have HQ4 := Lib.hid (fun (l : List Ky) X Y c d W (h : KRow W X l) (h' : KRow W Y l) hm => r23_Keys l X Y c d W h h' hm)
  have HQ8 := Lib.hid (fun W (h : KRow W A a) => key_Has a k A ca W h (by omega))
  have HQ11 := Lib.hid (fun W (h : KRow W A a) => r26_Has a k A ca W h (by omega))
  have HQ17 := Lib.hid (fun W (h : KRow W A a) => key_Put a k A ca W h (by omega))
  have HQ25 := Lib.hid (fun W (h : KRow W A a) => key_Cut a k A ca W h (by omega))
  have HQ28 := Lib.hid (fun W (h : KRow W A a) => r26_Cut a k A ca W h (by omega))
  have HQ34 := Lib.hid (fun W (h : KRow W A a) (h' : KRow W B b) => key_Join a b A B ca cb W h h' (by omega))
  have HQ41 := Lib.hid (fun W => key_Clean k W)
  have HQ43 := Lib.hid (fun W => r26_Clean k W)
  have HQ49 := Lib.hid (fun W => key_Of k.n W)
  have HQ19 := Lib.hid (fun W (h : KRow W A3 (k :: a)) => by
    have := r26_Row (k :: a) A3 c3 W h (by rw [List.length_cons]; omega)
    rw [HN3.out, row_cons] at this
    exact this)
  have HQ36 := Lib.hid (fun W (h : KRow W A2 (a ++ b)) => by
    have := r26_Row (a ++ b) A2 c2 W h (by rw [List.length_append]; omega)
    rw [HN2.out] at this
    exact this)
  generalize hpa : rowR (a ++ [k]) = pa at *
  generalize hja : rowR (a ++ b) = ja at *
  generalize hra : rowR a = ra at *
  generalize hca : cutR a k = ka at *
  generalize hha : (a.any fun x => decide (x.cl = k.cl)) = ha at *
  clear hpa hja hra hca hha
  have hka := Lib.hid (show Value.agg #[encStr k.cl.n, .int .i64 k.cl.d] = Value.agg #[encStr k.cl.n, .int .i64 k.cl.d] from rfl)
  generalize k.cl = kc at *
  clear hka
  refine wp_region_noPanic ?_
  refine wp_region_held_drew (S := fun w' => Below (w3.heap.size) w3 w') (by kernel_rfl) HB (fun _ => ?_)
  refine take_first 0 19 (.slice A a.length ca) rfl rfl (by kernel_rfl) (by kernel_rfl) (by kernel_rfl) (fun _ _ _ h => h) (by rfl) (fun w' hS => ?_) (by assumption) ?_
  · have hc : ∀ b o, b < w3.heap.size → w'.cell? ⟨b, o, none⟩ = w3.cell? ⟨b, o, none⟩ := fun b o h => hS.cell (p := ⟨b, o, none⟩) h
    go_simp
  simp only [Act.put, List.setIfInBounds_toArray, List.set_cons_zero, List.set_cons_succ]
  refine take_first 2 21 (.slice A a.length ca) rfl rfl (by kernel_rfl) (by kernel_rfl) (by kernel_rfl) (fun _ _ _ h => h) (by rfl) (fun w' hS => ?_) (by assumption) ?_
  · have hc : ∀ b o, b < w3.heap.size → w'.cell? ⟨b, o, none⟩ = w3.cell? ⟨b, o, none⟩ := fun b o h => hS.cell (p := ⟨b, o, none⟩) h
    go_simp
  simp only [Act.put, List.setIfInBounds_toArray, List.set_cons_zero, List.set_cons_succ]
  refine wpAnyH_ready (rs := [1]) (by kernel_rfl) (by simp) ?_
  refine AllReadyH.cons rfl (fun K hK => ?_) AllReadyH.nil
  go_simp
  refine (HQ1.out w3.drew HRA3.out).mono ?_
  rintro e w4 ⟨⟨g4, n4, N4, rfl, ho⟩, hb⟩
  have hn := ho.1
  subst hn
  have HX := Lib.hid ho.krow
  replace HB := HB.trans (hb.mono HB.size)
  clear ho hb
  refine hK.out _ _ HB (fun _ => ?_)
  clear hK K
  (try simp only [Act.put, List.setIfInBounds_toArray, List.set_cons_zero, List.set_cons_succ])
  refine wpAnyH_ready (rs := [3]) (by kernel_rfl) (by simp) ?_
  refine AllReadyH.cons rfl (fun K hK => ?_) AllReadyH.nil
  go_simp
  refine (HQ3.out w4 (HRA3.out.mono HB)).mono ?_
  rintro e w5 ⟨⟨A5, c5, rfl, hr⟩, hb⟩
  have HX2 := Lib.hid (HX.out.mono hb)
  have HY := Lib.hid hr
  replace HB := HB.trans (hb.mono HB.size)
  clear hr hb HX
  refine hK.out _ _ HB (fun _ => ?_)
  clear hK K
  (try simp only [Act.put, List.setIfInBounds_toArray, List.set_cons_zero, List.set_cons_succ])
  refine wpAnyH_ready (rs := [4]) (by kernel_rfl) (by simp) ?_
  refine AllReadyH.cons rfl (fun K hK => ?_) AllReadyH.nil
  go_simp
  refine (HQ4.out ra _ A5 N4 c5 w5 HX2.out HY.out (by omega)).mono ?_
  rintro e w6 ⟨rfl, hb⟩
  replace HB := HB.trans (hb.mono HB.size)
  clear hb HX2 HY
  refine hK.out _ _ HB (fun _ => ?_)
  clear hK K
  (try simp only [Act.put, List.setIfInBounds_toArray, List.set_cons_zero, List.set_cons_succ])
  refine take_first 5 24 (.bool true) rfl rfl (by kernel_rfl) (by kernel_rfl) (by kernel_rfl) (fun _ _ _ h => h) (by rfl) (fun w' hS => ?_) (by assumption) ?_
  · have hc : ∀ b o, b < w3.heap.size → w'.cell? ⟨b, o, none⟩ = w3.cell? ⟨b, o, none⟩ := fun b o h => hS.cell (p := ⟨b, o, none⟩) h
    go_simp
  (try simp only [Act.put, List.setIfInBounds_toArray, List.set_cons_zero, List.set_cons_succ])
  refine take_first 6 25 (.slice A a.length ca) rfl rfl (by kernel_rfl) (by kernel_rfl) (by kernel_rfl) (fun _ _ _ h => h) (by rfl) (fun w' hS => ?_) (by assumption) ?_
  · have hc : ∀ b o, b < w3.heap.size → w'.cell? ⟨b, o, none⟩ = w3.cell? ⟨b, o, none⟩ := fun b o h => hS.cell (p := ⟨b, o, none⟩) h
    go_simp
  (try simp only [Act.put, List.setIfInBounds_toArray, List.set_cons_zero, List.set_cons_succ])
  refine take_first 7 26 (.agg #[encStr k.n, .int .i64 k.d]) rfl rfl (by kernel_rfl) (by kernel_rfl) (by kernel_rfl) (fun _ _ _ h => h) (by rfl) (fun w' hS => ?_) (by assumption) ?_
  · have hc : ∀ b o, b < w3.heap.size → w'.cell? ⟨b, o, none⟩ = w3.cell? ⟨b, o, none⟩ := fun b o h => hS.cell (p := ⟨b, o, none⟩) h
    go_simp
  (try simp only [Act.put, List.setIfInBounds_toArray, List.set_cons_zero, List.set_cons_succ])
  refine take_first 9 28 (.slice A a.length ca) rfl rfl (by kernel_rfl) (by kernel_rfl) (by kernel_rfl) (fun _ _ _ h => h) (by rfl) (fun w' hS => ?_) (by assumption) ?_
  · have hc : ∀ b o, b < w3.heap.size → w'.cell? ⟨b, o, none⟩ = w3.cell? ⟨b, o, none⟩ := fun b o h => hS.cell (p := ⟨b, o, none⟩) h
    go_simp
  (try simp only [Act.put, List.setIfInBounds_toArray, List.set_cons_zero, List.set_cons_succ])
  refine take_first 10 29 (.agg #[encStr k.n, .int .i64 k.d]) rfl rfl (by kernel_rfl) (by kernel_rfl) (by kernel_rfl) (fun _ _ _ h => h) (by rfl) (fun w' hS => ?_) (by assumption) ?_
  · have hc : ∀ b o, b < w3.heap.size → w'.cell? ⟨b, o, none⟩ = w3.cell? ⟨b, o, none⟩ := fun b o h => hS.cell (p := ⟨b, o, none⟩) h
    go_simp
  (try simp only [Act.put, List.setIfInBounds_toArray, List.set_cons_zero, List.set_cons_succ])
  refine wpAnyH_ready (rs := [8]) (by kernel_rfl) (by simp) ?_
  refine AllReadyH.cons rfl (fun K hK => ?_) AllReadyH.nil
  go_simp
  refine (HQ8.out w6 (HRA3.out.mono HB)).mono ?_
  rintro e w7 ⟨rfl, hb⟩
  replace HB := HB.trans (hb.mono HB.size)
  clear hb
  refine hK.out _ _ HB (fun _ => ?_)
  clear hK K
  (try simp only [Act.put, List.setIfInBounds_toArray, List.set_cons_zero, List.set_cons_succ])
  refine wpAnyH_ready (rs := [11]) (by kernel_rfl) (by simp) ?_
  refine AllReadyH.cons rfl (fun K hK => ?_) AllReadyH.nil
  go_simp
  refine (HQ11.out w7 (HRA3.out.mono HB)).mono ?_
  rintro e w8 ⟨rfl, hb⟩
  replace HB := HB.trans (hb.mono HB.size)
  clear hb
  refine hK.out _ _ HB (fun _ => ?_)
  clear hK K
  (try simp only [Act.put, List.setIfInBounds_toArray, List.set_cons_zero, List.set_cons_succ])
  refine take_first 12 31 (.bool true) rfl rfl (by kernel_rfl) (by kernel_rfl) (by kernel_rfl) (fun _ _ _ h => h) (by rfl) (fun w' hS => ?_) (by assumption) ?_
  · have hc : ∀ b o, b < w3.heap.size → w'.cell? ⟨b, o, none⟩ = w3.cell? ⟨b, o, none⟩ := fun b o h => hS.cell (p := ⟨b, o, none⟩) h
    go_simp
  (try simp only [Act.put, List.setIfInBounds_toArray, List.set_cons_zero, List.set_cons_succ])
  refine take_first 13 32 (.bool true) rfl rfl (by kernel_rfl) (by kernel_rfl) (by kernel_rfl) (fun _ _ _ h => h) (by rfl) (fun w' hS => ?_) (by assumption) ?_
  · have hc : ∀ b o, b < w3.heap.size → w'.cell? ⟨b, o, none⟩ = w3.cell? ⟨b, o, none⟩ := fun b o h => hS.cell (p := ⟨b, o, none⟩) h
    go_simp
  (try simp only [Act.put, List.setIfInBounds_toArray, List.set_cons_zero, List.set_cons_succ])
  refine take_first 14 33 (.bool true) rfl rfl (by kernel_rfl) (by kernel_rfl) (by kernel_rfl) (fun _ _ _ h => h) (by rfl) (fun w' hS => ?_) (by assumption) ?_
  · have hc : ∀ b o, b < w3.heap.size → w'.cell? ⟨b, o, none⟩ = w3.cell? ⟨b, o, none⟩ := fun b o h => hS.cell (p := ⟨b, o, none⟩) h
    go_simp
  (try simp only [Act.put, List.setIfInBounds_toArray, List.set_cons_zero, List.set_cons_succ])
  refine take_first 15 34 (.slice A a.length ca) rfl rfl (by kernel_rfl) (by kernel_rfl) (by kernel_rfl) (fun _ _ _ h => h) (by rfl) (fun w' hS => ?_) (by assumption) ?_
  · have hc : ∀ b o, b < w3.heap.size → w'.cell? ⟨b, o, none⟩ = w3.cell? ⟨b, o, none⟩ := fun b o h => hS.cell (p := ⟨b, o, none⟩) h
    go_simp
  (try simp only [Act.put, List.setIfInBounds_toArray, List.set_cons_zero, List.set_cons_succ])
  refine take_first 16 35 (.agg #[encStr k.n, .int .i64 k.d]) rfl rfl (by kernel_rfl) (by kernel_rfl) (by kernel_rfl) (fun _ _ _ h => h) (by rfl) (fun w' hS => ?_) (by assumption) ?_
  · have hc : ∀ b o, b < w3.heap.size → w'.cell? ⟨b, o, none⟩ = w3.cell? ⟨b, o, none⟩ := fun b o h => hS.cell (p := ⟨b, o, none⟩) h
    go_simp
  (try simp only [Act.put, List.setIfInBounds_toArray, List.set_cons_zero, List.set_cons_succ])
  refine take_first 18 37 (.slice A3 n3 c3) rfl rfl (by kernel_rfl) (by kernel_rfl) (by kernel_rfl) (fun _ _ _ h => h) (by rfl) (fun w' hS => ?_) (by assumption) ?_
  · have hc : ∀ b o, b < w3.heap.size → w'.cell? ⟨b, o, none⟩ = w3.cell? ⟨b, o, none⟩ := fun b o h => hS.cell (p := ⟨b, o, none⟩) h
    go_simp
  (try simp only [Act.put, List.setIfInBounds_toArray, List.set_cons_zero, List.set_cons_succ])
  refine wpAnyH_ready (rs := [17]) (by kernel_rfl) (by simp) ?_
  refine AllReadyH.cons rfl (fun K hK => ?_) AllReadyH.nil
  go_simp
  refine (HQ17.out w8 (HRA3.out.mono HB)).mono ?_
  rintro e w9 ⟨⟨g9, n9, N9, rfl, hr, hn⟩, hb⟩
  subst hn
  have HX := Lib.hid hr
  replace HB := HB.trans (hb.mono HB.size)
  clear hr hb
  refine hK.out _ _ HB (fun _ => ?_)
  clear hK K
  (try simp only [Act.put, List.setIfInBounds_toArray, List.set_cons_zero, List.set_cons_succ])
  refine wpAnyH_ready (rs := [19]) (by kernel_rfl) (by simp) ?_
  refine AllReadyH.cons rfl (fun K hK => ?_) AllReadyH.nil
  go_simp
  refine (HQ19.out w9 (HR3.out.mono HB)).mono ?_
  rintro e w10 ⟨⟨A10, c10, rfl, hr⟩, hb⟩
  have HX2 := Lib.hid (HX.out.mono hb)
  have HY := Lib.hid hr
  replace HB := HB.trans (hb.mono HB.size)
  clear hr hb HX
  refine hK.out _ _ HB (fun _ => ?_)
  clear hK K
  (try simp only [Act.put, List.setIfInBounds_toArray, List.set_cons_zero, List.set_cons_succ])
  refine wpAnyH_ready (rs := [20]) (by kernel_rfl) (by simp) ?_
  refine AllReadyH.cons rfl (fun K hK => ?_) AllReadyH.nil
  go_simp
  refine (HQ4.out pa _ A10 N9 c10 w10 HX2.out HY.out (by omega)).mono ?_
  rintro e w11 ⟨rfl, hb⟩
  replace HB := HB.trans (hb.mono HB.size)
  clear hb HX2 HY
  refine hK.out _ _ HB (fun _ => ?_)
  clear hK K
  (try simp only [Act.put, List.setIfInBounds_toArray, List.set_cons_zero, List.set_cons_succ])
  refine take_first 21 40 (.bool true) rfl rfl (by kernel_rfl) (by kernel_rfl) (by kernel_rfl) (fun _ _ _ h => h) (by rfl) (fun w' hS => ?_) (by assumption) ?_
  · have hc : ∀ b o, b < w3.heap.size → w'.cell? ⟨b, o, none⟩ = w3.cell? ⟨b, o, none⟩ := fun b o h => hS.cell (p := ⟨b, o, none⟩) h
    go_simp
  (try simp only [Act.put, List.setIfInBounds_toArray, List.set_cons_zero, List.set_cons_succ])
  refine take_first 22 41 (.bool true) rfl rfl (by kernel_rfl) (by kernel_rfl) (by kernel_rfl) (fun _ _ _ h => h) (by rfl) (fun w' hS => ?_) (by assumption) ?_
  · have hc : ∀ b o, b < w3.heap.size → w'.cell? ⟨b, o, none⟩ = w3.cell? ⟨b, o, none⟩ := fun b o h => hS.cell (p := ⟨b, o, none⟩) h
    go_simp
  (try simp only [Act.put, List.setIfInBounds_toArray, List.set_cons_zero, List.set_cons_succ])
  refine take_first 23 42 (.slice A a.length ca) rfl rfl (by kernel_rfl) (by kernel_rfl) (by kernel_rfl) (fun _ _ _ h => h) (by rfl) (fun w' hS => ?_) (by assumption) ?_
  · have hc : ∀ b o, b < w3.heap.size → w'.cell? ⟨b, o, none⟩ = w3.cell? ⟨b, o, none⟩ := fun b o h => hS.cell (p := ⟨b, o, none⟩) h
    go_simp
  (try simp only [Act.put, List.setIfInBounds_toArray, List.set_cons_zero, List.set_cons_succ])
  refine take_first 24 43 (.agg #[encStr k.n, .int .i64 k.d]) rfl rfl (by kernel_rfl) (by kernel_rfl) (by kernel_rfl) (fun _ _ _ h => h) (by rfl) (fun w' hS => ?_) (by assumption) ?_
  · have hc : ∀ b o, b < w3.heap.size → w'.cell? ⟨b, o, none⟩ = w3.cell? ⟨b, o, none⟩ := fun b o h => hS.cell (p := ⟨b, o, none⟩) h
    go_simp
  (try simp only [Act.put, List.setIfInBounds_toArray, List.set_cons_zero, List.set_cons_succ])
  refine take_first 26 45 (.slice A a.length ca) rfl rfl (by kernel_rfl) (by kernel_rfl) (by kernel_rfl) (fun _ _ _ h => h) (by rfl) (fun w' hS => ?_) (by assumption) ?_
  · have hc : ∀ b o, b < w3.heap.size → w'.cell? ⟨b, o, none⟩ = w3.cell? ⟨b, o, none⟩ := fun b o h => hS.cell (p := ⟨b, o, none⟩) h
    go_simp
  (try simp only [Act.put, List.setIfInBounds_toArray, List.set_cons_zero, List.set_cons_succ])
  refine take_first 27 46 (.agg #[encStr k.n, .int .i64 k.d]) rfl rfl (by kernel_rfl) (by kernel_rfl) (by kernel_rfl) (fun _ _ _ h => h) (by rfl) (fun w' hS => ?_) (by assumption) ?_
  · have hc : ∀ b o, b < w3.heap.size → w'.cell? ⟨b, o, none⟩ = w3.cell? ⟨b, o, none⟩ := fun b o h => hS.cell (p := ⟨b, o, none⟩) h
    go_simp
  (try simp only [Act.put, List.setIfInBounds_toArray, List.set_cons_zero, List.set_cons_succ])
  refine wpAnyH_ready (rs := [25]) (by kernel_rfl) (by simp) ?_
  refine AllReadyH.cons rfl (fun K hK => ?_) AllReadyH.nil
  go_simp
  refine (HQ25.out w11 (HRA3.out.mono HB)).mono ?_
  rintro e w12 ⟨⟨g12, n12, N12, rfl, hr, hn⟩, hb⟩
  subst hn
  have HX := Lib.hid hr
  replace HB := HB.trans (hb.mono HB.size)
  clear hr hb
  refine hK.out _ _ HB (fun _ => ?_)
  clear hK K
  (try simp only [Act.put, List.setIfInBounds_toArray, List.set_cons_zero, List.set_cons_succ])
  refine wpAnyH_ready (rs := [28]) (by kernel_rfl) (by simp) ?_
  refine AllReadyH.cons rfl (fun K hK => ?_) AllReadyH.nil
  go_simp
  refine (HQ28.out w12 (HRA3.out.mono HB)).mono ?_
  rintro e w13 ⟨⟨A13, c13, rfl, hr⟩, hb⟩
  have HX2 := Lib.hid (HX.out.mono hb)
  have HY := Lib.hid hr
  replace HB := HB.trans (hb.mono HB.size)
  clear hr hb HX
  refine hK.out _ _ HB (fun _ => ?_)
  clear hK K
  (try simp only [Act.put, List.setIfInBounds_toArray, List.set_cons_zero, List.set_cons_succ])
  refine wpAnyH_ready (rs := [29]) (by kernel_rfl) (by simp) ?_
  refine AllReadyH.cons rfl (fun K hK => ?_) AllReadyH.nil
  go_simp
  refine (HQ4.out ka _ A13 N12 c13 w13 HX2.out HY.out (by omega)).mono ?_
  rintro e w14 ⟨rfl, hb⟩
  replace HB := HB.trans (hb.mono HB.size)
  clear hb HX2 HY
  refine hK.out _ _ HB (fun _ => ?_)
  clear hK K
  (try simp only [Act.put, List.setIfInBounds_toArray, List.set_cons_zero, List.set_cons_succ])
  refine take_first 30 49 (.bool true) rfl rfl (by kernel_rfl) (by kernel_rfl) (by kernel_rfl) (fun _ _ _ h => h) (by rfl) (fun w' hS => ?_) (by assumption) ?_
  · have hc : ∀ b o, b < w3.heap.size → w'.cell? ⟨b, o, none⟩ = w3.cell? ⟨b, o, none⟩ := fun b o h => hS.cell (p := ⟨b, o, none⟩) h
    go_simp
  (try simp only [Act.put, List.setIfInBounds_toArray, List.set_cons_zero, List.set_cons_succ])
  refine take_first 31 50 (.bool true) rfl rfl (by kernel_rfl) (by kernel_rfl) (by kernel_rfl) (fun _ _ _ h => h) (by rfl) (fun w' hS => ?_) (by assumption) ?_
  · have hc : ∀ b o, b < w3.heap.size → w'.cell? ⟨b, o, none⟩ = w3.cell? ⟨b, o, none⟩ := fun b o h => hS.cell (p := ⟨b, o, none⟩) h
    go_simp
  (try simp only [Act.put, List.setIfInBounds_toArray, List.set_cons_zero, List.set_cons_succ])
  refine take_first 32 51 (.slice A a.length ca) rfl rfl (by kernel_rfl) (by kernel_rfl) (by kernel_rfl) (fun _ _ _ h => h) (by rfl) (fun w' hS => ?_) (by assumption) ?_
  · have hc : ∀ b o, b < w3.heap.size → w'.cell? ⟨b, o, none⟩ = w3.cell? ⟨b, o, none⟩ := fun b o h => hS.cell (p := ⟨b, o, none⟩) h
    go_simp
  (try simp only [Act.put, List.setIfInBounds_toArray, List.set_cons_zero, List.set_cons_succ])
  refine take_first 33 52 (.slice B b.length cb) rfl rfl (by kernel_rfl) (by kernel_rfl) (by kernel_rfl) (fun _ _ _ h => h) (by rfl) (fun w' hS => ?_) (by assumption) ?_
  · have hc : ∀ b o, b < w3.heap.size → w'.cell? ⟨b, o, none⟩ = w3.cell? ⟨b, o, none⟩ := fun b o h => hS.cell (p := ⟨b, o, none⟩) h
    go_simp
  (try simp only [Act.put, List.setIfInBounds_toArray, List.set_cons_zero, List.set_cons_succ])
  refine take_first 35 54 (.slice A2 n2 c2) rfl rfl (by kernel_rfl) (by kernel_rfl) (by kernel_rfl) (fun _ _ _ h => h) (by rfl) (fun w' hS => ?_) (by assumption) ?_
  · have hc : ∀ b o, b < w3.heap.size → w'.cell? ⟨b, o, none⟩ = w3.cell? ⟨b, o, none⟩ := fun b o h => hS.cell (p := ⟨b, o, none⟩) h
    go_simp
  (try simp only [Act.put, List.setIfInBounds_toArray, List.set_cons_zero, List.set_cons_succ])
  refine wpAnyH_ready (rs := [34]) (by kernel_rfl) (by simp) ?_
  refine AllReadyH.cons rfl (fun K hK => ?_) AllReadyH.nil
  go_simp
  refine (HQ34.out w14 (HRA3.out.mono HB) (HRB3.out.mono HB)).mono ?_
  rintro e w15 ⟨⟨g15, n15, N15, rfl, ho⟩, hb⟩
  have hn := ho.1
  subst hn
  have HX := Lib.hid ho.krow
  replace HB := HB.trans (hb.mono HB.size)
  clear ho hb
  refine hK.out _ _ HB (fun _ => ?_)
  clear hK K
  (try simp only [Act.put, List.setIfInBounds_toArray, List.set_cons_zero, List.set_cons_succ])
  refine wpAnyH_ready (rs := [36]) (by kernel_rfl) (by simp) ?_
  refine AllReadyH.cons rfl (fun K hK => ?_) AllReadyH.nil
  go_simp
  refine (HQ36.out w15 (HR2'.out.mono HB)).mono ?_
  rintro e w16 ⟨⟨A16, c16, rfl, hr⟩, hb⟩
  have HX2 := Lib.hid (HX.out.mono hb)
  have HY := Lib.hid hr
  replace HB := HB.trans (hb.mono HB.size)
  clear hr hb HX
  refine hK.out _ _ HB (fun _ => ?_)
  clear hK K
  (try simp only [Act.put, List.setIfInBounds_toArray, List.set_cons_zero, List.set_cons_succ])
  refine wpAnyH_ready (rs := [37]) (by kernel_rfl) (by simp) ?_
  refine AllReadyH.cons rfl (fun K hK => ?_) AllReadyH.nil
  go_simp
  refine (HQ4.out ja _ A16 N15 c16 w16 HX2.out HY.out (by omega)).mono ?_
  rintro e w17 ⟨rfl, hb⟩
  replace HB := HB.trans (hb.mono HB.size)
  clear hb HX2 HY
  refine hK.out _ _ HB (fun _ => ?_)
  clear hK K
  (try simp only [Act.put, List.setIfInBounds_toArray, List.set_cons_zero, List.set_cons_succ])
  refine take_first 38 57 (.bool true) rfl rfl (by kernel_rfl) (by kernel_rfl) (by kernel_rfl) (fun _ _ _ h => h) (by rfl) (fun w' hS => ?_) (by assumption) ?_
  · have hc : ∀ b o, b < w3.heap.size → w'.cell? ⟨b, o, none⟩ = w3.cell? ⟨b, o, none⟩ := fun b o h => hS.cell (p := ⟨b, o, none⟩) h
    go_simp
  (try simp only [Act.put, List.setIfInBounds_toArray, List.set_cons_zero, List.set_cons_succ])
  refine take_first 39 58 (.bool true) rfl rfl (by kernel_rfl) (by kernel_rfl) (by kernel_rfl) (fun _ _ _ h => h) (by rfl) (fun w' hS => ?_) (by assumption) ?_
  · have hc : ∀ b o, b < w3.heap.size → w'.cell? ⟨b, o, none⟩ = w3.cell? ⟨b, o, none⟩ := fun b o h => hS.cell (p := ⟨b, o, none⟩) h
    go_simp
  (try simp only [Act.put, List.setIfInBounds_toArray, List.set_cons_zero, List.set_cons_succ])
  refine take_first 40 59 (.agg #[encStr k.n, .int .i64 k.d]) rfl rfl (by kernel_rfl) (by kernel_rfl) (by kernel_rfl) (fun _ _ _ h => h) (by rfl) (fun w' hS => ?_) (by assumption) ?_
  · have hc : ∀ b o, b < w3.heap.size → w'.cell? ⟨b, o, none⟩ = w3.cell? ⟨b, o, none⟩ := fun b o h => hS.cell (p := ⟨b, o, none⟩) h
    go_simp
  (try simp only [Act.put, List.setIfInBounds_toArray, List.set_cons_zero, List.set_cons_succ])
  refine take_first 42 61 (.agg #[encStr k.n, .int .i64 k.d]) rfl rfl (by kernel_rfl) (by kernel_rfl) (by kernel_rfl) (fun _ _ _ h => h) (by rfl) (fun w' hS => ?_) (by assumption) ?_
  · have hc : ∀ b o, b < w3.heap.size → w'.cell? ⟨b, o, none⟩ = w3.cell? ⟨b, o, none⟩ := fun b o h => hS.cell (p := ⟨b, o, none⟩) h
    go_simp
  (try simp only [Act.put, List.setIfInBounds_toArray, List.set_cons_zero, List.set_cons_succ])
  refine wpAnyH_ready (rs := [41]) (by kernel_rfl) (by simp) ?_
  refine AllReadyH.cons rfl (fun K hK => ?_) AllReadyH.nil
  go_simp
  refine (HQ41.out w17).mono ?_
  rintro e w18 ⟨rfl, hb⟩
  replace HB := HB.trans (hb.mono HB.size)
  clear hb
  refine hK.out _ _ HB (fun _ => ?_)
  clear hK K
  (try simp only [Act.put, List.setIfInBounds_toArray, List.set_cons_zero, List.set_cons_succ])
  refine wpAnyH_ready (rs := [43]) (by kernel_rfl) (by simp) ?_
  refine AllReadyH.cons rfl (fun K hK => ?_) AllReadyH.nil
  go_simp
  refine (HQ43.out w18).mono ?_
  rintro e w19 ⟨rfl, hb⟩
  replace HB := HB.trans (hb.mono HB.size)
  clear hb
  refine hK.out _ _ HB (fun _ => ?_)
  clear hK K
  (try simp only [Act.put, List.setIfInBounds_toArray, List.set_cons_zero, List.set_cons_succ])
  refine take_first 44 63 (.bool true) rfl rfl (by kernel_rfl) (by kernel_rfl) (by kernel_rfl) (fun _ _ _ h => h) (by rfl) (fun w' hS => ?_) (by assumption) ?_
  · have hc : ∀ b o, b < w3.heap.size → w'.cell? ⟨b, o, none⟩ = w3.cell? ⟨b, o, none⟩ := fun b o h => hS.cell (p := ⟨b, o, none⟩) h
    go_simp
  (try simp only [Act.put, List.setIfInBounds_toArray, List.set_cons_zero, List.set_cons_succ])
  refine take_first 45 64 (.bool true) rfl rfl (by kernel_rfl) (by kernel_rfl) (by kernel_rfl) (fun _ _ _ h => h) (by rfl) (fun w' hS => ?_) (by assumption) ?_
  · have hc : ∀ b o, b < w3.heap.size → w'.cell? ⟨b, o, none⟩ = w3.cell? ⟨b, o, none⟩ := fun b o h => hS.cell (p := ⟨b, o, none⟩) h
    go_simp
  (try simp only [Act.put, List.setIfInBounds_toArray, List.set_cons_zero, List.set_cons_succ])
  refine take_first 46 65 (.bool true) rfl rfl (by kernel_rfl) (by kernel_rfl) (by kernel_rfl) (fun _ _ _ h => h) (by rfl) (fun w' hS => ?_) (by assumption) ?_
  · have hc : ∀ b o, b < w3.heap.size → w'.cell? ⟨b, o, none⟩ = w3.cell? ⟨b, o, none⟩ := fun b o h => hS.cell (p := ⟨b, o, none⟩) h
    go_simp
  (try simp only [Act.put, List.setIfInBounds_toArray, List.set_cons_zero, List.set_cons_succ])
  refine take_first 47 66 (.pointer (some ⟨w.heap.size, 0, none⟩)) rfl rfl (by kernel_rfl) (by kernel_rfl) (by kernel_rfl) (fun _ _ _ h => h) (by rfl) (fun w' hS => ?_) (by assumption) ?_
  · have hc : ∀ b o, b < w3.heap.size → w'.cell? ⟨b, o, none⟩ = w3.cell? ⟨b, o, none⟩ := fun b o h => hS.cell (p := ⟨b, o, none⟩) h
    go_simp
  (try simp only [Act.put, List.setIfInBounds_toArray, List.set_cons_zero, List.set_cons_succ])
  refine take_first 48 67 (encStr k.n) rfl rfl (by kernel_rfl) (by kernel_rfl) (by kernel_rfl) (fun _ _ _ h => h) (by rfl) (fun w' hS => ?_) (by assumption) ?_
  · have hc : ∀ b o, b < w3.heap.size → w'.cell? ⟨b, o, none⟩ = w3.cell? ⟨b, o, none⟩ := fun b o h => hS.cell (p := ⟨b, o, none⟩) h
    go_simp
  (try simp only [Act.put, List.setIfInBounds_toArray, List.set_cons_zero, List.set_cons_succ])
  refine take_first 50 69 (.pointer (some ⟨w.heap.size, 0, none⟩)) rfl rfl (by kernel_rfl) (by kernel_rfl) (by kernel_rfl) (fun _ _ _ h => h) (by rfl) (fun w' hS => ?_) (by assumption) ?_
  · have hc : ∀ b o, b < w3.heap.size → w'.cell? ⟨b, o, none⟩ = w3.cell? ⟨b, o, none⟩ := fun b o h => hS.cell (p := ⟨b, o, none⟩) h
    go_simp
  (try simp only [Act.put, List.setIfInBounds_toArray, List.set_cons_zero, List.set_cons_succ])
  refine take_first 51 70 (encStr k.n) rfl rfl (by kernel_rfl) (by kernel_rfl) (by kernel_rfl) (fun _ _ _ h => h) (by rfl) (fun w' hS => ?_) (by assumption) ?_
  · have hc : ∀ b o, b < w3.heap.size → w'.cell? ⟨b, o, none⟩ = w3.cell? ⟨b, o, none⟩ := fun b o h => hS.cell (p := ⟨b, o, none⟩) h
    go_simp
  (try simp only [Act.put, List.setIfInBounds_toArray, List.set_cons_zero, List.set_cons_succ])
  refine take_first 52 71 (.agg #[encStr k.n, .int .i64 (-1)]) rfl rfl (by kernel_rfl) (by kernel_rfl) (by kernel_rfl) (fun _ _ _ h => h) (by rfl) (fun w' hS => ?_) (by assumption) ?_
  · have hc : ∀ b o, b < w3.heap.size → w'.cell? ⟨b, o, none⟩ = w3.cell? ⟨b, o, none⟩ := fun b o h => hS.cell (p := ⟨b, o, none⟩) h
    go_simp
  (try simp only [Act.put, List.setIfInBounds_toArray, List.set_cons_zero, List.set_cons_succ])
  refine wpAnyH_ready (rs := [49]) (by kernel_rfl) (by simp) ?_
  refine AllReadyH.cons rfl (fun K hK => ?_) AllReadyH.nil
  go_simp
  refine (HQ49.out w19).mono ?_
  rintro e w20 ⟨rfl, hb⟩
  replace HB := HB.trans (hb.mono HB.size)
  clear hb
  refine hK.out _ _ HB (fun _ => ?_)
  clear hK K
  (try simp only [Act.put, List.setIfInBounds_toArray, List.set_cons_zero, List.set_cons_succ])
  refine take_first 53 72 (.bool true) rfl rfl (by kernel_rfl) (by kernel_rfl) (by kernel_rfl) (fun _ _ _ h => h) (by rfl) (fun w' hS => ?_) (by assumption) ?_
  · have hc : ∀ b o, b < w3.heap.size → w'.cell? ⟨b, o, none⟩ = w3.cell? ⟨b, o, none⟩ := fun b o h => hS.cell (p := ⟨b, o, none⟩) h
    go_simp
  (try simp only [Act.put, List.setIfInBounds_toArray, List.set_cons_zero, List.set_cons_succ])
  refine take_first 54 73 (.bool true) rfl rfl (by kernel_rfl) (by kernel_rfl) (by kernel_rfl) (fun _ _ _ h => h) (by rfl) (fun w' hS => ?_) (by assumption) ?_
  · have hc : ∀ b o, b < w3.heap.size → w'.cell? ⟨b, o, none⟩ = w3.cell? ⟨b, o, none⟩ := fun b o h => hS.cell (p := ⟨b, o, none⟩) h
    go_simp
  (try simp only [Act.put, List.setIfInBounds_toArray, List.set_cons_zero, List.set_cons_succ])
  refine take_first 55 74 (.bool true) rfl rfl (by kernel_rfl) (by kernel_rfl) (by kernel_rfl) (fun _ _ _ h => h) (by rfl) (fun w' hS => ?_) (by assumption) ?_
  · have hc : ∀ b o, b < w3.heap.size → w'.cell? ⟨b, o, none⟩ = w3.cell? ⟨b, o, none⟩ := fun b o h => hS.cell (p := ⟨b, o, none⟩) h
    go_simp
  (try simp only [Act.put, List.setIfInBounds_toArray, List.set_cons_zero, List.set_cons_succ])
  refine wpAnyH_ready (rs := [56]) (by kernel_rfl) (by simp) ?_
  refine AllReadyH.cons rfl (fun K hK => ?_) AllReadyH.nil
  go_simp
  refine (HL.out w20 (HB4.out.trans (HB.mono HB4.out.size))).mono ?_
  rintro e w21 ⟨rfl, hb⟩
  replace HB := HB.trans (hb.mono HB.size)
  clear hb
  refine hK.out _ _ HB (fun _ => ?_)
  clear hK K
  (try simp only [Act.put, List.setIfInBounds_toArray, List.set_cons_zero, List.set_cons_succ])
  refine take_first 57 76 (.bool true) rfl rfl (by kernel_rfl) (by kernel_rfl) (by kernel_rfl) (fun _ _ _ h => h) (by rfl) (fun w' hS => ?_) (by assumption) ?_
  · have hc : ∀ b o, b < w3.heap.size → w'.cell? ⟨b, o, none⟩ = w3.cell? ⟨b, o, none⟩ := fun b o h => hS.cell (p := ⟨b, o, none⟩) h
    go_simp
  (try simp only [Act.put, List.setIfInBounds_toArray, List.set_cons_zero, List.set_cons_succ])
  refine take_first 58 6 (.bool true) rfl rfl (by kernel_rfl) (by kernel_rfl) (by kernel_rfl) (fun _ _ _ h => h) (by rfl) (fun w' hS => ?_) (by assumption) ?_
  · have hc : ∀ b o, b < w3.heap.size → w'.cell? ⟨b, o, none⟩ = w3.cell? ⟨b, o, none⟩ := fun b o h => hS.cell (p := ⟨b, o, none⟩) h
    go_simp
  (try simp only [Act.put, List.setIfInBounds_toArray, List.set_cons_zero, List.set_cons_succ])
  refine wpAnyH_done (by kernel_rfl) (NoPanic.normal ?_) _
  go_wp2_with fail
  go_ret
  exact ⟨rfl, HB4.out.trans (HB.mono HB4.out.size)⟩
end Go.Proofs.YtoclpodjigfmgaaDoor
