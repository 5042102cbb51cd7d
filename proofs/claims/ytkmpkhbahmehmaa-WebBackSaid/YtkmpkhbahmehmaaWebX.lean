/- X-PARTIAL The law WebPairs, walked: layer 29. -/
import Derived.Test.YtkmpkhbahmehmaaWebP
namespace Go.Proofs.Ytkmpkhbahmehmaa
open Go.RowKit Go.Lib

theorem rel_on {f g : Ky → List Ky} {m : List Pr} (h : Rel f g m) (x : Ky) : rowR (f x.cl) = rowR (onP m x) := rowR_ext fun z => by
  constructor
  · rintro ⟨y, hy, e⟩
    refine ⟨y, ?_, e⟩
    unfold onP
    exact List.mem_map.2 ⟨(x.cl, y), List.mem_filter.2 ⟨(h.on _ _).1 hy, by simp⟩, rfl⟩
  · rintro ⟨y, hy, e⟩
    refine ⟨y, ?_, e⟩
    unfold onP at hy
    obtain ⟨p, hp, rfl⟩ := List.mem_map.1 hy
    obtain ⟨h1, h2⟩ := List.mem_filter.1 hp
    have h3 : p.1 = x.cl := of_decide_eq_true h2
    rw [← h3]
    exact (h.on _ _).2 h1
theorem rel_of {f g : Ky → List Ky} {m : List Pr} (h : Rel f g m) (x : Ky) : rowR (g x.cl) = rowR (ofP m x) := rowR_ext fun z => by
  constructor
  · rintro ⟨y, hy, e⟩
    refine ⟨y, ?_, e⟩
    unfold ofP
    exact List.mem_map.2 ⟨(y, x.cl), List.mem_filter.2 ⟨(h.of _ _).1 hy, by simp⟩, rfl⟩
  · rintro ⟨y, hy, e⟩
    refine ⟨y, ?_, e⟩
    unfold ofP at hy
    obtain ⟨p, hp, rfl⟩ := List.mem_map.1 hy
    obtain ⟨h1, h2⟩ := List.mem_filter.1 hp
    have h3 : p.2 = x.cl := of_decide_eq_true h2
    rw [← h3]
    exact (h.of _ _).2 h1

set_option maxRecDepth 100000 in
set_option maxHeartbeats 8000000 in
theorem law_webPairs (l : List Opn) (x : Ky) (A : Option Addr) (c : Nat) (w : World) (hr : ORow w A l) (hm : l.length * 56 ≤ 140737488351232) :
    Calls Try.prog 3 #[.slice A l.length c, .agg #[encStr x.n, .int .i64 x.d]] w fun e w' => e = .returned (.bool true) ∧ Below w.heap.size w w' := by
  have hb0 : Below w.heap.size w (w.alloc (.cells #[encStr x.n, .int .i64 x.d] 24)) := (Below.refl _ w).alloc (Nat.le_refl _) _
  have ka := al_new w (.cells #[encStr x.n, .int .i64 x.d] 24) rfl
  have HLV := Lib.hid law29_lives
  go_enter Try.func3, Try.ntmps3
  go_upto_region 1 with fail
  generalize w.alloc (.cells #[encStr x.n, .int .i64 x.d] 24) = W0 at *
  have HN := Lib.hid (web_new W0)
  go_wp2_with fail
  go_at_call 7
  refine HN.out.mono ?_
  rintro e w1 ⟨⟨W, fp1, fp2, rfl, hw, hW, h1, h2⟩, hb1⟩
  have hz0 := hb0.size
  have HB0 := Lib.hid hb0
  have HKA := Lib.hid ka
  have zka := blk_lt ka
  have HP := Lib.hid (law29_play W0 w1 W fp1 fp2 l A c (hr.below hb0) hb1 hw h1 h2 (by omega))
  clear HN hb1 hb0 ka hr h1 h2 hw hW
  go_wp2_with fail
  go_at_call 8
  refine HP.out.mono ?_
  rintro e w2 ⟨⟨A2, c2, rfl, hpr, f, g, q1, q2, hw2, hrel⟩, hB2⟩
  have hpl := playP_len l
  have HPR := Lib.hid hpr
  have HW2 := Lib.hid hw2
  have HE1 := Lib.hid (rel_on hrel x)
  have HE2 := Lib.hid (rel_of hrel x)
  have hm1 : (f x.cl).length * 24 ≤ 140737488355328 := by have := le_firsts x.cl (hw2.nodup1 x.cl) (fun z hz => (hrel.on _ z).1 hz); omega
  have hm2 : (g x.cl).length * 24 ≤ 140737488355328 := by have := le_seconds x.cl (hw2.nodup2 x.cl) (fun z hz => (hrel.of _ z).1 hz); omega
  have hl1 := rowR_len (f x.cl)
  have hl2 := rowR_len (g x.cl)
  have kx := (hB2.block _ zka).trans HKA.out
  have HB2 := Lib.hid (HB0.out.trans (hB2.mono hz0))
  generalize playP l = m at *
  have HON := Lib.hid (fun v (q : Below w2.heap.size w2 v) => web_on v W f g q1 q2 x (HW2.out.below q) hm1)
  have HOF := Lib.hid (fun v (q : Below w2.heap.size w2 v) => web_of v W f g q1 q2 x (HW2.out.below q) hm2)
  have HRN := Lib.hid (fun v (q : Below w2.heap.size w2 v) => r29_On m x A2 c2 v (HPR.out.below q) (by omega))
  have HRF := Lib.hid (fun v (q : Below w2.heap.size w2 v) => r29_Of m x A2 c2 v (HPR.out.below q) (by omega))
  rw [← HE1.out] at HRN
  rw [← HE2.out] at HRF
  have HK1 := Lib.hid (fun X Y d e v (h : KRow v X (rowR (f x.cl))) (h' : KRow v Y (rowR (f x.cl))) => r23_Keys _ X Y d e v h h' (by omega))
  have HK2 := Lib.hid (fun X Y d e v (h : KRow v X (rowR (g x.cl))) (h' : KRow v Y (rowR (g x.cl))) => r23_Keys _ X Y d e v h h' (by omega))
  generalize rowR (f x.cl) = rf at *
  generalize rowR (g x.cl) = rg at *
  clear hpr hw2 hrel hB2 HKA HP HE1 HE2 hm1 hm2 hl1 hl2
  have a0 := blk_cell kx 0
  have a1 := blk_cell kx 1
  simp only [List.getElem?_toArray, List.getElem?_cons_zero, List.getElem?_cons_succ] at a0 a1
  have za := blk_lt kx
  clear kx
  go_upto_region 5 with fail
  have HB : Below w2.heap.size w2 w2.drew := (Below.refl _ w2).drew
  refine wp_region_noPanic ?_
  refine wp_region_held_drew (S := fun w' => Below (w2.heap.size) w2 w') (by kernel_rfl) HB (fun _ => ?_)
  refine take_first 0 13 (.pointer (some ⟨W, 0, none⟩)) rfl rfl (by kernel_rfl) (by kernel_rfl) (by kernel_rfl) (fun _ _ _ h => h) (by rfl) (fun w' hS => ?_) (by assumption) ?_
  · have hc : ∀ b o, b < w2.heap.size → w'.cell? ⟨b, o, none⟩ = w2.cell? ⟨b, o, none⟩ := fun b o h => hS.cell (p := ⟨b, o, none⟩) h
    go_simp
  (try simp only [Act.put, List.setIfInBounds_toArray, List.set_cons_zero, List.set_cons_succ])
  refine take_first 1 14 (.agg #[encStr x.n, .int .i64 x.d]) rfl rfl (by kernel_rfl) (by kernel_rfl) (by kernel_rfl) (fun _ _ _ h => h) (by rfl) (fun w' hS => ?_) (by assumption) ?_
  · have hc : ∀ b o, b < w2.heap.size → w'.cell? ⟨b, o, none⟩ = w2.cell? ⟨b, o, none⟩ := fun b o h => hS.cell (p := ⟨b, o, none⟩) h
    go_simp
  (try simp only [Act.put, List.setIfInBounds_toArray, List.set_cons_zero, List.set_cons_succ])
  refine take_first 3 16 (.slice A2 m.length c2) rfl rfl (by kernel_rfl) (by kernel_rfl) (by kernel_rfl) (fun _ _ _ h => h) (by rfl) (fun w' hS => ?_) (by assumption) ?_
  · have hc : ∀ b o, b < w2.heap.size → w'.cell? ⟨b, o, none⟩ = w2.cell? ⟨b, o, none⟩ := fun b o h => hS.cell (p := ⟨b, o, none⟩) h
    go_simp
  (try simp only [Act.put, List.setIfInBounds_toArray, List.set_cons_zero, List.set_cons_succ])
  refine take_first 4 17 (.agg #[encStr x.n, .int .i64 x.d]) rfl rfl (by kernel_rfl) (by kernel_rfl) (by kernel_rfl) (fun _ _ _ h => h) (by rfl) (fun w' hS => ?_) (by assumption) ?_
  · have hc : ∀ b o, b < w2.heap.size → w'.cell? ⟨b, o, none⟩ = w2.cell? ⟨b, o, none⟩ := fun b o h => hS.cell (p := ⟨b, o, none⟩) h
    go_simp
  (try simp only [Act.put, List.setIfInBounds_toArray, List.set_cons_zero, List.set_cons_succ])
  refine wpAnyH_ready (rs := [2]) (by kernel_rfl) (by simp) ?_
  refine AllReadyH.cons rfl (fun K hK => ?_) AllReadyH.nil
  go_simp
  go_at_call 10
  refine (HON.out w2.drew HB).mono ?_
  rintro e x2 ⟨⟨g4, n4, N4, rfl, ho⟩, hb⟩
  have hn := ho.1
  subst hn
  have HX := Lib.hid ho.krow
  clear ho
  replace HB := HB.trans (hb.mono HB.size)
  clear hb
  refine hK.out _ _ HB (fun _ => ?_)
  clear hK K
  (try simp only [Act.put, List.setIfInBounds_toArray, List.set_cons_zero, List.set_cons_succ])
  refine wpAnyH_ready (rs := [5]) (by kernel_rfl) (by simp) ?_
  refine AllReadyH.cons rfl (fun K hK => ?_) AllReadyH.nil
  go_simp
  go_at_call 11
  refine (HRN.out x2 HB).mono ?_
  rintro e x5 ⟨⟨A5, c5, rfl, hr5⟩, hb⟩
  have HX2 := Lib.hid (HX.out.mono hb)
  have HY := Lib.hid hr5
  clear hr5 HX
  replace HB := HB.trans (hb.mono HB.size)
  clear hb
  refine hK.out _ _ HB (fun _ => ?_)
  clear hK K
  (try simp only [Act.put, List.setIfInBounds_toArray, List.set_cons_zero, List.set_cons_succ])
  refine wpAnyH_ready (rs := [6]) (by kernel_rfl) (by simp) ?_
  refine AllReadyH.cons rfl (fun K hK => ?_) AllReadyH.nil
  go_simp
  go_at_call 9
  refine (HK1.out _ _ _ _ x5 HX2.out HY.out).mono ?_
  rintro e x6 ⟨rfl, hb⟩
  clear HX2 HY
  replace HB := HB.trans (hb.mono HB.size)
  clear hb
  refine hK.out _ _ HB (fun _ => ?_)
  clear hK K
  (try simp only [Act.put, List.setIfInBounds_toArray, List.set_cons_zero, List.set_cons_succ])
  refine take_first 7 20 (.bool true) rfl rfl (by kernel_rfl) (by kernel_rfl) (by kernel_rfl) (fun _ _ _ h => h) (by rfl) (fun w' hS => ?_) (by assumption) ?_
  · have hc : ∀ b o, b < w2.heap.size → w'.cell? ⟨b, o, none⟩ = w2.cell? ⟨b, o, none⟩ := fun b o h => hS.cell (p := ⟨b, o, none⟩) h
    go_simp
  (try simp only [Act.put, List.setIfInBounds_toArray, List.set_cons_zero, List.set_cons_succ])
  refine take_first 8 21 (.pointer (some ⟨W, 0, none⟩)) rfl rfl (by kernel_rfl) (by kernel_rfl) (by kernel_rfl) (fun _ _ _ h => h) (by rfl) (fun w' hS => ?_) (by assumption) ?_
  · have hc : ∀ b o, b < w2.heap.size → w'.cell? ⟨b, o, none⟩ = w2.cell? ⟨b, o, none⟩ := fun b o h => hS.cell (p := ⟨b, o, none⟩) h
    go_simp
  (try simp only [Act.put, List.setIfInBounds_toArray, List.set_cons_zero, List.set_cons_succ])
  refine take_first 9 22 (.agg #[encStr x.n, .int .i64 x.d]) rfl rfl (by kernel_rfl) (by kernel_rfl) (by kernel_rfl) (fun _ _ _ h => h) (by rfl) (fun w' hS => ?_) (by assumption) ?_
  · have hc : ∀ b o, b < w2.heap.size → w'.cell? ⟨b, o, none⟩ = w2.cell? ⟨b, o, none⟩ := fun b o h => hS.cell (p := ⟨b, o, none⟩) h
    go_simp
  (try simp only [Act.put, List.setIfInBounds_toArray, List.set_cons_zero, List.set_cons_succ])
  refine take_first 11 24 (.slice A2 m.length c2) rfl rfl (by kernel_rfl) (by kernel_rfl) (by kernel_rfl) (fun _ _ _ h => h) (by rfl) (fun w' hS => ?_) (by assumption) ?_
  · have hc : ∀ b o, b < w2.heap.size → w'.cell? ⟨b, o, none⟩ = w2.cell? ⟨b, o, none⟩ := fun b o h => hS.cell (p := ⟨b, o, none⟩) h
    go_simp
  (try simp only [Act.put, List.setIfInBounds_toArray, List.set_cons_zero, List.set_cons_succ])
  refine take_first 12 25 (.agg #[encStr x.n, .int .i64 x.d]) rfl rfl (by kernel_rfl) (by kernel_rfl) (by kernel_rfl) (fun _ _ _ h => h) (by rfl) (fun w' hS => ?_) (by assumption) ?_
  · have hc : ∀ b o, b < w2.heap.size → w'.cell? ⟨b, o, none⟩ = w2.cell? ⟨b, o, none⟩ := fun b o h => hS.cell (p := ⟨b, o, none⟩) h
    go_simp
  (try simp only [Act.put, List.setIfInBounds_toArray, List.set_cons_zero, List.set_cons_succ])
  refine wpAnyH_ready (rs := [10]) (by kernel_rfl) (by simp) ?_
  refine AllReadyH.cons rfl (fun K hK => ?_) AllReadyH.nil
  go_simp
  go_at_call 12
  refine (HOF.out x6 HB).mono ?_
  rintro e x10 ⟨⟨g6, n6, N6, rfl, ho⟩, hb⟩
  have hn := ho.1
  subst hn
  have HX := Lib.hid ho.krow
  clear ho
  replace HB := HB.trans (hb.mono HB.size)
  clear hb
  refine hK.out _ _ HB (fun _ => ?_)
  clear hK K
  (try simp only [Act.put, List.setIfInBounds_toArray, List.set_cons_zero, List.set_cons_succ])
  refine wpAnyH_ready (rs := [13]) (by kernel_rfl) (by simp) ?_
  refine AllReadyH.cons rfl (fun K hK => ?_) AllReadyH.nil
  go_simp
  go_at_call 13
  refine (HRF.out x10 HB).mono ?_
  rintro e x13 ⟨⟨A7, c7, rfl, hr7⟩, hb⟩
  have HX2 := Lib.hid (HX.out.mono hb)
  have HY := Lib.hid hr7
  clear hr7 HX
  replace HB := HB.trans (hb.mono HB.size)
  clear hb
  refine hK.out _ _ HB (fun _ => ?_)
  clear hK K
  (try simp only [Act.put, List.setIfInBounds_toArray, List.set_cons_zero, List.set_cons_succ])
  refine wpAnyH_ready (rs := [14]) (by kernel_rfl) (by simp) ?_
  refine AllReadyH.cons rfl (fun K hK => ?_) AllReadyH.nil
  go_simp
  go_at_call 9
  refine (HK2.out _ _ _ _ x13 HX2.out HY.out).mono ?_
  rintro e x14 ⟨rfl, hb⟩
  clear HX2 HY
  replace HB := HB.trans (hb.mono HB.size)
  clear hb
  refine hK.out _ _ HB (fun _ => ?_)
  clear hK K
  (try simp only [Act.put, List.setIfInBounds_toArray, List.set_cons_zero, List.set_cons_succ])
  refine take_first 15 28 (.bool true) rfl rfl (by kernel_rfl) (by kernel_rfl) (by kernel_rfl) (fun _ _ _ h => h) (by rfl) (fun w' hS => ?_) (by assumption) ?_
  · have hc : ∀ b o, b < w2.heap.size → w'.cell? ⟨b, o, none⟩ = w2.cell? ⟨b, o, none⟩ := fun b o h => hS.cell (p := ⟨b, o, none⟩) h
    go_simp
  (try simp only [Act.put, List.setIfInBounds_toArray, List.set_cons_zero, List.set_cons_succ])
  refine take_first 16 29 (.bool true) rfl rfl (by kernel_rfl) (by kernel_rfl) (by kernel_rfl) (fun _ _ _ h => h) (by rfl) (fun w' hS => ?_) (by assumption) ?_
  · have hc : ∀ b o, b < w2.heap.size → w'.cell? ⟨b, o, none⟩ = w2.cell? ⟨b, o, none⟩ := fun b o h => hS.cell (p := ⟨b, o, none⟩) h
    go_simp
  (try simp only [Act.put, List.setIfInBounds_toArray, List.set_cons_zero, List.set_cons_succ])
  refine wpAnyH_ready (rs := [17]) (by kernel_rfl) (by simp) ?_
  refine AllReadyH.cons rfl (fun K hK => ?_) AllReadyH.nil
  go_simp
  go_at_call 14
  refine (HLV.out x14).mono ?_
  rintro e x17 ⟨rfl, hb⟩
  replace HB := HB.trans (hb.mono HB.size)
  clear hb
  refine hK.out _ _ HB (fun _ => ?_)
  clear hK K
  (try simp only [Act.put, List.setIfInBounds_toArray, List.set_cons_zero, List.set_cons_succ])
  refine take_first 18 31 (.bool true) rfl rfl (by kernel_rfl) (by kernel_rfl) (by kernel_rfl) (fun _ _ _ h => h) (by rfl) (fun w' hS => ?_) (by assumption) ?_
  · have hc : ∀ b o, b < w2.heap.size → w'.cell? ⟨b, o, none⟩ = w2.cell? ⟨b, o, none⟩ := fun b o h => hS.cell (p := ⟨b, o, none⟩) h
    go_simp
  (try simp only [Act.put, List.setIfInBounds_toArray, List.set_cons_zero, List.set_cons_succ])
  refine take_first 19 4 (.bool true) rfl rfl (by kernel_rfl) (by kernel_rfl) (by kernel_rfl) (fun _ _ _ h => h) (by rfl) (fun w' hS => ?_) (by assumption) ?_
  · have hc : ∀ b o, b < w2.heap.size → w'.cell? ⟨b, o, none⟩ = w2.cell? ⟨b, o, none⟩ := fun b o h => hS.cell (p := ⟨b, o, none⟩) h
    go_simp
  (try simp only [Act.put, List.setIfInBounds_toArray, List.set_cons_zero, List.set_cons_succ])
  refine wpAnyH_done (by kernel_rfl) (NoPanic.normal ?_) _
  go_wp2_with fail
  go_ret
  exact ⟨rfl, HB2.out.trans (HB.mono HB2.out.size)⟩
end Go.Proofs.Ytkmpkhbahmehmaa
