/- X-PARTIAL The law WebBack, walked: layer 29. -/
import Derived.Test.YtkmpkhbahmehmaaWebX
namespace Go.Proofs.Ytkmpkhbahmehmaa
open Go.RowKit Go.Lib

theorem reach_self (f : Ky → List Ky) (k : Ky) : Reach f [k.cl] k.cl := by
  have := Reach.base (f := f) (l := [k.cl]) (y := k.cl) (List.mem_singleton.2 rfl)
  rwa [Ky.cl_cl] at this
theorem reach_trans {f : Ky → List Ky} {y c d : Ky} (h : Reach f [y] c) (hc : c.cl = c) (h2 : Reach f [c] d) : Reach f [y] d := by
  induction h2 with
  | base h' =>
    rw [List.mem_singleton] at h'
    subst h'
    rw [hc]; exact h
  | step _ h' ih => exact ih.step h'
/-- From x to z by g: from z to x by f. -/
theorem reach_back {f g : Ky → List Ky} (hs : ∀ a b, b ∈ g a → a ∈ f b) (hcl : ∀ a b, b ∈ g a → a.cl = a ∧ b.cl = b) {x z : Ky} (h : Reach g [x] z) : Reach f [z] x.cl := by
  induction h with
  | base h =>
    rw [List.mem_singleton] at h
    subst h
    exact reach_self f _
  | @step a b _ hb ih =>
    have h0 := Reach.base (f := f) (l := [b]) (y := b) (by simp)
    rw [(hcl a b hb).2] at h0
    exact reach_trans (h0.step (hs a b hb)) (hcl a b hb).1 ih
theorem reach_start {f : Ky → List Ky} {y z : Ky} (h : Reach f [y.cl] z) : Reach f [y] z := by
  induction h with
  | base h =>
    rw [List.mem_singleton] at h
    subst h
    rw [Ky.cl_cl]
    exact Reach.base (by simp)
  | step _ h ih => exact ih.step h
theorem reach_cl {f : Ky → List Ky} {y z : Ky} (h : Reach f [y] z) : Reach f [y.cl] z := by
  induction h with
  | base h =>
    rw [List.mem_singleton] at h
    subst h
    exact reach_self f _
  | step _ h ih => exact ih.step h
theorem any_clean {out : List Ky} (hc : ∀ z ∈ out, z.cl = z) (k : Ky) : (out.any fun x => decide (x.cl = k.cl)) = decide (k.cl ∈ out) := by
  rw [Bool.eq_iff_iff, List.any_eq_true, decide_eq_true_eq]
  constructor
  · rintro ⟨x, hx, e⟩
    have e := of_decide_eq_true e
    rw [hc x hx] at e
    rw [← e]; exact hx
  · intro h
    exact ⟨_, h, decide_eq_true (Ky.cl_cl _)⟩
theorem rowR_clean {l : List Ky} : ∀ z ∈ rowR l, z.cl = z := fun z hz => by
  obtain ⟨y, _, rfl⟩ := mem_rowR.1 hz
  exact Ky.cl_cl _
theorem any_row {l : List Ky} (hc : ∀ z ∈ l, z.cl = z) (k : Ky) : ((rowR l).any fun x => decide (x.cl = k.cl)) = decide (k.cl ∈ l) := by
  rw [any_clean rowR_clean]
  congr 1
  rw [mem_rowR]
  exact propext ⟨fun ⟨y, hy, e⟩ => by rw [e, hc y hy]; exact hy, fun h => ⟨_, h, (Ky.cl_cl _).symm⟩⟩

set_option maxRecDepth 100000 in
set_option maxHeartbeats 16000000 in
theorem law_webBack (l : List Opn) (x y : Ky) (A : Option Addr) (c : Nat) (w : World) (hr : ORow w A l) (hm : l.length * 56 ≤ 140737488351232) :
    Calls Try.prog 5 #[.slice A l.length c, .agg #[encStr x.n, .int .i64 x.d], .agg #[encStr y.n, .int .i64 y.d]] w fun e w' => e = .returned (.bool true) ∧ Below w.heap.size w w' := by
  have hb0 : Below w.heap.size w ((w.alloc (.cells #[encStr x.n, .int .i64 x.d] 24)).alloc (.cells #[encStr y.n, .int .i64 y.d] 24)) := ((Below.refl _ w).alloc (Nat.le_refl _) _).alloc (by simp) _
  have ka := al2_0 w (.cells #[encStr x.n, .int .i64 x.d] 24) (.cells #[encStr y.n, .int .i64 y.d] 24)
  have kb := al2_1 w (.cells #[encStr x.n, .int .i64 x.d] 24) (.cells #[encStr y.n, .int .i64 y.d] 24)
  have HLV := Lib.hid law29_lives
  go_enter Try.func5, Try.ntmps5
  go_upto_region 1 with fail
  generalize (w.alloc (.cells #[encStr x.n, .int .i64 x.d] 24)).alloc (.cells #[encStr y.n, .int .i64 y.d] 24) = W0 at *
  have HN := Lib.hid (web_new W0)
  go_wp2_with fail
  go_at_call 7
  refine HN.out.mono ?_
  rintro e w1 ⟨⟨W, fp1, fp2, rfl, hw, hW, h1, h2⟩, hb1⟩
  have hz0 := hb0.size
  have HB0 := Lib.hid hb0
  have HKA := Lib.hid ka
  have HKB := Lib.hid kb
  have zka := blk_lt ka
  have zkb := blk_lt kb
  have HP := Lib.hid (law29_play W0 w1 W fp1 fp2 l A c (hr.below hb0) hb1 hw h1 h2 (by omega))
  clear HN hb1 hb0 ka kb hr h1 h2 hw hW
  go_wp2_with fail
  go_at_call 8
  refine HP.out.mono ?_
  rintro e w2 ⟨⟨A2, c2, rfl, hpr, f, g, q1, q2, hw2, hrel⟩, hB2⟩
  have hpl := playP_len l
  have kx := (hB2.block _ zka).trans HKA.out
  have ky := (hB2.block _ zkb).trans HKB.out
  have HB2 := Lib.hid (HB0.out.trans (hB2.mono hz0))
  generalize playP l = m at *
  have hlm : m.length ≤ 2513169434843 := by omega
  have HCF := Lib.hid (show ∀ a b, b ∈ f a → a.cl = a ∧ b.cl = b from fun a b h => hrel.clean (a, b) ((hrel.on a b).1 h))
  have HCG := Lib.hid (show ∀ a b, b ∈ g a → a.cl = a ∧ b.cl = b from fun a b h => (hrel.clean (b, a) ((hrel.of a b).1 h)).symm)
  have HFG := Lib.hid (show ∀ a b, b ∈ f a ↔ a ∈ g b from fun a b => by rw [hrel.on, hrel.of])
  have HBG := Lib.hid (show ∀ (s out : List Ky), s.length ≤ 2513169434844 → out.Nodup → (∀ z ∈ out, Reach g s z) → (out.length + 1) * 24 ≤ 140737488355328 from fun s out hs hn h => by
    have := nodup_leG hn (m := s.map Ky.cl ++ m.map (·.1)) (fun z hz => by
      cases h z hz with
      | base hb => exact List.mem_append_left _ (List.mem_map.2 ⟨_, hb, rfl⟩)
      | step _ hb => exact List.mem_append_right _ (List.mem_map.2 ⟨_, (hrel.of _ _).1 hb, rfl⟩))
    rw [List.length_append, List.length_map, List.length_map] at this
    omega)
  have HBF := Lib.hid (show ∀ (s out : List Ky), s.length ≤ 2513169434844 → out.Nodup → (∀ z ∈ out, Reach f s z) → (out.length + 1) * 24 ≤ 140737488355328 from fun s out hs hn h => by
    have := nodup_leG hn (m := s.map Ky.cl ++ m.map (·.2)) (fun z hz => by
      cases h z hz with
      | base hb => exact List.mem_append_left _ (List.mem_map.2 ⟨_, hb, rfl⟩)
      | step _ hb => exact List.mem_append_right _ (List.mem_map.2 ⟨_, (hrel.on _ _).1 hb, rfl⟩))
    rw [List.length_append, List.length_map, List.length_map] at this
    omega)
  have HM2 := Lib.hid (show ∀ a b, b ∈ f a → b ∈ m.map (·.2) from fun a b h => List.mem_map.2 ⟨_, (hrel.on _ _).1 h, rfl⟩)
  have HMEM := Lib.hid (show ∀ z, Reach g [x] z → z ≠ x.cl → z ∈ m.map (·.1) from fun z h hz => by
    cases h with
    | base hb => rw [List.mem_singleton] at hb; subst hb; exact absurd rfl hz
    | step _ hb => exact List.mem_map.2 ⟨_, (hrel.of _ _).1 hb, rfl⟩)
  have hm1 : (f y.cl).length * 24 ≤ 140737488355328 := by have := le_firsts y.cl (hw2.nodup1 y.cl) (fun z hz => (hrel.on _ z).1 hz); omega
  have hm2 : (g x.cl).length * 24 ≤ 140737488355328 := by have := le_seconds x.cl (hw2.nodup2 x.cl) (fun z hz => (hrel.of _ z).1 hz); omega
  have hl1 := rowR_len (f y.cl)
  have hl2 := rowR_len (g x.cl)
  have HW2 := Lib.hid hw2
  have hX : Below w2.heap.size w2 (w2.alloc (.cells #[encStr x.n, .int .i64 x.d] 24)) := (Below.refl _ _).alloc (Nat.le_refl _) _
  have HX := Lib.hid hX
  have hsX := hX.size
  have HBe := Lib.hid (web_below _ W f g q1 q2 [x] (some ⟨w2.heap.size, 0, none⟩) 1 (hw2.below hX) (krow_new x _ _ (al_new w2 (.cells #[encStr x.n, .int .i64 x.d] 24) rfl)) (by simp)
    (fun a b h => (HCG.out a b h).2) (fun out hn h => HBG.out [x] out (by simp) hn h))
  have ca := blk_cell kx
  have zxa := blk_lt kx
  have zya := blk_lt ky
  have HKX := Lib.hid kx
  have HKY := Lib.hid ky
  clear hpr hw2 hrel hB2 HKA HKB HP hX kx ky
  go_wp2_with fail
  go_at_call 15
  refine HBe.out.mono ?_
  rintro e w3 ⟨⟨gg, n, N, out, rfl, ho, hs, hz⟩, hb3⟩
  have hn := ho.1
  subst hn
  have hB3 : Below w2.heap.size w2 w3 := HX.out.trans (hb3.mono hsX)
  have HW3 := Lib.hid (HW2.out.below hB3)
  have kx := (hB3.block _ zxa).trans HKX.out
  have ky := (hB3.block _ zya).trans HKY.out
  have HBW := Lib.hid (HB2.out.trans (hB3.mono HB2.out.size))
  have HKR := Lib.hid ho.krow
  have HZ := Lib.hid hz
  have HS := Lib.hid hs
  have hol : (out.length + 1) * 24 ≤ 140737488355328 := HBG.out [x] out (by simp) (strict_nodup hs) (fun z h => (hz z).1 h)
  have hol2 : out.length ≤ 2513169434844 := by
    have := nodup_leG (strict_nodup hs) (m := [x].map Ky.cl ++ m.map (·.1)) (fun z h => by
      have h' := (hz z).1 h
      by_cases hzx : z = x.cl
      · exact List.mem_append_left _ (by rw [hzx]; simp)
      · refine List.mem_append_right _ ?_
        exact HMEM.out z h' hzx)
    rw [List.length_append, List.length_map, List.length_map] at this
    simp only [List.length_cons, List.length_nil] at this
    omega
  have HCO := Lib.hid (show ∀ z ∈ out, z.cl = z from fun z h => ((hz z).1 h).cl_eq (fun a b h => (HCG.out a b h).2))
  have hB1 : ((rowR (g x.cl)).any fun z => decide (z.cl = y.cl)) = decide (y.cl ∈ g x.cl) := any_row (fun z h => (HCG.out _ z h).2) y
  have hB2 : ((rowR (f y.cl)).any fun z => decide (z.cl = x.cl)) = decide (y.cl ∈ g x.cl) := by
    rw [any_row (fun z h => (HCF.out _ z h).2) x]
    congr 1
    exact propext (HFG.out y.cl x.cl)
  have hB3' : (out.any fun z => decide (z.cl = y.cl)) = decide (y.cl ∈ out) := any_clean HCO.out y
  have hXO : (out.any fun z => decide (z.cl = x.cl)) = true := by
    rw [any_clean HCO.out x, decide_eq_true_eq, hz]
    exact Reach.base (by simp)
  have HHA := Lib.hid (fun (o2 : List Ky) X d v (h : KRow v X o2) (hl : o2.length ≤ 2513169434844) => r26_Has o2 x X d v h (by omega))
  have HOF := Lib.hid (fun v (q : Below w3.heap.size w3 v) => web_of v W f g q1 q2 x (HW3.out.below q) hm2)
  have HON := Lib.hid (fun v (q : Below w3.heap.size w3 v) => web_on v W f g q1 q2 y (HW3.out.below q) hm1)
  have hH1 := fun X d v (h : KRow v X (rowR (g x.cl))) => r26_Has (rowR (g x.cl)) y X d v h (by omega)
  rw [hB1] at hH1
  have hH2 := fun X d v (h : KRow v X (rowR (f y.cl))) => r26_Has (rowR (f y.cl)) x X d v h (by omega)
  rw [hB2] at hH2
  have hH3 := fun v (q : Below w3.heap.size w3 v) => r26_Has out y (some ⟨gg, 0, none⟩) N v (HKR.out.mono q) (by omega)
  rw [hB3'] at hH3
  have hH5 := fun v (q : Below w3.heap.size w3 v) => r26_Has out x (some ⟨gg, 0, none⟩) N v (HKR.out.mono q) (by omega)
  rw [hXO] at hH5
  have HH1 := Lib.hid hH1
  have HH2 := Lib.hid hH2
  have HH3 := Lib.hid hH3
  have HH5 := Lib.hid hH5
  have HAB := Lib.hid (fun (v : World) (b : Nat) (q : Below w3.heap.size w3 v) (hk : v.heap[b]? = some (.cells #[encStr y.n, .int .i64 y.d] 24)) => web_above v W f g q1 q2 [y] (some ⟨b, 0, none⟩) 1 (HW3.out.below q) (krow_new y _ _ hk) (by simp)
    (fun a b h => (HCF.out a b h).2) (fun out hn h => HBF.out [y] out (by simp) hn h))
  have HAX := Lib.hid (show ∀ o2 : List Ky, StrictK o2 → (∀ z, z ∈ o2 ↔ Reach f [y] z) → (o2.any fun z => decide (z.cl = x.cl)) = decide (y.cl ∈ out) from fun o2 _ h2 => by
    rw [any_clean (fun z h => ((h2 z).1 h).cl_eq (fun a b h => (HCF.out a b h).2)) x]
    congr 1
    refine propext ⟨fun h => (hz _).2 (reach_start (reach_back (fun a b h => (HFG.out a b).1 h) HCF.out ((h2 _).1 h))), fun h => (h2 _).2 (reach_start (reach_back (fun a b h => (HFG.out b a).2 h) HCG.out ((hz _).1 h)))⟩)
  have HLE := Lib.hid (show ∀ o2 : List Ky, StrictK o2 → (∀ z, z ∈ o2 ↔ Reach f [y] z) → o2.length ≤ 2513169434844 from fun o2 hs2 h2 => by
    have := nodup_leG (strict_nodup hs2) (m := [y].map Ky.cl ++ m.map (·.2)) (fun z h => by
      cases (h2 z).1 h with
      | base hb => exact List.mem_append_left _ (List.mem_map.2 ⟨_, hb, rfl⟩)
      | step _ hb => exact List.mem_append_right _ (HM2.out _ _ hb))
    rw [List.length_append, List.length_map, List.length_map] at this
    simp only [List.length_cons, List.length_nil] at this
    omega)
  have HB8 := Lib.hid (fun v (q : Below w3.heap.size w3 v) => web_below v W f g q1 q2 out (some ⟨gg, 0, none⟩) N (HW3.out.below q) (HKR.out.mono q) (by omega)
    (fun a b h => (HCG.out a b h).2) (fun o2 hn h => HBG.out out o2 (by omega) hn h))
  have HEQ := Lib.hid (show ∀ o2 : List Ky, StrictK o2 → (∀ z, z ∈ o2 ↔ Reach g out z) → o2 = out from fun o2 hs2 h2 => strictK_uniq hs2 hs (fun z => by
    rw [h2]
    constructor
    · intro h
      induction h with
      | base h => rw [HCO.out _ h]; exact h
      | step _ h ih => exact (hz _).2 (((hz _).1 ih).step h)
    · intro h
      have := Reach.base (f := g) h
      rwa [HCO.out z h] at this))
  have HK1 := Lib.hid (fun X Y d e v (h : KRow v X out) (h' : KRow v Y out) => r23_Keys _ X Y d e v h h' (by omega))
  have HKR3 := Lib.hid (fun v (q : Below w3.heap.size w3 v) => HKR.out.mono q)
  generalize decide (y.cl ∈ g x.cl) = B1 at *
  generalize decide (y.cl ∈ out) = B2 at *
  generalize rowR (g x.cl) = rg at *
  generalize rowR (f y.cl) = rf at *
  clear hB1 hB2 hB3' hXO hH1 hH2 hH3 hH5 hs hz ho hb3 HBe HX HKX HKY HB2 hB3 ca zxa zya hsX HBG HBF HMEM HM2 HKR
  have a0 := blk_cell kx 0
  have a1 := blk_cell kx 1
  have b0 := blk_cell ky 0
  have b1 := blk_cell ky 1
  simp only [List.getElem?_toArray, List.getElem?_cons_zero, List.getElem?_cons_succ] at a0 a1 b0 b1
  have za := blk_lt kx
  have zb := blk_lt ky
  clear kx ky
  go_upto_region 6 with fail
  have HB : Below w3.heap.size w3 w3.drew := (Below.refl _ w3).drew
  refine wp_region_noPanic ?_
  refine wp_region_held_drew (S := fun w' => Below (w3.heap.size) w3 w') (by kernel_rfl) HB (fun _ => ?_)
  refine take_first 0 19 (.pointer (some ⟨W, 0, none⟩)) rfl rfl (by kernel_rfl) (by kernel_rfl) (by kernel_rfl) (fun _ _ _ h => h) (by rfl) (fun w' hS => ?_) (by assumption) ?_
  · have hc : ∀ b o, b < w3.heap.size → w'.cell? ⟨b, o, none⟩ = w3.cell? ⟨b, o, none⟩ := fun b o h => hS.cell (p := ⟨b, o, none⟩) h
    go_simp
  (try simp only [Act.put, List.setIfInBounds_toArray, List.set_cons_zero, List.set_cons_succ])
  refine take_first 1 20 (.agg #[encStr x.n, .int .i64 x.d]) rfl rfl (by kernel_rfl) (by kernel_rfl) (by kernel_rfl) (fun _ _ _ h => h) (by rfl) (fun w' hS => ?_) (by assumption) ?_
  · have hc : ∀ b o, b < w3.heap.size → w'.cell? ⟨b, o, none⟩ = w3.cell? ⟨b, o, none⟩ := fun b o h => hS.cell (p := ⟨b, o, none⟩) h
    go_simp
  (try simp only [Act.put, List.setIfInBounds_toArray, List.set_cons_zero, List.set_cons_succ])
  refine take_first 3 22 (.agg #[encStr y.n, .int .i64 y.d]) rfl rfl (by kernel_rfl) (by kernel_rfl) (by kernel_rfl) (fun _ _ _ h => h) (by rfl) (fun w' hS => ?_) (by assumption) ?_
  · have hc : ∀ b o, b < w3.heap.size → w'.cell? ⟨b, o, none⟩ = w3.cell? ⟨b, o, none⟩ := fun b o h => hS.cell (p := ⟨b, o, none⟩) h
    go_simp
  (try simp only [Act.put, List.setIfInBounds_toArray, List.set_cons_zero, List.set_cons_succ])
  refine take_first 5 24 (.pointer (some ⟨W, 0, none⟩)) rfl rfl (by kernel_rfl) (by kernel_rfl) (by kernel_rfl) (fun _ _ _ h => h) (by rfl) (fun w' hS => ?_) (by assumption) ?_
  · have hc : ∀ b o, b < w3.heap.size → w'.cell? ⟨b, o, none⟩ = w3.cell? ⟨b, o, none⟩ := fun b o h => hS.cell (p := ⟨b, o, none⟩) h
    go_simp
  (try simp only [Act.put, List.setIfInBounds_toArray, List.set_cons_zero, List.set_cons_succ])
  refine take_first 6 25 (.agg #[encStr y.n, .int .i64 y.d]) rfl rfl (by kernel_rfl) (by kernel_rfl) (by kernel_rfl) (fun _ _ _ h => h) (by rfl) (fun w' hS => ?_) (by assumption) ?_
  · have hc : ∀ b o, b < w3.heap.size → w'.cell? ⟨b, o, none⟩ = w3.cell? ⟨b, o, none⟩ := fun b o h => hS.cell (p := ⟨b, o, none⟩) h
    go_simp
  (try simp only [Act.put, List.setIfInBounds_toArray, List.set_cons_zero, List.set_cons_succ])
  refine take_first 8 27 (.agg #[encStr x.n, .int .i64 x.d]) rfl rfl (by kernel_rfl) (by kernel_rfl) (by kernel_rfl) (fun _ _ _ h => h) (by rfl) (fun w' hS => ?_) (by assumption) ?_
  · have hc : ∀ b o, b < w3.heap.size → w'.cell? ⟨b, o, none⟩ = w3.cell? ⟨b, o, none⟩ := fun b o h => hS.cell (p := ⟨b, o, none⟩) h
    go_simp
  (try simp only [Act.put, List.setIfInBounds_toArray, List.set_cons_zero, List.set_cons_succ])
  refine wpAnyH_ready (rs := [2]) (by kernel_rfl) (by simp) ?_
  refine AllReadyH.cons rfl (fun K hK => ?_) AllReadyH.nil
  go_simp
  go_at_call 12
  refine (HOF.out w3.drew HB).mono ?_
  rintro e x2 ⟨⟨g4, n4, N4, rfl, ho⟩, hb⟩
  have hn := ho.1
  subst hn
  have HX := Lib.hid ho.krow
  clear ho
  replace HB := HB.trans (hb.mono HB.size)
  clear hb
  refine hK.out _ _ HB (fun _ => ?_)
  clear hK K
  (try simp only [Act.put, List.setIfInBounds_toArray, List.set_cons_zero, List.set_cons_succ])
  refine wpAnyH_ready (rs := [4]) (by kernel_rfl) (by simp) ?_
  refine AllReadyH.cons rfl (fun K hK => ?_) AllReadyH.nil
  go_simp
  go_at_call 18
  refine (HH1.out _ _ x2 HX.out).mono ?_
  rintro e x4 ⟨rfl, hb⟩
  clear HX
  replace HB := HB.trans (hb.mono HB.size)
  clear hb
  refine hK.out _ _ HB (fun _ => ?_)
  clear hK K
  (try simp only [Act.put, List.setIfInBounds_toArray, List.set_cons_zero, List.set_cons_succ])
  refine wpAnyH_ready (rs := [7]) (by kernel_rfl) (by simp) ?_
  refine AllReadyH.cons rfl (fun K hK => ?_) AllReadyH.nil
  go_simp
  go_at_call 10
  refine (HON.out x4 HB).mono ?_
  rintro e x7 ⟨⟨g6, n6, N6, rfl, ho⟩, hb⟩
  have hn := ho.1
  subst hn
  have HX := Lib.hid ho.krow
  clear ho
  replace HB := HB.trans (hb.mono HB.size)
  clear hb
  refine hK.out _ _ HB (fun _ => ?_)
  clear hK K
  (try simp only [Act.put, List.setIfInBounds_toArray, List.set_cons_zero, List.set_cons_succ])
  refine wpAnyH_ready (rs := [9]) (by kernel_rfl) (by simp) ?_
  refine AllReadyH.cons rfl (fun K hK => ?_) AllReadyH.nil
  go_simp
  go_at_call 18
  refine (HH2.out _ _ x7 HX.out).mono ?_
  rintro e x9 ⟨rfl, hb⟩
  clear HX
  replace HB := HB.trans (hb.mono HB.size)
  clear hb
  refine hK.out _ _ HB (fun _ => ?_)
  clear hK K
  (try simp only [Act.put, List.setIfInBounds_toArray, List.set_cons_zero, List.set_cons_succ])
  refine take_first 10 29 (.bool false) rfl rfl (by kernel_rfl) (by kernel_rfl) (by kernel_rfl) (fun _ _ _ h => h) (by rfl) (fun w' hS => ?_) (by assumption) ?_
  · have hc : ∀ b o, b < w3.heap.size → w'.cell? ⟨b, o, none⟩ = w3.cell? ⟨b, o, none⟩ := fun b o h => hS.cell (p := ⟨b, o, none⟩) h
    go_simp
  (try simp only [Act.put, List.setIfInBounds_toArray, List.set_cons_zero, List.set_cons_succ])
  refine take_first 11 30 (.bool false) rfl rfl (by kernel_rfl) (by kernel_rfl) (by kernel_rfl) (fun _ _ _ h => h) (by rfl) (fun w' hS => ?_) (by assumption) ?_
  · have hc : ∀ b o, b < w3.heap.size → w'.cell? ⟨b, o, none⟩ = w3.cell? ⟨b, o, none⟩ := fun b o h => hS.cell (p := ⟨b, o, none⟩) h
    go_simp
  (try simp only [Act.put, List.setIfInBounds_toArray, List.set_cons_zero, List.set_cons_succ])
  refine take_first 12 31 (.slice (some ⟨gg, 0, none⟩) out.length N) rfl rfl (by kernel_rfl) (by kernel_rfl) (by kernel_rfl) (fun _ _ _ h => h) (by rfl) (fun w' hS => ?_) (by assumption) ?_
  · have hc : ∀ b o, b < w3.heap.size → w'.cell? ⟨b, o, none⟩ = w3.cell? ⟨b, o, none⟩ := fun b o h => hS.cell (p := ⟨b, o, none⟩) h
    go_simp
  (try simp only [Act.put, List.setIfInBounds_toArray, List.set_cons_zero, List.set_cons_succ])
  refine take_first 13 32 (.agg #[encStr y.n, .int .i64 y.d]) rfl rfl (by kernel_rfl) (by kernel_rfl) (by kernel_rfl) (fun _ _ _ h => h) (by rfl) (fun w' hS => ?_) (by assumption) ?_
  · have hc : ∀ b o, b < w3.heap.size → w'.cell? ⟨b, o, none⟩ = w3.cell? ⟨b, o, none⟩ := fun b o h => hS.cell (p := ⟨b, o, none⟩) h
    go_simp
  (try simp only [Act.put, List.setIfInBounds_toArray, List.set_cons_zero, List.set_cons_succ])
  refine take_first 15 34 (.pointer (some ⟨W, 0, none⟩)) rfl rfl (by kernel_rfl) (by kernel_rfl) (by kernel_rfl) (fun _ _ _ h => h) (by rfl) (fun w' hS => ?_) (by assumption) ?_
  · have hc : ∀ b o, b < w3.heap.size → w'.cell? ⟨b, o, none⟩ = w3.cell? ⟨b, o, none⟩ := fun b o h => hS.cell (p := ⟨b, o, none⟩) h
    go_simp
  (try simp only [Act.put, List.setIfInBounds_toArray, List.set_cons_zero, List.set_cons_succ])
  refine take_first 16 35 (.agg #[encStr y.n, .int .i64 y.d]) rfl rfl (by kernel_rfl) (by kernel_rfl) (by kernel_rfl) (fun _ _ _ h => h) (by rfl) (fun w' hS => ?_) (by assumption) ?_
  · have hc : ∀ b o, b < w3.heap.size → w'.cell? ⟨b, o, none⟩ = w3.cell? ⟨b, o, none⟩ := fun b o h => hS.cell (p := ⟨b, o, none⟩) h
    go_simp
  (try simp only [Act.put, List.setIfInBounds_toArray, List.set_cons_zero, List.set_cons_succ])
  refine take_first 19 38 (.agg #[encStr x.n, .int .i64 x.d]) rfl rfl (by kernel_rfl) (by kernel_rfl) (by kernel_rfl) (fun _ _ _ h => h) (by rfl) (fun w' hS => ?_) (by assumption) ?_
  · have hc : ∀ b o, b < w3.heap.size → w'.cell? ⟨b, o, none⟩ = w3.cell? ⟨b, o, none⟩ := fun b o h => hS.cell (p := ⟨b, o, none⟩) h
    go_simp
  (try simp only [Act.put, List.setIfInBounds_toArray, List.set_cons_zero, List.set_cons_succ])
  refine wpAnyH_ready (rs := [14, 17]) (by kernel_rfl) (by simp) ?_
  refine AllReadyH.cons rfl (fun K hK => ?_) (AllReadyH.cons rfl (fun K hK => ?_) AllReadyH.nil)
  · skip
    go_simp
    go_at_call 18
    refine (HH3.out x9 HB).mono ?_
    rintro e x14 ⟨rfl, hb⟩
    replace HB := HB.trans (hb.mono HB.size)
    clear hb
    refine hK.out _ _ HB (fun _ => ?_)
    clear hK K
    (try simp only [Act.put, List.setIfInBounds_toArray, List.set_cons_zero, List.set_cons_succ])
    refine wpAnyH_ready (rs := [17]) (by kernel_rfl) (by simp) ?_
    refine AllReadyH.cons rfl (fun K hK => ?_) AllReadyH.nil
    go_simp
    have qn17 : (x14.alloc (.cells #[encStr y.n, .int .i64 y.d] 24)).heap[x14.heap.size]? = some (.cells #[encStr y.n, .int .i64 y.d] 24) := al_new x14 (.cells #[encStr y.n, .int .i64 y.d] 24) rfl
    have qb17 : Below x14.heap.size x14 (x14.alloc (.cells #[encStr y.n, .int .i64 y.d] 24)) := (Below.refl _ x14).alloc (Nat.le_refl _) (.cells #[encStr y.n, .int .i64 y.d] 24)
    replace HB := HB.trans (qb17.mono HB.size)
    refine hK.out _ _ HB (fun _ => ?_)
    clear hK K
    (try simp only [Act.put, List.setIfInBounds_toArray, List.set_cons_zero, List.set_cons_succ])
    generalize (x14.alloc (.cells #[encStr y.n, .int .i64 y.d] 24)) = y17 at *
    generalize hb17 : x14.heap.size = b17 at *
    refine wpAnyH_ready (rs := [18]) (by kernel_rfl) (by simp) ?_
    refine AllReadyH.cons rfl (fun K hK => ?_) AllReadyH.nil
    go_simp
    go_at_call 17
    refine (HAB.out y17 b17 HB qn17).mono ?_
    rintro e x18 ⟨⟨g8, n8, N8, o2, rfl, ho, hs2, hz2⟩, hb⟩
    have hn := ho.1
    subst hn
    have HX := Lib.hid ho.krow
    have HE2 := Lib.hid (HAX.out o2 hs2 hz2)
    have hle := HLE.out o2 hs2 hz2
    clear ho hs2 hz2
    replace HB := HB.trans (hb.mono HB.size)
    clear hb
    refine hK.out _ _ HB (fun _ => ?_)
    clear hK K
    (try simp only [Act.put, List.setIfInBounds_toArray, List.set_cons_zero, List.set_cons_succ])
    have HHZ := HHA.out o2 (some ⟨g8, 0, none⟩) N8 x18 HX.out hle
    rw [HE2.out] at HHZ
    refine wpAnyH_ready (rs := [20]) (by kernel_rfl) (by simp) ?_
    refine AllReadyH.cons rfl (fun K hK => ?_) AllReadyH.nil
    go_simp
    go_at_call 18
    refine (HHZ).mono ?_
    rintro e x20 ⟨rfl, hb⟩
    clear HX HHZ HE2
    replace HB := HB.trans (hb.mono HB.size)
    clear hb
    refine hK.out _ _ HB (fun _ => ?_)
    clear hK K
    (try simp only [Act.put, List.setIfInBounds_toArray, List.set_cons_zero, List.set_cons_succ])
    refine take_first 21 40 (.bool false) rfl rfl (by kernel_rfl) (by kernel_rfl) (by kernel_rfl) (fun _ _ _ h => h) (by rfl) (fun w' hS => ?_) (by assumption) ?_
    · have hc : ∀ b o, b < w3.heap.size → w'.cell? ⟨b, o, none⟩ = w3.cell? ⟨b, o, none⟩ := fun b o h => hS.cell (p := ⟨b, o, none⟩) h
      go_simp
    (try simp only [Act.put, List.setIfInBounds_toArray, List.set_cons_zero, List.set_cons_succ])
    refine take_first 22 41 (.bool false) rfl rfl (by kernel_rfl) (by kernel_rfl) (by kernel_rfl) (fun _ _ _ h => h) (by rfl) (fun w' hS => ?_) (by assumption) ?_
    · have hc : ∀ b o, b < w3.heap.size → w'.cell? ⟨b, o, none⟩ = w3.cell? ⟨b, o, none⟩ := fun b o h => hS.cell (p := ⟨b, o, none⟩) h
      go_simp
    (try simp only [Act.put, List.setIfInBounds_toArray, List.set_cons_zero, List.set_cons_succ])
    refine wpAnyH_done (by kernel_rfl) (NoPanic.normal ?_) _
    have HBF2 := Lib.hid HB
    clear HB
    have ca0 := (HBF2.out.cell (p := ⟨w.heap.size, 0, none⟩) za).trans a0
    have ca1 := (HBF2.out.cell (p := ⟨w.heap.size, 1, none⟩) za).trans a1
    have zca := Nat.lt_of_lt_of_le za HBF2.out.size
    go_wp2_with fail
    go_at_call 18
    refine (HH5.out _ HBF2.out).mono ?_
    rintro e w5 ⟨rfl, hb⟩
    have HB5 := Lib.hid (HBF2.out.trans (hb.mono HBF2.out.size))
    clear hb ca0 ca1 zca
    go_wp2_with fail
    go_at_call 15
    refine (HB8.out _ HB5.out).mono ?_
    rintro e w6 ⟨⟨g9, n9, N9, o3, rfl, ho, hs3, hz3⟩, hb⟩
    have heq := HEQ.out o3 hs3 hz3
    subst heq
    have hn := ho.1
    subst hn
    have HX := Lib.hid ho.krow
    have HB6 := Lib.hid (HB5.out.trans (hb.mono HB5.out.size))
    clear ho hs3 hz3 hb
    go_wp2_with fail
    go_at_call 9
    refine (HK1.out _ _ _ _ _ HX.out (HKR3.out _ HB6.out)).mono ?_
    rintro e w7 ⟨rfl, hb⟩
    have HB7 := Lib.hid (HB6.out.trans (hb.mono HB6.out.size))
    clear hb HX
    go_wp2_with fail
    go_at_call 14
    refine (HLV.out _).mono ?_
    rintro e w8 ⟨rfl, hb⟩
    have HB8 := Lib.hid (HB7.out.trans (hb.mono HB7.out.size))
    clear hb
    go_wp2_with fail
    go_ret
    exact ⟨rfl, HBW.out.trans (HB8.out.mono HBW.out.size)⟩
  · skip
    go_simp
    have qn17 : (x9.alloc (.cells #[encStr y.n, .int .i64 y.d] 24)).heap[x9.heap.size]? = some (.cells #[encStr y.n, .int .i64 y.d] 24) := al_new x9 (.cells #[encStr y.n, .int .i64 y.d] 24) rfl
    have qb17 : Below x9.heap.size x9 (x9.alloc (.cells #[encStr y.n, .int .i64 y.d] 24)) := (Below.refl _ x9).alloc (Nat.le_refl _) (.cells #[encStr y.n, .int .i64 y.d] 24)
    replace HB := HB.trans (qb17.mono HB.size)
    refine hK.out _ _ HB (fun _ => ?_)
    clear hK K
    (try simp only [Act.put, List.setIfInBounds_toArray, List.set_cons_zero, List.set_cons_succ])
    generalize (x9.alloc (.cells #[encStr y.n, .int .i64 y.d] 24)) = y17 at *
    generalize hb17 : x9.heap.size = b17 at *
    refine wpAnyH_ready (rs := [14]) (by kernel_rfl) (by simp) ?_
    refine AllReadyH.cons rfl (fun K hK => ?_) AllReadyH.nil
    go_simp
    go_at_call 18
    refine (HH3.out y17 HB).mono ?_
    rintro e x14 ⟨rfl, hb⟩
    have hb17k := hb.block _ (blk_lt qn17)
    replace HB := HB.trans (hb.mono HB.size)
    clear hb
    refine hK.out _ _ HB (fun _ => ?_)
    clear hK K
    (try simp only [Act.put, List.setIfInBounds_toArray, List.set_cons_zero, List.set_cons_succ])
    refine wpAnyH_ready (rs := [18]) (by kernel_rfl) (by simp) ?_
    refine AllReadyH.cons rfl (fun K hK => ?_) AllReadyH.nil
    go_simp
    go_at_call 17
    refine (HAB.out x14 b17 HB ((hb17k).trans qn17)).mono ?_
    rintro e x18 ⟨⟨g8, n8, N8, o2, rfl, ho, hs2, hz2⟩, hb⟩
    have hn := ho.1
    subst hn
    have HX := Lib.hid ho.krow
    have HE2 := Lib.hid (HAX.out o2 hs2 hz2)
    have hle := HLE.out o2 hs2 hz2
    clear ho hs2 hz2
    replace HB := HB.trans (hb.mono HB.size)
    clear hb
    refine hK.out _ _ HB (fun _ => ?_)
    clear hK K
    (try simp only [Act.put, List.setIfInBounds_toArray, List.set_cons_zero, List.set_cons_succ])
    have HHZ := HHA.out o2 (some ⟨g8, 0, none⟩) N8 x18 HX.out hle
    rw [HE2.out] at HHZ
    refine wpAnyH_ready (rs := [20]) (by kernel_rfl) (by simp) ?_
    refine AllReadyH.cons rfl (fun K hK => ?_) AllReadyH.nil
    go_simp
    go_at_call 18
    refine (HHZ).mono ?_
    rintro e x20 ⟨rfl, hb⟩
    clear HX HHZ HE2
    replace HB := HB.trans (hb.mono HB.size)
    clear hb
    refine hK.out _ _ HB (fun _ => ?_)
    clear hK K
    (try simp only [Act.put, List.setIfInBounds_toArray, List.set_cons_zero, List.set_cons_succ])
    refine take_first 21 40 (.bool false) rfl rfl (by kernel_rfl) (by kernel_rfl) (by kernel_rfl) (fun _ _ _ h => h) (by rfl) (fun w' hS => ?_) (by assumption) ?_
    · have hc : ∀ b o, b < w3.heap.size → w'.cell? ⟨b, o, none⟩ = w3.cell? ⟨b, o, none⟩ := fun b o h => hS.cell (p := ⟨b, o, none⟩) h
      go_simp
    (try simp only [Act.put, List.setIfInBounds_toArray, List.set_cons_zero, List.set_cons_succ])
    refine take_first 22 41 (.bool false) rfl rfl (by kernel_rfl) (by kernel_rfl) (by kernel_rfl) (fun _ _ _ h => h) (by rfl) (fun w' hS => ?_) (by assumption) ?_
    · have hc : ∀ b o, b < w3.heap.size → w'.cell? ⟨b, o, none⟩ = w3.cell? ⟨b, o, none⟩ := fun b o h => hS.cell (p := ⟨b, o, none⟩) h
      go_simp
    (try simp only [Act.put, List.setIfInBounds_toArray, List.set_cons_zero, List.set_cons_succ])
    refine wpAnyH_done (by kernel_rfl) (NoPanic.normal ?_) _
    have HBF2 := Lib.hid HB
    clear HB
    have ca0 := (HBF2.out.cell (p := ⟨w.heap.size, 0, none⟩) za).trans a0
    have ca1 := (HBF2.out.cell (p := ⟨w.heap.size, 1, none⟩) za).trans a1
    have zca := Nat.lt_of_lt_of_le za HBF2.out.size
    go_wp2_with fail
    go_at_call 18
    refine (HH5.out _ HBF2.out).mono ?_
    rintro e w5 ⟨rfl, hb⟩
    have HB5 := Lib.hid (HBF2.out.trans (hb.mono HBF2.out.size))
    clear hb ca0 ca1 zca
    go_wp2_with fail
    go_at_call 15
    refine (HB8.out _ HB5.out).mono ?_
    rintro e w6 ⟨⟨g9, n9, N9, o3, rfl, ho, hs3, hz3⟩, hb⟩
    have heq := HEQ.out o3 hs3 hz3
    subst heq
    have hn := ho.1
    subst hn
    have HX := Lib.hid ho.krow
    have HB6 := Lib.hid (HB5.out.trans (hb.mono HB5.out.size))
    clear ho hs3 hz3 hb
    go_wp2_with fail
    go_at_call 9
    refine (HK1.out _ _ _ _ _ HX.out (HKR3.out _ HB6.out)).mono ?_
    rintro e w7 ⟨rfl, hb⟩
    have HB7 := Lib.hid (HB6.out.trans (hb.mono HB6.out.size))
    clear hb HX
    go_wp2_with fail
    go_at_call 14
    refine (HLV.out _).mono ?_
    rintro e w8 ⟨rfl, hb⟩
    have HB8 := Lib.hid (HB7.out.trans (hb.mono HB7.out.size))
    clear hb
    go_wp2_with fail
    go_ret
    exact ⟨rfl, HBW.out.trans (HB8.out.mono HBW.out.size)⟩
end Go.Proofs.Ytkmpkhbahmehmaa
