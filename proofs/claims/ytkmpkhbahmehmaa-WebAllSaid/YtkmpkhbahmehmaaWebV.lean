/- X-PARTIAL The statement's probe of a web: layer 29. -/
import Derived.Test.YtkmpkhbahmehmaaWebI
namespace Go.Proofs.Ytkmpkhbahmehmaa
open Go.RowKit Go.Lib

def kA : Ky := ⟨[97], 0⟩
def kB : Ky := ⟨[98], -1⟩
def fAB : Ky → List Ky := addF (fun _ => []) kB kA
def gAB : Ky → List Ky := addF (fun _ => []) kA kB
theorem kA_cl : kA.cl = kA := by decide
theorem kB_cl : kB.cl = kB := by decide
theorem mem_fAB {a z : Ky} : z ∈ fAB a ↔ a = kB ∧ z = kA := by
  unfold fAB addF
  by_cases h : a = kB
  · rw [if_pos h]; simp [h]
  · rw [if_neg h]; simp [h]
theorem mem_gAB {a z : Ky} : z ∈ gAB a ↔ a = kA ∧ z = kB := by
  unfold gAB addF
  by_cases h : a = kA
  · rw [if_pos h]; simp [h]
  · rw [if_neg h]; simp [h]
theorem reach_gAB {z : Ky} : Reach gAB [kA] z ↔ z = kA ∨ z = kB := by
  constructor
  · intro h
    cases h with
    | base h => rw [List.mem_singleton] at h; subst h; exact Or.inl kA_cl
    | step _ h => exact Or.inr (mem_gAB.1 h).2
  · have h0 : Reach gAB [kA] kA := by
      have := Reach.base (f := gAB) (l := [kA]) (y := kA) (by simp)
      rwa [kA_cl] at this
    rintro (rfl | rfl)
    · exact h0
    · exact h0.step (mem_gAB.2 ⟨rfl, rfl⟩)
theorem reach_fAB {z : Ky} : Reach fAB [kA] z ↔ z = kA := by
  constructor
  · intro h
    have key : ∀ y, Reach fAB [kA] y → y = kA := by
      intro y h
      induction h with
      | base h => rw [List.mem_singleton] at h; subst h; exact kA_cl
      | step _ h ih => exact (mem_fAB.1 h).2
    exact key z h
  · rintro rfl
    have := Reach.base (f := fAB) (l := [kA]) (y := kA) (by simp)
    rwa [kA_cl] at this
theorem below_AB {out : List Ky} (hs : StrictK out) (hz : ∀ z, z ∈ out ↔ Reach gAB [kA] z) : out = [kA, kB] :=
  strictK_uniq hs (by unfold StrictK; simp; decide) (fun y => by rw [hz, reach_gAB]; simp)
theorem above_AB {out : List Ky} (hs : StrictK out) (hz : ∀ z, z ∈ out ↔ Reach fAB [kA] z) : out = [kA] :=
  strictK_uniq hs (by unfold StrictK; simp) (fun y => by rw [hz, reach_fAB]; simp)
theorem on_AB : rowR (fAB kB.cl) = [kA] := by decide
theorem nodup_le : ∀ {l m : List Ky}, l.Nodup → (∀ z ∈ l, z ∈ m) → l.length ≤ m.length
  | [], _, _, _ => Nat.zero_le _
  | x :: l, m, hn, h => by
    have hn' := List.nodup_cons.1 hn
    have hx := h x List.mem_cons_self
    have := nodup_le (l := l) (m := m.erase x) hn'.2 (fun z hz => (List.mem_erase_of_ne (fun e => hn'.1 (by rw [← e]; exact hz))).2 (h z (List.mem_cons_of_mem _ hz)))
    have h1 := List.length_erase_of_mem hx
    have h2 : 0 < m.length := List.length_pos_of_mem hx
    simp only [List.length_cons]
    omega
theorem small_AB {out : List Ky} {l : List Ky} {f : Ky → List Ky} (hn : out.Nodup) (h : ∀ z ∈ out, Reach f l z) (h2 : ∀ z, Reach f l z → z = kA ∨ z = kB) : (out.length + 1) * 24 ≤ 140737488355328 := by
  have : out.length ≤ [kA, kB].length := nodup_le hn (fun z hz => by
    rcases h2 z (h z hz) with rfl | rfl <;> simp)
  simp only [List.length_cons, List.length_nil] at this
  omega

set_option maxRecDepth 100000 in
set_option maxHeartbeats 8000000 in
theorem law29_lives (w : World) : Calls Try.prog 14 #[] w fun e w' => e = .returned (.bool true) ∧ Below w.heap.size w w' := by
  have HN := Lib.hid (web_new w)
  go_enter Try.func14, Try.ntmps14
  go_wp2_with fail
  go_at_call 7
  refine HN.out.mono ?_
  rintro e w1 ⟨⟨W, fp1, fp2, rfl, hw, hW, h1, h2⟩, hb1⟩
  clear HN
  have hz1 := hb1.size
  go_upto_region 5 with fail
  have ka := al2_0 w1 (.cells #[.string ⟨#[97]⟩, .int .i64 0] 24) (.cells #[.string ⟨#[98]⟩, .int .i64 (-1)] 24)
  have kb := al2_1 w1 (.cells #[.string ⟨#[97]⟩, .int .i64 0] 24) (.cells #[.string ⟨#[98]⟩, .int .i64 (-1)] 24)
  have hV : Below w1.heap.size w1 ((w1.alloc (.cells #[.string ⟨#[97]⟩, .int .i64 0] 24)).alloc (.cells #[.string ⟨#[98]⟩, .int .i64 (-1)] 24)) := ((Below.refl _ w1).alloc (Nat.le_refl _) _).alloc (by simp) _
  generalize (w1.alloc (.cells #[.string ⟨#[97]⟩, .int .i64 0] 24)).alloc (.cells #[.string ⟨#[98]⟩, .int .i64 (-1)] 24) = V at *
  have hwV := hw.below hV
  have hBV := hb1.trans (hV.mono hz1)
  have hlt1 : ∀ i, fp1 i ∨ fp2 i → i < w1.heap.size := by
    obtain ⟨r1, r2, -, hl1, hl2, -⟩ := hw
    exact fun i hi => hi.elim (hl1.lt i) (hl2.lt i)
  have ca := blk_cell ka
  have cb := blk_cell kb
  have HA0 := web_add V W _ _ fp1 fp2 kB kA hwV
  rw [kA_cl, kB_cl] at HA0
  have HA := Lib.hid HA0
  have HH := Lib.hid (show ∀ i, fp1 i ∨ fp2 i → w.heap.size ≤ i from fun i hi => hi.elim (h1 i) (h2 i))
  have KA := Lib.hid ka
  have KB := Lib.hid kb
  have HLT1 := Lib.hid hlt1
  have HBV := Lib.hid hBV
  have hzz := hBV.size
  have zka := blk_lt ka
  have zkb := blk_lt kb
  clear HA0 hwV hw h1 h2 ka kb hV hb1 hlt1 hBV
  go_wp2_with fail
  go_at_call 19
  refine HA.out.mono ?_
  rintro e w2 ⟨rfl, q1, q2, hw2, hs1, hs2, ht⟩
  have ka := (ht.block _ zka (fun e => by have := HLT1.out _ e; omega)).trans KA.out
  have kb := (ht.block _ zkb (fun e => by have := HLT1.out _ e; omega)).trans KB.out
  have hB2 : Below w.heap.size w w2 := HBV.out.trans (ht.below HH.out hzz)
  have hwf : WebAt w2 W fAB gAB q1 q2 := hw2
  clear HA KA KB hs1 hs2 ht HLT1 HH HBV ca cb zka zkb hw2
  have zka := blk_lt ka
  have zkb := blk_lt kb
  have ca := blk_cell ka
  have HWF := Lib.hid hwf
  have KA := Lib.hid ka
  have KB := Lib.hid kb
  have hX : Below w2.heap.size w2 (w2.alloc (.cells #[.string ⟨#[97]⟩, .int .i64 0] 24)) := (Below.refl _ _).alloc (Nat.le_refl _) _
  have HX := Lib.hid hX
  have HBe := Lib.hid (web_below _ W fAB gAB q1 q2 [kA] (some ⟨w2.heap.size, 0, none⟩) 1 (hwf.below hX) (krow_new kA _ _ (al_new w2 (.cells #[encStr kA.n, .int .i64 kA.d] 24) rfl)) (by decide)
    (fun a b h => by rw [(mem_gAB.1 h).2]; exact kB_cl) (fun out hn h => small_AB hn h (fun z h => reach_gAB.1 h)))
  have hsX := hX.size
  have HB2 := Lib.hid hB2
  clear hwf ka kb hX hB2
  go_wp2_with fail
  go_at_call 15
  refine HBe.out.mono ?_
  rintro e w3 ⟨⟨gg, n, N, out, rfl, ho, hs, hz⟩, hb3⟩
  have ho2 := below_AB hs hz
  subst ho2
  have hn := ho.1
  simp only [List.length_cons, List.length_nil] at hn
  subst hn
  have hr3 := ho.krow
  have hB3 : Below w2.heap.size w2 w3 := HX.out.trans (hb3.mono hsX)
  have HW3 := Lib.hid (HWF.out.below hB3)
  have ka := (hB3.block _ zka).trans KA.out
  have kb := (hB3.block _ zkb).trans KB.out
  have HBW := Lib.hid (HB2.out.trans (hB3.mono HB2.out.size))
  obtain ⟨bb, oo, he, hzg, -, -⟩ := hr3.get (j := 0) (by decide)
  obtain ⟨bb2, oo2, he2, -, d0, d1⟩ := hr3.get (j := 1) (by decide)
  cases he
  cases he2
  have d0' : w3.cell? ⟨gg, 2, none⟩ = some (.string ⟨#[98]⟩) := d0
  have d1' : w3.cell? ⟨gg, 3, none⟩ = some (.int .i64 (-1)) := d1
  clear d0 d1 hr3 ho hs hz hb3 HBe HX KA KB hB3 HWF HB2 ca zka zkb hsX
  have a0 := blk_cell ka 0
  have a1 := blk_cell ka 1
  have b0 := blk_cell kb 0
  have b1 := blk_cell kb 1
  simp only [List.getElem?_toArray, List.getElem?_cons_zero, List.getElem?_cons_succ] at a0 a1 b0 b1
  have za := blk_lt ka
  have zb := blk_lt kb
  have HAB := Lib.hid (fun (y : World) (b : Nat) (hw : WebAt y W fAB gAB q1 q2) (hk : y.heap[b]? = some (.cells #[encStr kA.n, .int .i64 kA.d] 24)) => web_above y W fAB gAB q1 q2 [kA] (some ⟨b, 0, none⟩) 1 hw (krow_new kA _ _ hk) (by decide)
    (fun a b h => by rw [(mem_fAB.1 h).2]; exact kA_cl) (fun out hn h => small_AB hn h (fun z h => Or.inl (reach_fAB.1 h))))
  have HON := Lib.hid (fun (y : World) (hw : WebAt y W fAB gAB q1 q2) => web_on y W fAB gAB q1 q2 kB hw (by decide))
  clear ka kb
  go_upto_region 7 with fail
  have HB : Below w3.heap.size w3 w3.drew := (Below.refl _ w3).drew
  refine wp_region_noPanic ?_
  refine wp_region_held_drew (S := fun w' => Below (w3.heap.size) w3 w') (by kernel_rfl) HB (fun _ => ?_)
  refine take_first 0 18 (.slice (some ⟨gg, 0, none⟩) 2 N) rfl rfl (by kernel_rfl) (by kernel_rfl) (by kernel_rfl) (fun _ _ _ h => h) (by rfl) (fun w' hS => ?_) (by assumption) ?_
  · have hc : ∀ b o, b < w3.heap.size → w'.cell? ⟨b, o, none⟩ = w3.cell? ⟨b, o, none⟩ := fun b o h => hS.cell (p := ⟨b, o, none⟩) h
    go_simp
  (try simp only [Act.put, List.setIfInBounds_toArray, List.set_cons_zero, List.set_cons_succ])
  refine take_first 1 19 (.int .i64 2) rfl rfl (by kernel_rfl) (by kernel_rfl) (by kernel_rfl) (fun _ _ _ h => h) (by rfl) (fun w' hS => ?_) (by assumption) ?_
  · have hc : ∀ b o, b < w3.heap.size → w'.cell? ⟨b, o, none⟩ = w3.cell? ⟨b, o, none⟩ := fun b o h => hS.cell (p := ⟨b, o, none⟩) h
    go_simp
  (try simp only [Act.put, List.setIfInBounds_toArray, List.set_cons_zero, List.set_cons_succ])
  refine take_first 2 20 (.bool true) rfl rfl (by kernel_rfl) (by kernel_rfl) (by kernel_rfl) (fun _ _ _ h => h) (by rfl) (fun w' hS => ?_) (by assumption) ?_
  · have hc : ∀ b o, b < w3.heap.size → w'.cell? ⟨b, o, none⟩ = w3.cell? ⟨b, o, none⟩ := fun b o h => hS.cell (p := ⟨b, o, none⟩) h
    go_simp
  (try simp only [Act.put, List.setIfInBounds_toArray, List.set_cons_zero, List.set_cons_succ])
  refine take_first 3 21 (.bool true) rfl rfl (by kernel_rfl) (by kernel_rfl) (by kernel_rfl) (fun _ _ _ h => h) (by rfl) (fun w' hS => ?_) (by assumption) ?_
  · have hc : ∀ b o, b < w3.heap.size → w'.cell? ⟨b, o, none⟩ = w3.cell? ⟨b, o, none⟩ := fun b o h => hS.cell (p := ⟨b, o, none⟩) h
    go_simp
  (try simp only [Act.put, List.setIfInBounds_toArray, List.set_cons_zero, List.set_cons_succ])
  refine take_first 4 22 (.slice (some ⟨gg, 0, none⟩) 2 N) rfl rfl (by kernel_rfl) (by kernel_rfl) (by kernel_rfl) (fun _ _ _ h => h) (by rfl) (fun w' hS => ?_) (by assumption) ?_
  · have hc : ∀ b o, b < w3.heap.size → w'.cell? ⟨b, o, none⟩ = w3.cell? ⟨b, o, none⟩ := fun b o h => hS.cell (p := ⟨b, o, none⟩) h
    go_simp
  (try simp only [Act.put, List.setIfInBounds_toArray, List.set_cons_zero, List.set_cons_succ])
  refine take_first 5 23 (.pointer (some ⟨gg, 2, none⟩)) rfl rfl (by kernel_rfl) (by kernel_rfl) (by kernel_rfl) (fun _ _ _ h => h) (by rfl) (fun w' hS => ?_) (by assumption) ?_
  · have hc : ∀ b o, b < w3.heap.size → w'.cell? ⟨b, o, none⟩ = w3.cell? ⟨b, o, none⟩ := fun b o h => hS.cell (p := ⟨b, o, none⟩) h
    go_simp
  (try simp only [Act.put, List.setIfInBounds_toArray, List.set_cons_zero, List.set_cons_succ])
  refine take_first 6 24 (.agg #[.string ⟨#[98]⟩, .int .i64 (-1)]) rfl rfl (by kernel_rfl) (by kernel_rfl) (by kernel_rfl) (fun _ _ _ h => h) (by rfl) (fun w' hS => ?_) (by assumption) ?_
  · have hc : ∀ b o, b < w3.heap.size → w'.cell? ⟨b, o, none⟩ = w3.cell? ⟨b, o, none⟩ := fun b o h => hS.cell (p := ⟨b, o, none⟩) h
    go_simp
  (try simp only [Act.put, List.setIfInBounds_toArray, List.set_cons_zero, List.set_cons_succ])
  refine take_first 7 25 (.agg #[.string ⟨#[98]⟩, .int .i64 (-1)]) rfl rfl (by kernel_rfl) (by kernel_rfl) (by kernel_rfl) (fun _ _ _ h => h) (by rfl) (fun w' hS => ?_) (by assumption) ?_
  · have hc : ∀ b o, b < w3.heap.size → w'.cell? ⟨b, o, none⟩ = w3.cell? ⟨b, o, none⟩ := fun b o h => hS.cell (p := ⟨b, o, none⟩) h
    go_simp
  (try simp only [Act.put, List.setIfInBounds_toArray, List.set_cons_zero, List.set_cons_succ])
  refine take_first 8 26 (.bool true) rfl rfl (by kernel_rfl) (by kernel_rfl) (by kernel_rfl) (fun _ _ _ h => h) (by rfl) (fun w' hS => ?_) (by assumption) ?_
  · have hc : ∀ b o, b < w3.heap.size → w'.cell? ⟨b, o, none⟩ = w3.cell? ⟨b, o, none⟩ := fun b o h => hS.cell (p := ⟨b, o, none⟩) h
    go_simp
  (try simp only [Act.put, List.setIfInBounds_toArray, List.set_cons_zero, List.set_cons_succ])
  refine take_first 9 27 (.bool true) rfl rfl (by kernel_rfl) (by kernel_rfl) (by kernel_rfl) (fun _ _ _ h => h) (by rfl) (fun w' hS => ?_) (by assumption) ?_
  · have hc : ∀ b o, b < w3.heap.size → w'.cell? ⟨b, o, none⟩ = w3.cell? ⟨b, o, none⟩ := fun b o h => hS.cell (p := ⟨b, o, none⟩) h
    go_simp
  (try simp only [Act.put, List.setIfInBounds_toArray, List.set_cons_zero, List.set_cons_succ])
  refine take_first 10 28 (.bool true) rfl rfl (by kernel_rfl) (by kernel_rfl) (by kernel_rfl) (fun _ _ _ h => h) (by rfl) (fun w' hS => ?_) (by assumption) ?_
  · have hc : ∀ b o, b < w3.heap.size → w'.cell? ⟨b, o, none⟩ = w3.cell? ⟨b, o, none⟩ := fun b o h => hS.cell (p := ⟨b, o, none⟩) h
    go_simp
  (try simp only [Act.put, List.setIfInBounds_toArray, List.set_cons_zero, List.set_cons_succ])
  refine take_first 11 29 (.pointer (some ⟨W, 0, none⟩)) rfl rfl (by kernel_rfl) (by kernel_rfl) (by kernel_rfl) (fun _ _ _ h => h) (by rfl) (fun w' hS => ?_) (by assumption) ?_
  · have hc : ∀ b o, b < w3.heap.size → w'.cell? ⟨b, o, none⟩ = w3.cell? ⟨b, o, none⟩ := fun b o h => hS.cell (p := ⟨b, o, none⟩) h
    go_simp
  (try simp only [Act.put, List.setIfInBounds_toArray, List.set_cons_zero, List.set_cons_succ])
  refine take_first 12 30 (.agg #[.string ⟨#[97]⟩, .int .i64 0]) rfl rfl (by kernel_rfl) (by kernel_rfl) (by kernel_rfl) (fun _ _ _ h => h) (by rfl) (fun w' hS => ?_) (by assumption) ?_
  · have hc : ∀ b o, b < w3.heap.size → w'.cell? ⟨b, o, none⟩ = w3.cell? ⟨b, o, none⟩ := fun b o h => hS.cell (p := ⟨b, o, none⟩) h
    go_simp
  (try simp only [Act.put, List.setIfInBounds_toArray, List.set_cons_zero, List.set_cons_succ])
  refine wpAnyH_ready (rs := [13]) (by kernel_rfl) (by simp) ?_
  refine AllReadyH.cons rfl (fun K hK => ?_) AllReadyH.nil
  go_simp
  have qn13 : (w3.alloc (.cells #[.string ⟨#[97]⟩, .int .i64 0] 24)).drew.heap[w3.heap.size]? = some (.cells #[.string ⟨#[97]⟩, .int .i64 0] 24) := al_new w3 (.cells #[.string ⟨#[97]⟩, .int .i64 0] 24) rfl
  have qb13 : Below w3.heap.size w3.drew (w3.alloc (.cells #[.string ⟨#[97]⟩, .int .i64 0] 24)).drew := (Below.refl _ w3.drew).alloc (Nat.le_refl _) (.cells #[.string ⟨#[97]⟩, .int .i64 0] 24)
  replace HB := HB.trans (qb13.mono HB.size)
  refine hK.out _ _ HB (fun _ => ?_)
  clear hK K
  (try simp only [Act.put, List.setIfInBounds_toArray, List.set_cons_zero, List.set_cons_succ])
  generalize (w3.alloc (.cells #[.string ⟨#[97]⟩, .int .i64 0] 24)).drew = y13 at *
  refine wpAnyH_ready (rs := [14]) (by kernel_rfl) (by simp) ?_
  refine AllReadyH.cons rfl (fun K hK => ?_) AllReadyH.nil
  go_simp
  go_at_call 17
  refine (HAB.out y13 _ (HW3.out.below HB) qn13).mono ?_
  rintro e x14 ⟨⟨g2, n2, N2, out, rfl, ho, hs, hz⟩, hb⟩
  have ho2 := above_AB hs hz
  subst ho2
  have hn := ho.1
  simp only [List.length_cons, List.length_nil] at hn
  subst hn
  clear ho hs hz
  replace HB := HB.trans (hb.mono HB.size)
  clear hb
  refine hK.out _ _ HB (fun _ => ?_)
  clear hK K
  (try simp only [Act.put, List.setIfInBounds_toArray, List.set_cons_zero, List.set_cons_succ])
  refine take_first 15 33 (.int .i64 1) rfl rfl (by kernel_rfl) (by kernel_rfl) (by kernel_rfl) (fun _ _ _ h => h) (by rfl) (fun w' hS => ?_) (by assumption) ?_
  · have hc : ∀ b o, b < w3.heap.size → w'.cell? ⟨b, o, none⟩ = w3.cell? ⟨b, o, none⟩ := fun b o h => hS.cell (p := ⟨b, o, none⟩) h
    go_simp
  (try simp only [Act.put, List.setIfInBounds_toArray, List.set_cons_zero, List.set_cons_succ])
  refine take_first 16 34 (.bool true) rfl rfl (by kernel_rfl) (by kernel_rfl) (by kernel_rfl) (fun _ _ _ h => h) (by rfl) (fun w' hS => ?_) (by assumption) ?_
  · have hc : ∀ b o, b < w3.heap.size → w'.cell? ⟨b, o, none⟩ = w3.cell? ⟨b, o, none⟩ := fun b o h => hS.cell (p := ⟨b, o, none⟩) h
    go_simp
  (try simp only [Act.put, List.setIfInBounds_toArray, List.set_cons_zero, List.set_cons_succ])
  refine take_first 17 35 (.bool true) rfl rfl (by kernel_rfl) (by kernel_rfl) (by kernel_rfl) (fun _ _ _ h => h) (by rfl) (fun w' hS => ?_) (by assumption) ?_
  · have hc : ∀ b o, b < w3.heap.size → w'.cell? ⟨b, o, none⟩ = w3.cell? ⟨b, o, none⟩ := fun b o h => hS.cell (p := ⟨b, o, none⟩) h
    go_simp
  (try simp only [Act.put, List.setIfInBounds_toArray, List.set_cons_zero, List.set_cons_succ])
  refine take_first 18 36 (.bool true) rfl rfl (by kernel_rfl) (by kernel_rfl) (by kernel_rfl) (fun _ _ _ h => h) (by rfl) (fun w' hS => ?_) (by assumption) ?_
  · have hc : ∀ b o, b < w3.heap.size → w'.cell? ⟨b, o, none⟩ = w3.cell? ⟨b, o, none⟩ := fun b o h => hS.cell (p := ⟨b, o, none⟩) h
    go_simp
  (try simp only [Act.put, List.setIfInBounds_toArray, List.set_cons_zero, List.set_cons_succ])
  refine take_first 19 37 (.pointer (some ⟨W, 0, none⟩)) rfl rfl (by kernel_rfl) (by kernel_rfl) (by kernel_rfl) (fun _ _ _ h => h) (by rfl) (fun w' hS => ?_) (by assumption) ?_
  · have hc : ∀ b o, b < w3.heap.size → w'.cell? ⟨b, o, none⟩ = w3.cell? ⟨b, o, none⟩ := fun b o h => hS.cell (p := ⟨b, o, none⟩) h
    go_simp
  (try simp only [Act.put, List.setIfInBounds_toArray, List.set_cons_zero, List.set_cons_succ])
  refine take_first 20 38 (.agg #[.string ⟨#[98]⟩, .int .i64 (-1)]) rfl rfl (by kernel_rfl) (by kernel_rfl) (by kernel_rfl) (fun _ _ _ h => h) (by rfl) (fun w' hS => ?_) (by assumption) ?_
  · have hc : ∀ b o, b < w3.heap.size → w'.cell? ⟨b, o, none⟩ = w3.cell? ⟨b, o, none⟩ := fun b o h => hS.cell (p := ⟨b, o, none⟩) h
    go_simp
  (try simp only [Act.put, List.setIfInBounds_toArray, List.set_cons_zero, List.set_cons_succ])
  refine wpAnyH_ready (rs := [21]) (by kernel_rfl) (by simp) ?_
  refine AllReadyH.cons rfl (fun K hK => ?_) AllReadyH.nil
  go_simp
  go_at_call 10
  refine (HON.out x14 (HW3.out.below HB)).mono ?_
  rintro e x21 ⟨⟨g3, n3, N3, rfl, ho⟩, hb⟩
  have hn := ho.1
  rw [on_AB] at hn
  simp only [List.length_cons, List.length_nil] at hn
  subst hn
  clear ho
  replace HB := HB.trans (hb.mono HB.size)
  clear hb
  refine hK.out _ _ HB (fun _ => ?_)
  clear hK K
  (try simp only [Act.put, List.setIfInBounds_toArray, List.set_cons_zero, List.set_cons_succ])
  refine take_first 22 40 (.int .i64 1) rfl rfl (by kernel_rfl) (by kernel_rfl) (by kernel_rfl) (fun _ _ _ h => h) (by rfl) (fun w' hS => ?_) (by assumption) ?_
  · have hc : ∀ b o, b < w3.heap.size → w'.cell? ⟨b, o, none⟩ = w3.cell? ⟨b, o, none⟩ := fun b o h => hS.cell (p := ⟨b, o, none⟩) h
    go_simp
  (try simp only [Act.put, List.setIfInBounds_toArray, List.set_cons_zero, List.set_cons_succ])
  refine take_first 23 41 (.bool true) rfl rfl (by kernel_rfl) (by kernel_rfl) (by kernel_rfl) (fun _ _ _ h => h) (by rfl) (fun w' hS => ?_) (by assumption) ?_
  · have hc : ∀ b o, b < w3.heap.size → w'.cell? ⟨b, o, none⟩ = w3.cell? ⟨b, o, none⟩ := fun b o h => hS.cell (p := ⟨b, o, none⟩) h
    go_simp
  (try simp only [Act.put, List.setIfInBounds_toArray, List.set_cons_zero, List.set_cons_succ])
  refine take_first 24 42 (.bool true) rfl rfl (by kernel_rfl) (by kernel_rfl) (by kernel_rfl) (fun _ _ _ h => h) (by rfl) (fun w' hS => ?_) (by assumption) ?_
  · have hc : ∀ b o, b < w3.heap.size → w'.cell? ⟨b, o, none⟩ = w3.cell? ⟨b, o, none⟩ := fun b o h => hS.cell (p := ⟨b, o, none⟩) h
    go_simp
  (try simp only [Act.put, List.setIfInBounds_toArray, List.set_cons_zero, List.set_cons_succ])
  refine take_first 25 0 (.bool true) rfl rfl (by kernel_rfl) (by kernel_rfl) (by kernel_rfl) (fun _ _ _ h => h) (by rfl) (fun w' hS => ?_) (by assumption) ?_
  · have hc : ∀ b o, b < w3.heap.size → w'.cell? ⟨b, o, none⟩ = w3.cell? ⟨b, o, none⟩ := fun b o h => hS.cell (p := ⟨b, o, none⟩) h
    go_simp
  (try simp only [Act.put, List.setIfInBounds_toArray, List.set_cons_zero])
  refine wpAnyH_done (by kernel_rfl) (NoPanic.normal ?_) _
  go_wp2_with fail
  go_ret
  exact ⟨rfl, HBW.out.trans (HB.mono HBW.out.size)⟩
end Go.Proofs.Ytkmpkhbahmehmaa
