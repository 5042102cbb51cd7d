/- X-PARTIAL A web: a key is dropped: layer 29. -/
import Derived.Test.YtkmpkhbahmehmaaWebF
import Derived.Test.YtkmpkhbahmehmaaTake
namespace Go.Proofs.Ytkmpkhbahmehmaa
open Go.RowKit Go.Lib

theorem KRow.touch {fp : Nat → Prop} {w w' : World} {A : Option Addr} {l : List Ky} (h : KRow w A l) (ht : Touch fp w w') (hn : ∀ a, A = some a → ¬ fp a.block) : KRow w' A l := fun j hj => by
  obtain ⟨b, o, e, hz, c0, c1⟩ := h.get hj
  have hb := ht.block b hz (hn _ e)
  exact ⟨b, o, e, Nat.lt_of_lt_of_le hz ht.size, (World.cell?_of_block (w := w) hb).trans c0, (World.cell?_of_block (w := w) hb).trans c1⟩
theorem mem_cutF {f : Ky → List Ky} {a b c z : Ky} : z ∈ cutF f a b c ↔ z ∈ f c ∧ ¬ (c = a ∧ z = b) := by
  by_cases h : c = a
  · subst h
    rw [cutF_self, List.mem_filter]
    simp
  · rw [cutF_other f b h]
    simp [h]
theorem LinksAt.nodup {w : World} {r : Nat} {f : Ky → List Ky} {fp : Nat → Prop} (h : LinksAt w r f fp) (a : Ky) : (f a).Nodup := by
  obtain ⟨es, clock, L, hb, hE, hr, hlt, hin, hno, -⟩ := h
  cases hg : getL a L with
  | none => rw [hno a (key_getL.2 hg)]; exact List.nodup_nil
  | some v =>
    obtain ⟨n, -, -, -, hs⟩ := hin a v (getL_mem hg)
    exact hs.nodup
theorem nodup_row (l : List Ky) {i j : Nat} (hi : i < (rowR l).length) (hj : j < (rowR l).length) (h : (rowR l)[i] = (rowR l)[j]) : i = j := by
  have hn := List.pairwise_iff_getElem.1 (strict_rowR l)
  rcases Nat.lt_trichotomy i j with h' | h' | h'
  · exact absurd h (fun e => by have := hn i j hi hj h'; rw [e] at this; simp [Ky.less] at this; try exact absurd this (List.lt_irrefl _))
  · exact h'
  · exact absurd h (fun e => by have := hn j i hj hi h'; rw [e] at this; simp [Ky.less] at this; try exact absurd this (List.lt_irrefl _))
theorem mem_take_row (l : List Ky) {k : Nat} (hk : k < (rowR l).length) : (rowR l)[k] ∉ (rowR l).take k := fun h => by
  obtain ⟨i, hi, e⟩ := List.getElem_of_mem h
  rw [List.length_take] at hi
  rw [List.getElem_take] at e
  have := nodup_row l (by omega) hk e
  omega

set_option maxRecDepth 100000 in
set_option maxHeartbeats 8000000 in
theorem web_drop (w : World) (W : Nat) (f g : Ky → List Ky) (fp1 fp2 : Nat → Prop) (x : Ky) (h : WebAt w W f g fp1 fp2) (hsy : ∀ a b, b ∈ f a ↔ a ∈ g b) (hcl : ∀ a b, b ∈ f a → a.cl = a ∧ b.cl = b) (hm1 : (f x.cl).length * 24 ≤ 140737488355328)
    (hm2 : ∀ l : List Ky, l.Nodup → (∀ z, z ∈ l → z ∈ g x.cl) → l.length * 24 ≤ 140737488355328) :
    Calls Try.prog 20 #[.pointer (some ⟨W, 0, none⟩), .agg #[encStr x.n, .int .i64 x.d]] w fun e w' => e = .returned (.tuple #[]) ∧
      ∃ f' g', WebAt w' W f' g' fp1 fp2 ∧ (∀ a z, z ∈ f' a ↔ z ∈ f a ∧ a ≠ x.cl ∧ z ≠ x.cl) ∧ (∀ a z, z ∈ g' a ↔ z ∈ g a ∧ a ≠ x.cl ∧ z ≠ x.cl) ∧ Touch (fun i => fp1 i ∨ fp2 i) w w' := by
  obtain ⟨r1, r2, hb, hl1, hl2, hd, hn1, hn2⟩ := h
  have HWL := Lib.hid (blk_lt hb)
  have HD := Lib.hid hd
  have HNW := Lib.hid (show ¬ (fp1 W ∨ fp2 W) from fun e => e.elim hn1 hn2)
  have HNF := Lib.hid (show ∀ i, w.heap.size ≤ i → ¬ (fp1 i ∨ fp2 i) from fun i hi e => e.elim (fun e => by have := hl1.lt i e; omega) (fun e => by have := hl2.lt i e; omega))
  have HC := Lib.hid (key_Clean x)
  have HSY1 := Lib.hid hsy
  have HCL1 := Lib.hid (show ∀ a b, b ∈ f a → b.cl = b from fun a b e => (hcl a b e).2)
  have HM1 := Lib.hid hm1
  have HM20 := Lib.hid hm2
  have HCLA := Lib.hid hcl
  clear hd hn1 hn2 hsy hcl hm1 hm2
  generalize x.cl = X at *
  go_enter Try.func20, Try.ntmps20
  go_upto_region 2 with fail
  have ka := al_new w (.cells #[encStr x.n, .int .i64 x.d] 24) rfl
  have hV : Below w.heap.size w (w.alloc (.cells #[encStr x.n, .int .i64 x.d] 24)) := (Below.refl _ w).alloc (Nat.le_refl _) _
  generalize w.alloc (.cells #[encStr x.n, .int .i64 x.d] 24) = V at *
  have a0 := blk_cell ka 0
  have a1 := blk_cell ka 1
  simp only [List.getElem?_toArray, List.getElem?_cons_zero, List.getElem?_cons_succ] at a0 a1
  have hs0 := hV.size
  have za := blk_lt ka
  go_wp2_with fail
  go_at_call 26
  refine (HC.out _).mono ?_
  rintro e w1 ⟨rfl, hB1⟩
  have k1 := (hB1.block _ za).trans ka
  have hB := hV.trans (hB1.mono hs0)
  have a0' := blk_cell k1 0
  have a1' := blk_cell k1 1
  simp only [List.getElem?_toArray, List.getElem?_cons_zero, List.getElem?_cons_succ] at a0' a1'
  have f1 := blk_free k1
  have z1 := blk_lt k1
  clear a0 a1 hB1 hV HC za hs0 ka
  go_upto_region 3 with fail
  have kX := blk_set2 (v0 := encStr X.n) (v1 := .int .i64 X.d) k1
  have hV2 : Below w.heap.size w ((w1.setCell ⟨w.heap.size, 0, none⟩ (encStr X.n)).setCell ⟨w.heap.size, 1, none⟩ (.int .i64 X.d)) := (hB.setCell (Nat.le_refl _) _).setCell (Nat.le_refl _) _
  clear a0' a1' f1 z1 k1 hB
  unfold encStr at kX hV2
  try unfold encStr
  generalize (w1.setCell ⟨w.heap.size, 0, none⟩ (.string ⟨X.n.toArray⟩)).setCell ⟨w.heap.size, 1, none⟩ (.int .i64 X.d) = V2 at *
  have hm := (hV2.block _ (blk_lt hb)).trans hb
  have HWZ0 := Lib.hid hV2.size
  have LP := Lib.hid (hl1.below hV2)
  have LQ := Lib.hid (hl2.below hV2)
  have TV := Lib.hid (Touch.of_below (fp := fun i => fp1 i ∨ fp2 i) hV2)
  clear hl1 hl2 hV2 hb
  have HR := Lib.hid (fun v (q : Below V2.heap.size V2 v) => links_row v r1 f fp1 X (LP.out.below q) HM1.out)
  have a0 := blk_cell kX 0
  have a1 := blk_cell kX 1
  have m0 := blk_cell hm 0
  have m1 := blk_cell hm 1
  simp only [List.getElem?_toArray, List.getElem?_cons_zero, List.getElem?_cons_succ] at a0 a1 m0 m1
  have za := blk_lt kX
  have fa := blk_free kX
  have Ka := Lib.hid kX
  have zm := blk_lt hm
  have fm := blk_free hm
  have Km := Lib.hid hm
  clear kX hm
  go_upto_region 3 with fail
  have HB : Below V2.heap.size V2 V2.drew := (Below.refl _ V2).drew
  refine wp_region_noPanic ?_
  refine wp_region_held_drew (S := fun w' => Below (V2.heap.size) V2 w') (by kernel_rfl) HB (fun _ => ?_)
  refine take_first 0 12 (.pointer (some ⟨W, 0, none⟩)) rfl rfl (by kernel_rfl) (by kernel_rfl) (by kernel_rfl) (fun _ _ _ h => h) (by rfl) (fun w' hS => ?_) (by assumption) ?_
  · have hc : ∀ b o, b < V2.heap.size → w'.cell? ⟨b, o, none⟩ = V2.cell? ⟨b, o, none⟩ := fun b o h => hS.cell (p := ⟨b, o, none⟩) h
    go_simp
  (try simp only [Act.put, List.setIfInBounds_toArray, List.set_cons_zero, List.set_cons_succ])
  refine take_first 1 13 (.pointer (some ⟨W, 0, none⟩)) rfl rfl (by kernel_rfl) (by kernel_rfl) (by kernel_rfl) (fun _ _ _ h => h) (by rfl) (fun w' hS => ?_) (by assumption) ?_
  · have hc : ∀ b o, b < V2.heap.size → w'.cell? ⟨b, o, none⟩ = V2.cell? ⟨b, o, none⟩ := fun b o h => hS.cell (p := ⟨b, o, none⟩) h
    go_simp
  (try simp only [Act.put, List.setIfInBounds_toArray, List.set_cons_zero, List.set_cons_succ])
  refine take_first 2 14 (.pointer (some ⟨W, 0, none⟩)) rfl rfl (by kernel_rfl) (by kernel_rfl) (by kernel_rfl) (fun _ _ _ h => h) (by rfl) (fun w' hS => ?_) (by assumption) ?_
  · have hc : ∀ b o, b < V2.heap.size → w'.cell? ⟨b, o, none⟩ = V2.cell? ⟨b, o, none⟩ := fun b o h => hS.cell (p := ⟨b, o, none⟩) h
    go_simp
  (try simp only [Act.put, List.setIfInBounds_toArray, List.set_cons_zero, List.set_cons_succ])
  refine take_first 3 15 (.map (some r1)) rfl rfl (by kernel_rfl) (by kernel_rfl) (by kernel_rfl) (fun _ _ _ h => h) (by rfl) (fun w' hS => ?_) (by assumption) ?_
  · have hc : ∀ b o, b < V2.heap.size → w'.cell? ⟨b, o, none⟩ = V2.cell? ⟨b, o, none⟩ := fun b o h => hS.cell (p := ⟨b, o, none⟩) h
    go_simp
  (try simp only [Act.put, List.setIfInBounds_toArray, List.set_cons_zero, List.set_cons_succ])
  refine take_first 4 16 (.agg #[encStr X.n, .int .i64 X.d]) rfl rfl (by kernel_rfl) (by kernel_rfl) (by kernel_rfl) (fun _ _ _ h => h) (by rfl) (fun w' hS => ?_) (by assumption) ?_
  · have hc : ∀ b o, b < V2.heap.size → w'.cell? ⟨b, o, none⟩ = V2.cell? ⟨b, o, none⟩ := fun b o h => hS.cell (p := ⟨b, o, none⟩) h
    go_simp
  (try simp only [Act.put, List.setIfInBounds_toArray, List.set_cons_zero, List.set_cons_succ])
  refine take_first 7 19 (.int .i64 0) rfl rfl (by kernel_rfl) (by kernel_rfl) (by kernel_rfl) (fun _ _ _ h => h) (by rfl) (fun w' hS => ?_) (by assumption) ?_
  · have hc : ∀ b o, b < V2.heap.size → w'.cell? ⟨b, o, none⟩ = V2.cell? ⟨b, o, none⟩ := fun b o h => hS.cell (p := ⟨b, o, none⟩) h
    go_simp
  (try simp only [Act.put, List.setIfInBounds_toArray, List.set_cons_zero, List.set_cons_succ])
  refine wpAnyH_ready (rs := [5]) (by kernel_rfl) (by simp) ?_
  refine AllReadyH.cons rfl (fun K hK => ?_) AllReadyH.nil
  go_simp
  go_at_call 25
  refine (HR.out V2.drew HB).mono ?_
  rintro e x5 ⟨⟨gg, n, N, rfl, ho⟩, hb⟩
  have hn := ho.1
  subst hn
  have HKR := Lib.hid ho.krow
  have hgg : w.heap.size ≤ gg := by have h1 := (ho.2.2.lt gg rfl).1; have h2 := TV.out.size; have h3 := HB.size; omega
  clear ho
  replace HB := HB.trans (hb.mono HB.size)
  clear hb
  refine hK.out _ _ HB (fun _ => ?_)
  clear hK K
  (try simp only [Act.put, List.setIfInBounds_toArray, List.set_cons_zero, List.set_cons_succ])
  refine take_first 6 18 (.int .i64 (rowR (f X)).length) rfl rfl (by kernel_rfl) (by kernel_rfl) (by kernel_rfl) (fun _ _ _ h => h) (by rfl) (fun w' hS => ?_) (by assumption) ?_
  · have hc : ∀ b o, b < V2.heap.size → w'.cell? ⟨b, o, none⟩ = V2.cell? ⟨b, o, none⟩ := fun b o h => hS.cell (p := ⟨b, o, none⟩) h
    go_simp
  (try simp only [Act.put, List.setIfInBounds_toArray, List.set_cons_zero, List.set_cons_succ])
  refine wpAnyH_done (by kernel_rfl) (NoPanic.normal ?_) _
  have HB2 := Lib.hid HB
  clear HB
  generalize x5 = w2 at *
  have kX := (HB2.out.block _ za).trans Ka.out
  have hm := (HB2.out.block _ zm).trans Km.out
  have hsV := HB2.out.size
  have LP2 := Lib.hid (LP.out.below HB2.out)
  have LQ2 := Lib.hid (LQ.out.below HB2.out)
  have TV2 := Lib.hid (TV.out.trans (Touch.of_below (fp := fun i => fp1 i ∨ fp2 i) HB2.out) (fun i hi => Or.inl hi))
  clear a0 a1 m0 m1 za fa zm fm LP LQ TV HB2 HR Ka Km
  have HKX := Lib.hid kX
  have HKM := Lib.hid hm
  clear kX hm
  generalize hl : rowR (f X) = l at *
  have HLL := Lib.hid (show l.length * 24 ≤ 140737488355328 by have h1 := rowR_len (f X); have h2 := HM1.out; rw [hl] at h1; omega)
  have HL := Lib.hid hl
  clear hl
  generalize w2 = Z at *
  have HWZ := Lib.hid (show w.heap.size ≤ Z.heap.size by have := TV2.out.size; omega)
  go_wp2_with fail
  go_loopw [19] (fun v19 wr => ∃ (k : Nat) (P Q : Ky → List Ky), k ≤ l.length ∧ v19 = .int .i64 k ∧ LinksAt wr r1 P fp1 ∧ LinksAt wr r2 Q fp2 ∧ (∀ a z, z ∈ P a ↔ z ∈ f a ∧ ¬ (a = X ∧ z ∈ l.take k)) ∧ (∀ a z, z ∈ Q a ↔ z ∈ g a ∧ ¬ (z = X ∧ a ∈ l.take k)) ∧ Touch (fun i => fp1 i ∨ fp2 i) Z wr) (fun v19 _ => l.length - (RowKit.intOf v19).toNat)
  case atStart => exact ⟨0, f, g, Nat.zero_le _, rfl, LP2.out, LQ2.out, fun a z => by simp, fun a z => by simp, Touch.refl _ _⟩
  case round =>
    obtain ⟨k, P, Q, hk, rfl, hlp, hlq, hP, hQ, ht⟩ := hrel
    have HP := Lib.hid hP
    have HQ := Lib.hid hQ
    have HT := Lib.hid ht
    have hszr := ht.size
    clear hP hQ
    by_cases hlt : k < l.length
    · have ik : (k : Int) < l.length := by omega
      have ik2 : l.length * 24 ≤ 140737488355328 := HLL.out
      obtain ⟨bb, oo, he, hz, c0, c1⟩ := (HKR.out.touch ht (fun a e => by cases e; exact HNF.out gg hgg)).get hlt
      have kX := (ht.block _ (blk_lt HKX.out) (HNF.out _ (Nat.le_refl _))).trans HKX.out
      have hm := (ht.block _ (blk_lt HKM.out) HNW.out).trans HKM.out
      cases he
      rw [Nat.zero_add] at c0 c1
      have HTK := Lib.hid (List.take_succ_eq_append_getElem hlt)
      have HMY := Lib.hid (show l[k] ∈ f X ∧ l[k] ∉ l.take k by
        refine ⟨?_, ?_⟩
        · have h1 : l[k] ∈ rowR (f X) := by rw [HL.out]; exact List.getElem_mem _
          obtain ⟨y, hy, e⟩ := mem_rowR.1 h1
          rw [e, HCL1.out X y hy]; exact hy
        · have := HL.out
          subst this
          exact mem_take_row _ hlt)
      clear ht
      generalize l[k] = y at *
      go_upto_region 6 with fail
      have kY := al_new wr (.cells #[encStr y.n, .int .i64 y.d] 24) rfl
      have hbY : Below wr.heap.size wr (wr.alloc (.cells #[encStr y.n, .int .i64 y.d] 24)) := (Below.refl _ wr).alloc (Nat.le_refl _) _
      have kX := (hbY.block _ (blk_lt kX)).trans kX
      have hm := (hbY.block _ (blk_lt hm)).trans hm
      have hlp := hlp.below hbY
      have hlq := hlq.below hbY
      have HTY := Lib.hid (HT.out.trans (Touch.of_below (fp := fun i => fp1 i ∨ fp2 i) hbY) (fun i hi => Or.inl hi))
      clear hbY c0 c1
      unfold encStr at kY kX hm hlp hlq HTY
      have hyb : w.heap.size ≤ wr.heap.size := by have := HWZ.out; omega
      generalize wr.alloc (.cells #[.string ⟨y.n.toArray⟩, .int .i64 y.d] 24) = Y at *
      have HA := Lib.hid (fun v (q : Below Y.heap.size Y v) => links_cut v r2 Q fp2 y X (hlq.below q) ((HQ.out y X).2 ⟨(HSY1.out X y).1 HMY.out.1, fun h => HMY.out.2 h.2⟩))
      have a0 := blk_cell kX 0
      have a1 := blk_cell kX 1
      have b0 := blk_cell kY 0
      have b1 := blk_cell kY 1
      have m0 := blk_cell hm 0
      have m1 := blk_cell hm 1
      simp only [List.getElem?_toArray, List.getElem?_cons_zero, List.getElem?_cons_succ] at a0 a1 b0 b1 m0 m1
      have za := blk_lt kX
      have fa := blk_free kX
      have Ka := Lib.hid kX
      have zb := blk_lt kY
      have fb := blk_free kY
      have Kb := Lib.hid kY
      have zm := blk_lt hm
      have fm := blk_free hm
      have Km := Lib.hid hm
      clear kX kY hm
      skip
      refine region_seqg (W := Y) [_, _, _, _, _, _] [_] rfl (by kernel_rfl) (by kernel_rfl) (by repeat (first | (with_reducible assumption) | (with_reducible exact Below.refl _ _) | (with_reducible refine Below.alloc ?_ (by first | omega | (simp; omega) | (simp; done) | (dsimp only; omega)) _) | (with_reducible refine Below.setCell ?_ (by first | omega | (simp; omega) | (simp; done) | (dsimp only; omega)) _) | (with_reducible refine Below.drew ?_) | (with_reducible refine Below.trans ?_ (Below.mono (by assumption) (by first | omega | (simp; omega) | (simp; done) | (dsimp only; omega)))))) (fun fin hfin => ?_)
      iterate 6
        first
          | (refine SeqG.yes (v := ?_) (A' := ?_) rfl (fun γ => by rfl) ?_ ?_ ?_
             rotate_left 2
             · intro γ w' K hS hK
               obtain ⟨hc, hf⟩ := bcell hS
               have hz := hS.size
               go_simp
               first
                 | exact hK.out _ (Below.refl _ _)
                 | trace_state
             · intro γ; simp only [Act.put, List.setIfInBounds_toArray, List.set_cons_zero, List.set_cons_succ]; exact rfl)
          | (refine SeqG.no (A' := ?_) rfl (fun γ => by rfl) ?_ ?_
             rotate_left
             · intro γ; simp only [Act.put, List.setIfInBounds_toArray, List.set_cons_zero, List.set_cons_succ]; exact rfl)
      refine SeqG.nil (hfin.out _ _ ?_)
      clear hfin fin
      intro γ lo hi w1 hB1 hF hD
      clear hD
      have HB1 := Lib.hid hB1
      have hs1 := hB1.size
      clear hF hB1
      refine TailL.cons (fun K hK => ?_)
      go_simp
      go_at_call 32
      with_reducible refine (HA.out _ HB1.out).mono ?_
      rintro e w2 ⟨rfl, hnew, htc⟩
      refine hK.out _ _ ?_
      clear hK K
      refine TailL.nil ?_
      have hTc : Touch fp2 Y w2 := (Touch.of_below HB1.out).trans htc (fun i hi => Or.inl hi)
      have kX := (hTc.block _ za (fun e => HNF.out _ (Nat.le_refl _) (Or.inr e))).trans Ka.out
      have kY := (hTc.block _ zb (fun e => HNF.out _ hyb (Or.inr e))).trans Kb.out
      have hm := (hTc.block _ zm (fun e => HNW.out (Or.inr e))).trans Km.out
      have HTY := Lib.hid (HTY.out.trans hTc (fun i hi => Or.inl (Or.inr hi)))
      clear a0 a1 b0 b1 m0 m1 za fa zb fb zm fm Ka Kb Km HA HB1 hs1 htc
      have hlq := hnew
      have hlp := hlp.kept hTc (fun i h1 h2 => HD.out i h1 h2)
      clear hnew hTc
      generalize w2 = Y2 at *
      have HA := Lib.hid (fun v (q : Below Y2.heap.size Y2 v) => links_cut v r1 P fp1 X y (hlp.below q) ((HP.out X y).2 ⟨HMY.out.1, fun h => HMY.out.2 h.2⟩))
      have a0 := blk_cell kX 0
      have a1 := blk_cell kX 1
      have b0 := blk_cell kY 0
      have b1 := blk_cell kY 1
      have m0 := blk_cell hm 0
      have m1 := blk_cell hm 1
      simp only [List.getElem?_toArray, List.getElem?_cons_zero, List.getElem?_cons_succ] at a0 a1 b0 b1 m0 m1
      have za := blk_lt kX
      have fa := blk_free kX
      have Ka := Lib.hid kX
      have zb := blk_lt kY
      have fb := blk_free kY
      have Kb := Lib.hid kY
      have zm := blk_lt hm
      have fm := blk_free hm
      have Km := Lib.hid hm
      clear kX kY hm
      go_upto_region 7 with fail
      refine region_seqg (W := Y2) [_, _, _, _, _, _] [_] rfl (by kernel_rfl) (by kernel_rfl) (by repeat (first | (with_reducible assumption) | (with_reducible exact Below.refl _ _) | (with_reducible refine Below.alloc ?_ (by first | omega | (simp; omega) | (simp; done) | (dsimp only; omega)) _) | (with_reducible refine Below.setCell ?_ (by first | omega | (simp; omega) | (simp; done) | (dsimp only; omega)) _) | (with_reducible refine Below.drew ?_) | (with_reducible refine Below.trans ?_ (Below.mono (by assumption) (by first | omega | (simp; omega) | (simp; done) | (dsimp only; omega)))))) (fun fin hfin => ?_)
      iterate 6
        first
          | (refine SeqG.yes (v := ?_) (A' := ?_) rfl (fun γ => by rfl) ?_ ?_ ?_
             rotate_left 2
             · intro γ w' K hS hK
               obtain ⟨hc, hf⟩ := bcell hS
               have hz := hS.size
               go_simp
               first
                 | exact hK.out _ (Below.refl _ _)
                 | trace_state
             · intro γ; simp only [Act.put, List.setIfInBounds_toArray, List.set_cons_zero, List.set_cons_succ]; exact rfl)
          | (refine SeqG.no (A' := ?_) rfl (fun γ => by rfl) ?_ ?_
             rotate_left
             · intro γ; simp only [Act.put, List.setIfInBounds_toArray, List.set_cons_zero, List.set_cons_succ]; exact rfl)
      refine SeqG.nil (hfin.out _ _ ?_)
      clear hfin fin
      intro γ lo hi w1 hB1 hF hD
      clear hD
      have HB1 := Lib.hid hB1
      have hs1 := hB1.size
      clear hF hB1
      refine TailL.cons (fun K hK => ?_)
      go_simp
      go_at_call 32
      with_reducible refine (HA.out _ HB1.out).mono ?_
      rintro e w2 ⟨rfl, hnew, htc⟩
      refine hK.out _ _ ?_
      clear hK K
      refine TailL.nil ?_
      have hTc : Touch fp1 Y2 w2 := (Touch.of_below HB1.out).trans htc (fun i hi => Or.inl hi)
      have kX := (hTc.block _ za (fun e => HNF.out _ (Nat.le_refl _) (Or.inl e))).trans Ka.out
      have kY := (hTc.block _ zb (fun e => HNF.out _ hyb (Or.inl e))).trans Kb.out
      have hm := (hTc.block _ zm (fun e => HNW.out (Or.inl e))).trans Km.out
      have HTY := Lib.hid (HTY.out.trans hTc (fun i hi => Or.inl (Or.inl hi)))
      clear a0 a1 b0 b1 m0 m1 za fa zb fb zm fm Ka Kb Km HA HB1 hs1 htc
      have hlp := hnew
      have hlq := hlq.kept hTc (fun i h1 h2 => HD.out i h2 h1)
      clear hnew hTc kX kY hm
      go_wp2_with fail
      go_roundw
      case rel =>
        refine ⟨k + 1, _, _, by omega, by go_num, hlp, hlq, fun a z => ?_, fun a z => ?_, HTY.out⟩
        · rw [mem_cutF, HP.out, HTK.out, List.mem_append, List.mem_singleton]
          constructor
          · rintro ⟨⟨h1, h2⟩, h3⟩
            exact ⟨h1, fun h => h.2.elim (fun e => h2 ⟨h.1, e⟩) (fun e => h3 ⟨h.1, e⟩)⟩
          · rintro ⟨h1, h2⟩
            exact ⟨⟨h1, fun h => h2 ⟨h.1, Or.inl h.2⟩⟩, fun h => h2 ⟨h.1, Or.inr h.2⟩⟩
        · rw [mem_cutF, HQ.out, HTK.out, List.mem_append, List.mem_singleton]
          constructor
          · rintro ⟨⟨h1, h2⟩, h3⟩
            exact ⟨h1, fun h => h.2.elim (fun e => h2 ⟨h.1, e⟩) (fun e => h3 ⟨e, h.1⟩)⟩
          · rintro ⟨h1, h2⟩
            exact ⟨⟨h1, fun h => h2 ⟨h.1, Or.inl h.2⟩⟩, fun h => h2 ⟨h.2, Or.inr h.1⟩⟩
      case measure => simp [RowKit.intOf]; omega
    · have ik : ¬ (k : Int) < l.length := by omega
      have hkl : l.take k = l := List.take_of_length_le (by omega)
      rw [hkl] at HP HQ
      have kX := (ht.block _ (blk_lt HKX.out) (HNF.out _ (Nat.le_refl _))).trans HKX.out
      have hm := (ht.block _ (blk_lt HKM.out) HNW.out).trans HKM.out
      have TV := Lib.hid (TV2.out.trans ht (fun i hi => Or.inl hi))
      have hml : ∀ z, z ∈ l ↔ z ∈ f X := fun z => by
        rw [← HL.out, mem_rowR]
        exact ⟨fun ⟨y, hy, e⟩ => by rw [e, HCL1.out X y hy]; exact hy, fun h => ⟨z, h, (HCL1.out X z h).symm⟩⟩
      clear ht hkl TV2 LP2 LQ2 HKX HKM HKR hgg
      go_upto_region 9 with fail
      have HSY2 := Lib.hid (show ∀ a b, b ∈ Q a ↔ a ∈ P b from fun a b => by
        rw [HQ.out, HP.out, ← HSY1.out]
        )
      have HF1 := Lib.hid (show ∀ a z, z ∈ P a ↔ z ∈ f a ∧ a ≠ X from fun a z => by
        rw [HP.out]
        refine and_congr_right fun hz => ?_
        rw [hml]
        exact ⟨fun h e => h ⟨e, by rw [← e]; exact hz⟩, fun h e => h e.1⟩)
      have HG1 := Lib.hid (show ∀ a z, z ∈ Q a ↔ z ∈ g a ∧ z ≠ X from fun a z => by
        rw [HQ.out]
        refine and_congr_right fun hz => ?_
        rw [hml, HSY1.out]
        exact ⟨fun h e => h ⟨e, by rw [← e]; exact hz⟩, fun h e => h e.1⟩)
      have HCL2 := Lib.hid (show ∀ a b, b ∈ Q a → b.cl = b from fun a b e => (HCLA.out b a ((HSY1.out b a).2 ((HG1.out a b).1 e).1)).1)
      have HM2 := Lib.hid (HM20.out (Q X) (hlq.nodup X) (fun z hz => ((HG1.out X z).1 hz).1))
      have LP := Lib.hid hlq
      have LQ := Lib.hid hlp
      clear hml hlp hlq HP HQ HSY1 HM1 HM20 HL HT hszr ik HCL1
      generalize P = f1 at *
      generalize Q = g1 at *
      generalize wr = V3 at *
      clear hk hlt
      have HR := Lib.hid (fun v (q : Below V3.heap.size V3 v) => links_row v r2 g1 fp2 X (LP.out.below q) HM2.out)
      have a0 := blk_cell kX 0
      have a1 := blk_cell kX 1
      have m0 := blk_cell hm 0
      have m1 := blk_cell hm 1
      simp only [List.getElem?_toArray, List.getElem?_cons_zero, List.getElem?_cons_succ] at a0 a1 m0 m1
      have za := blk_lt kX
      have fa := blk_free kX
      have Ka := Lib.hid kX
      have zm := blk_lt hm
      have fm := blk_free hm
      have Km := Lib.hid hm
      clear kX hm
      have HB : Below V3.heap.size V3 V3.drew := (Below.refl _ V3).drew
      refine wp_region_noPanic ?_
      refine wp_region_held_drew (S := fun w' => Below (V3.heap.size) V3 w') (by kernel_rfl) HB (fun _ => ?_)
      refine take_first 0 38 (.pointer (some ⟨W, 0, none⟩)) rfl rfl (by kernel_rfl) (by kernel_rfl) (by kernel_rfl) (fun _ _ _ h => h) (by rfl) (fun w' hS => ?_) (by assumption) ?_
      · have hc : ∀ b o, b < V3.heap.size → w'.cell? ⟨b, o, none⟩ = V3.cell? ⟨b, o, none⟩ := fun b o h => hS.cell (p := ⟨b, o, none⟩) h
        go_simp
      (try simp only [Act.put, List.setIfInBounds_toArray, List.set_cons_zero, List.set_cons_succ])
      refine take_first 1 39 (.pointer (some ⟨W, 0, none⟩)) rfl rfl (by kernel_rfl) (by kernel_rfl) (by kernel_rfl) (fun _ _ _ h => h) (by rfl) (fun w' hS => ?_) (by assumption) ?_
      · have hc : ∀ b o, b < V3.heap.size → w'.cell? ⟨b, o, none⟩ = V3.cell? ⟨b, o, none⟩ := fun b o h => hS.cell (p := ⟨b, o, none⟩) h
        go_simp
      (try simp only [Act.put, List.setIfInBounds_toArray, List.set_cons_zero, List.set_cons_succ])
      refine take_first 2 40 (.pointer (some ⟨W, 1, none⟩)) rfl rfl (by kernel_rfl) (by kernel_rfl) (by kernel_rfl) (fun _ _ _ h => h) (by rfl) (fun w' hS => ?_) (by assumption) ?_
      · have hc : ∀ b o, b < V3.heap.size → w'.cell? ⟨b, o, none⟩ = V3.cell? ⟨b, o, none⟩ := fun b o h => hS.cell (p := ⟨b, o, none⟩) h
        go_simp
      (try simp only [Act.put, List.setIfInBounds_toArray, List.set_cons_zero, List.set_cons_succ])
      refine take_first 3 41 (.map (some r2)) rfl rfl (by kernel_rfl) (by kernel_rfl) (by kernel_rfl) (fun _ _ _ h => h) (by rfl) (fun w' hS => ?_) (by assumption) ?_
      · have hc : ∀ b o, b < V3.heap.size → w'.cell? ⟨b, o, none⟩ = V3.cell? ⟨b, o, none⟩ := fun b o h => hS.cell (p := ⟨b, o, none⟩) h
        go_simp
      (try simp only [Act.put, List.setIfInBounds_toArray, List.set_cons_zero, List.set_cons_succ])
      refine take_first 4 42 (.agg #[encStr X.n, .int .i64 X.d]) rfl rfl (by kernel_rfl) (by kernel_rfl) (by kernel_rfl) (fun _ _ _ h => h) (by rfl) (fun w' hS => ?_) (by assumption) ?_
      · have hc : ∀ b o, b < V3.heap.size → w'.cell? ⟨b, o, none⟩ = V3.cell? ⟨b, o, none⟩ := fun b o h => hS.cell (p := ⟨b, o, none⟩) h
        go_simp
      (try simp only [Act.put, List.setIfInBounds_toArray, List.set_cons_zero, List.set_cons_succ])
      refine take_first 7 45 (.int .i64 0) rfl rfl (by kernel_rfl) (by kernel_rfl) (by kernel_rfl) (fun _ _ _ h => h) (by rfl) (fun w' hS => ?_) (by assumption) ?_
      · have hc : ∀ b o, b < V3.heap.size → w'.cell? ⟨b, o, none⟩ = V3.cell? ⟨b, o, none⟩ := fun b o h => hS.cell (p := ⟨b, o, none⟩) h
        go_simp
      (try simp only [Act.put, List.setIfInBounds_toArray, List.set_cons_zero, List.set_cons_succ])
      refine wpAnyH_ready (rs := [5]) (by kernel_rfl) (by simp) ?_
      refine AllReadyH.cons rfl (fun K hK => ?_) AllReadyH.nil
      go_simp
      go_at_call 25
      refine (HR.out V3.drew HB).mono ?_
      rintro e x5 ⟨⟨gg, n, N, rfl, ho⟩, hb⟩
      have hn := ho.1
      subst hn
      have HKR := Lib.hid ho.krow
      have hgg : w.heap.size ≤ gg := by have h1 := (ho.2.2.lt gg rfl).1; have h2 := TV.out.size; have h3 := HB.size; omega
      clear ho
      replace HB := HB.trans (hb.mono HB.size)
      clear hb
      refine hK.out _ _ HB (fun _ => ?_)
      clear hK K
      (try simp only [Act.put, List.setIfInBounds_toArray, List.set_cons_zero, List.set_cons_succ])
      refine take_first 6 44 (.int .i64 (rowR (g1 X)).length) rfl rfl (by kernel_rfl) (by kernel_rfl) (by kernel_rfl) (fun _ _ _ h => h) (by rfl) (fun w' hS => ?_) (by assumption) ?_
      · have hc : ∀ b o, b < V3.heap.size → w'.cell? ⟨b, o, none⟩ = V3.cell? ⟨b, o, none⟩ := fun b o h => hS.cell (p := ⟨b, o, none⟩) h
        go_simp
      (try simp only [Act.put, List.setIfInBounds_toArray, List.set_cons_zero, List.set_cons_succ])
      refine wpAnyH_done (by kernel_rfl) (NoPanic.normal ?_) _
      have HB2 := Lib.hid HB
      clear HB
      generalize x5 = w2 at *
      have kX := (HB2.out.block _ za).trans Ka.out
      have hm := (HB2.out.block _ zm).trans Km.out
      have hsV := HB2.out.size
      have LP2 := Lib.hid (LP.out.below HB2.out)
      have LQ2 := Lib.hid (LQ.out.below HB2.out)
      have TV2 := Lib.hid (TV.out.trans (Touch.of_below (fp := fun i => fp1 i ∨ fp2 i) HB2.out) (fun i hi => Or.inl hi))
      clear a0 a1 m0 m1 za fa zm fm LP LQ TV HB2 HR Ka Km
      have HKX := Lib.hid kX
      have HKM := Lib.hid hm
      clear kX hm
      generalize hl : rowR (g1 X) = l at *
      have HLL := Lib.hid (show l.length * 24 ≤ 140737488355328 by have h1 := rowR_len (g1 X); have h2 := HM2.out; rw [hl] at h1; omega)
      have HL := Lib.hid hl
      clear hl
      generalize w2 = Z at *
      have HWZ := Lib.hid (show w.heap.size ≤ Z.heap.size by have := TV2.out.size; omega)
      go_wp2_with fail
      go_loopw [45] (fun v45 wr => ∃ (k : Nat) (P Q : Ky → List Ky), k ≤ l.length ∧ v45 = .int .i64 k ∧ LinksAt wr r2 P fp2 ∧ LinksAt wr r1 Q fp1 ∧ (∀ a z, z ∈ P a ↔ z ∈ g1 a ∧ ¬ (a = X ∧ z ∈ l.take k)) ∧ (∀ a z, z ∈ Q a ↔ z ∈ f1 a ∧ ¬ (z = X ∧ a ∈ l.take k)) ∧ Touch (fun i => fp1 i ∨ fp2 i) Z wr) (fun v45 _ => l.length - (RowKit.intOf v45).toNat)
      case atStart => exact ⟨0, g1, f1, Nat.zero_le _, rfl, LP2.out, LQ2.out, fun a z => by simp, fun a z => by simp, Touch.refl _ _⟩
      case round =>
        obtain ⟨k, P, Q, hk, rfl, hlp, hlq, hP, hQ, ht⟩ := hrel
        have HP := Lib.hid hP
        have HQ := Lib.hid hQ
        have HT := Lib.hid ht
        have hszr := ht.size
        clear hP hQ
        by_cases hlt : k < l.length
        · have ik : (k : Int) < l.length := by omega
          have ik2 : l.length * 24 ≤ 140737488355328 := HLL.out
          obtain ⟨bb, oo, he, hz, c0, c1⟩ := (HKR.out.touch ht (fun a e => by cases e; exact HNF.out gg hgg)).get hlt
          have kX := (ht.block _ (blk_lt HKX.out) (HNF.out _ (Nat.le_refl _))).trans HKX.out
          have hm := (ht.block _ (blk_lt HKM.out) HNW.out).trans HKM.out
          cases he
          rw [Nat.zero_add] at c0 c1
          have HTK := Lib.hid (List.take_succ_eq_append_getElem hlt)
          have HMY := Lib.hid (show l[k] ∈ g1 X ∧ l[k] ∉ l.take k by
            refine ⟨?_, ?_⟩
            · have h1 : l[k] ∈ rowR (g1 X) := by rw [HL.out]; exact List.getElem_mem _
              obtain ⟨y, hy, e⟩ := mem_rowR.1 h1
              rw [e, HCL2.out X y hy]; exact hy
            · have := HL.out
              subst this
              exact mem_take_row _ hlt)
          clear ht
          generalize l[k] = y at *
          go_upto_region 12 with fail
          have kY := al_new wr (.cells #[encStr y.n, .int .i64 y.d] 24) rfl
          have hbY : Below wr.heap.size wr (wr.alloc (.cells #[encStr y.n, .int .i64 y.d] 24)) := (Below.refl _ wr).alloc (Nat.le_refl _) _
          have kX := (hbY.block _ (blk_lt kX)).trans kX
          have hm := (hbY.block _ (blk_lt hm)).trans hm
          have hlp := hlp.below hbY
          have hlq := hlq.below hbY
          have HTY := Lib.hid (HT.out.trans (Touch.of_below (fp := fun i => fp1 i ∨ fp2 i) hbY) (fun i hi => Or.inl hi))
          clear hbY c0 c1
          unfold encStr at kY kX hm hlp hlq HTY
          have hyb : w.heap.size ≤ wr.heap.size := by have := HWZ.out; omega
          generalize wr.alloc (.cells #[.string ⟨y.n.toArray⟩, .int .i64 y.d] 24) = Y at *
          have HA := Lib.hid (fun v (q : Below Y.heap.size Y v) => links_cut v r1 Q fp1 y X (hlq.below q) ((HQ.out y X).2 ⟨(HSY2.out X y).1 HMY.out.1, fun h => HMY.out.2 h.2⟩))
          have a0 := blk_cell kX 0
          have a1 := blk_cell kX 1
          have b0 := blk_cell kY 0
          have b1 := blk_cell kY 1
          have m0 := blk_cell hm 0
          have m1 := blk_cell hm 1
          simp only [List.getElem?_toArray, List.getElem?_cons_zero, List.getElem?_cons_succ] at a0 a1 b0 b1 m0 m1
          have za := blk_lt kX
          have fa := blk_free kX
          have Ka := Lib.hid kX
          have zb := blk_lt kY
          have fb := blk_free kY
          have Kb := Lib.hid kY
          have zm := blk_lt hm
          have fm := blk_free hm
          have Km := Lib.hid hm
          clear kX kY hm
          skip
          refine region_seqg (W := Y) [_, _, _, _, _, _] [_] rfl (by kernel_rfl) (by kernel_rfl) (by repeat (first | (with_reducible assumption) | (with_reducible exact Below.refl _ _) | (with_reducible refine Below.alloc ?_ (by first | omega | (simp; omega) | (simp; done) | (dsimp only; omega)) _) | (with_reducible refine Below.setCell ?_ (by first | omega | (simp; omega) | (simp; done) | (dsimp only; omega)) _) | (with_reducible refine Below.drew ?_) | (with_reducible refine Below.trans ?_ (Below.mono (by assumption) (by first | omega | (simp; omega) | (simp; done) | (dsimp only; omega)))))) (fun fin hfin => ?_)
          iterate 6
            first
              | (refine SeqG.yes (v := ?_) (A' := ?_) rfl (fun γ => by rfl) ?_ ?_ ?_
                 rotate_left 2
                 · intro γ w' K hS hK
                   obtain ⟨hc, hf⟩ := bcell hS
                   have hz := hS.size
                   go_simp
                   first
                     | exact hK.out _ (Below.refl _ _)
                     | trace_state
                 · intro γ; simp only [Act.put, List.setIfInBounds_toArray, List.set_cons_zero, List.set_cons_succ]; exact rfl)
              | (refine SeqG.no (A' := ?_) rfl (fun γ => by rfl) ?_ ?_
                 rotate_left
                 · intro γ; simp only [Act.put, List.setIfInBounds_toArray, List.set_cons_zero, List.set_cons_succ]; exact rfl)
          refine SeqG.nil (hfin.out _ _ ?_)
          clear hfin fin
          intro γ lo hi w1 hB1 hF hD
          clear hD
          have HB1 := Lib.hid hB1
          have hs1 := hB1.size
          clear hF hB1
          refine TailL.cons (fun K hK => ?_)
          go_simp
          go_at_call 32
          with_reducible refine (HA.out _ HB1.out).mono ?_
          rintro e w2 ⟨rfl, hnew, htc⟩
          refine hK.out _ _ ?_
          clear hK K
          refine TailL.nil ?_
          have hTc : Touch fp1 Y w2 := (Touch.of_below HB1.out).trans htc (fun i hi => Or.inl hi)
          have kX := (hTc.block _ za (fun e => HNF.out _ (Nat.le_refl _) (Or.inl e))).trans Ka.out
          have kY := (hTc.block _ zb (fun e => HNF.out _ hyb (Or.inl e))).trans Kb.out
          have hm := (hTc.block _ zm (fun e => HNW.out (Or.inl e))).trans Km.out
          have HTY := Lib.hid (HTY.out.trans hTc (fun i hi => Or.inl (Or.inl hi)))
          clear a0 a1 b0 b1 m0 m1 za fa zb fb zm fm Ka Kb Km HA HB1 hs1 htc
          have hlq := hnew
          have hlp := hlp.kept hTc (fun i h1 h2 => HD.out i h2 h1)
          clear hnew hTc
          generalize w2 = Y2 at *
          have HA := Lib.hid (fun v (q : Below Y2.heap.size Y2 v) => links_cut v r2 P fp2 X y (hlp.below q) ((HP.out X y).2 ⟨HMY.out.1, fun h => HMY.out.2 h.2⟩))
          have a0 := blk_cell kX 0
          have a1 := blk_cell kX 1
          have b0 := blk_cell kY 0
          have b1 := blk_cell kY 1
          have m0 := blk_cell hm 0
          have m1 := blk_cell hm 1
          simp only [List.getElem?_toArray, List.getElem?_cons_zero, List.getElem?_cons_succ] at a0 a1 b0 b1 m0 m1
          have za := blk_lt kX
          have fa := blk_free kX
          have Ka := Lib.hid kX
          have zb := blk_lt kY
          have fb := blk_free kY
          have Kb := Lib.hid kY
          have zm := blk_lt hm
          have fm := blk_free hm
          have Km := Lib.hid hm
          clear kX kY hm
          go_upto_region 13 with fail
          refine region_seqg (W := Y2) [_, _, _, _, _, _] [_] rfl (by kernel_rfl) (by kernel_rfl) (by repeat (first | (with_reducible assumption) | (with_reducible exact Below.refl _ _) | (with_reducible refine Below.alloc ?_ (by first | omega | (simp; omega) | (simp; done) | (dsimp only; omega)) _) | (with_reducible refine Below.setCell ?_ (by first | omega | (simp; omega) | (simp; done) | (dsimp only; omega)) _) | (with_reducible refine Below.drew ?_) | (with_reducible refine Below.trans ?_ (Below.mono (by assumption) (by first | omega | (simp; omega) | (simp; done) | (dsimp only; omega)))))) (fun fin hfin => ?_)
          iterate 6
            first
              | (refine SeqG.yes (v := ?_) (A' := ?_) rfl (fun γ => by rfl) ?_ ?_ ?_
                 rotate_left 2
                 · intro γ w' K hS hK
                   obtain ⟨hc, hf⟩ := bcell hS
                   have hz := hS.size
                   go_simp
                   first
                     | exact hK.out _ (Below.refl _ _)
                     | trace_state
                 · intro γ; simp only [Act.put, List.setIfInBounds_toArray, List.set_cons_zero, List.set_cons_succ]; exact rfl)
              | (refine SeqG.no (A' := ?_) rfl (fun γ => by rfl) ?_ ?_
                 rotate_left
                 · intro γ; simp only [Act.put, List.setIfInBounds_toArray, List.set_cons_zero, List.set_cons_succ]; exact rfl)
          refine SeqG.nil (hfin.out _ _ ?_)
          clear hfin fin
          intro γ lo hi w1 hB1 hF hD
          clear hD
          have HB1 := Lib.hid hB1
          have hs1 := hB1.size
          clear hF hB1
          refine TailL.cons (fun K hK => ?_)
          go_simp
          go_at_call 32
          with_reducible refine (HA.out _ HB1.out).mono ?_
          rintro e w2 ⟨rfl, hnew, htc⟩
          refine hK.out _ _ ?_
          clear hK K
          refine TailL.nil ?_
          have hTc : Touch fp2 Y2 w2 := (Touch.of_below HB1.out).trans htc (fun i hi => Or.inl hi)
          have kX := (hTc.block _ za (fun e => HNF.out _ (Nat.le_refl _) (Or.inr e))).trans Ka.out
          have kY := (hTc.block _ zb (fun e => HNF.out _ hyb (Or.inr e))).trans Kb.out
          have hm := (hTc.block _ zm (fun e => HNW.out (Or.inr e))).trans Km.out
          have HTY := Lib.hid (HTY.out.trans hTc (fun i hi => Or.inl (Or.inr hi)))
          clear a0 a1 b0 b1 m0 m1 za fa zb fb zm fm Ka Kb Km HA HB1 hs1 htc
          have hlp := hnew
          have hlq := hlq.kept hTc (fun i h1 h2 => HD.out i h1 h2)
          clear hnew hTc kX kY hm
          go_wp2_with fail
          go_roundw
          case rel =>
            refine ⟨k + 1, _, _, by omega, by go_num, hlp, hlq, fun a z => ?_, fun a z => ?_, HTY.out⟩
            · rw [mem_cutF, HP.out, HTK.out, List.mem_append, List.mem_singleton]
              constructor
              · rintro ⟨⟨h1, h2⟩, h3⟩
                exact ⟨h1, fun h => h.2.elim (fun e => h2 ⟨h.1, e⟩) (fun e => h3 ⟨h.1, e⟩)⟩
              · rintro ⟨h1, h2⟩
                exact ⟨⟨h1, fun h => h2 ⟨h.1, Or.inl h.2⟩⟩, fun h => h2 ⟨h.1, Or.inr h.2⟩⟩
            · rw [mem_cutF, HQ.out, HTK.out, List.mem_append, List.mem_singleton]
              constructor
              · rintro ⟨⟨h1, h2⟩, h3⟩
                exact ⟨h1, fun h => h.2.elim (fun e => h2 ⟨h.1, e⟩) (fun e => h3 ⟨e, h.1⟩)⟩
              · rintro ⟨h1, h2⟩
                exact ⟨⟨h1, fun h => h2 ⟨h.1, Or.inl h.2⟩⟩, fun h => h2 ⟨h.2, Or.inr h.1⟩⟩
          case measure => simp [RowKit.intOf]; omega
        · have ik : ¬ (k : Int) < l.length := by omega
          have hkl : l.take k = l := List.take_of_length_le (by omega)
          rw [hkl] at HP HQ
          have kX := (ht.block _ (blk_lt HKX.out) (HNF.out _ (Nat.le_refl _))).trans HKX.out
          have hm := (ht.block _ (blk_lt HKM.out) HNW.out).trans HKM.out
          have TV := Lib.hid (TV2.out.trans ht (fun i hi => Or.inl hi))
          have hml : ∀ z, z ∈ l ↔ z ∈ g1 X := fun z => by
            rw [← HL.out, mem_rowR]
            exact ⟨fun ⟨y, hy, e⟩ => by rw [e, HCL2.out X y hy]; exact hy, fun h => ⟨z, h, (HCL2.out X z h).symm⟩⟩
          clear ht hkl TV2 LP2 LQ2 HKX HKM HKR hgg
          go_wp2_with fail
          go_end0
          refine ⟨rfl, Q, P, ⟨r1, r2, hm, hlq, hlp, HD.out, fun e => HNW.out (Or.inl e), fun e => HNW.out (Or.inr e)⟩, fun a z => ?_, fun a z => ?_, TV.out⟩
          · rw [HQ.out, HF1.out]
            refine ⟨fun h => ⟨h.1.1, h.1.2, fun e => h.2 ⟨e, (hml a).2 ((HSY2.out X a).2 ?_)⟩⟩, fun h => ⟨⟨h.1, h.2.1⟩, fun e => h.2.2 e.1⟩⟩
            rw [HF1.out]; rw [e] at h; exact h.1
          · rw [HP.out, HG1.out]
            refine ⟨fun h => ⟨h.1.1, fun e => h.2 ⟨e, (hml z).2 (by rw [← e, HG1.out]; exact h.1)⟩, h.1.2⟩, fun h => ⟨⟨h.1, h.2.2⟩, fun e => h.2.1 e.1⟩⟩
end Go.Proofs.Ytkmpkhbahmehmaa
