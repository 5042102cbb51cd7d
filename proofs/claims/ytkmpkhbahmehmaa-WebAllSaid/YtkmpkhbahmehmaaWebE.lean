/- X-PARTIAL A web: made, added to, cleared, asked: layer 29. -/
import Derived.Test.YtkmpkhbahmehmaaWebD
import Derived.Test.YtkmpkhbahmehmaaWebN
import Derived.Test.YtkmpkhbahmehmaaSeqg
namespace Go.Proofs.Ytkmpkhbahmehmaa
open Go.RowKit Go.Lib

/-- A web in a block: what hangs on what (f), and back (g). -/
def WebAt (w : World) (W : Nat) (f g : Ky → List Ky) (fp1 fp2 : Nat → Prop) : Prop :=
  ∃ r1 r2, w.heap[W]? = some (.cells #[.map (some r1), .map (some r2)] 46) ∧ LinksAt w r1 f fp1 ∧ LinksAt w r2 g fp2 ∧ (∀ i, fp1 i → ¬ fp2 i) ∧ ¬ fp1 W ∧ ¬ fp2 W
theorem LinksAt.below {w w' : World} {r : Nat} {f : Ky → List Ky} {fp : Nat → Prop} (h : LinksAt w r f fp) (hb : Below w.heap.size w w') : LinksAt w' r f fp := h.kept (Touch.of_below (fp := fun _ => False) hb) (fun _ _ e => e)
theorem WebAt.kept {w w' : World} {W : Nat} {f g : Ky → List Ky} {fp1 fp2 fp : Nat → Prop} (h : WebAt w W f g fp1 fp2) (ht : Touch fp w w') (h1 : ∀ i, fp1 i → ¬ fp i) (h2 : ∀ i, fp2 i → ¬ fp i) (h3 : ¬ fp W) : WebAt w' W f g fp1 fp2 := by
  obtain ⟨r1, r2, hb, hl1, hl2, hd, hn1, hn2⟩ := h
  exact ⟨r1, r2, (ht.block W (blk_lt hb) h3).trans hb, hl1.kept ht h1, hl2.kept ht h2, hd, hn1, hn2⟩
theorem WebAt.below {w w' : World} {W : Nat} {f g : Ky → List Ky} {fp1 fp2 : Nat → Prop} (h : WebAt w W f g fp1 fp2) (hb : Below w.heap.size w w') : WebAt w' W f g fp1 fp2 :=
  h.kept (Touch.of_below (fp := fun _ => False) hb) (fun _ _ e => e) (fun _ _ e => e) (fun e => e)

set_option maxRecDepth 100000 in
theorem web_new (w : World) : Calls Try.prog 7 #[] w fun e w' => (∃ W fp1 fp2, e = .returned (.pointer (some ⟨W, 0, none⟩)) ∧ WebAt w' W (fun _ => []) (fun _ => []) fp1 fp2 ∧ w.heap.size ≤ W ∧ (∀ i, fp1 i → w.heap.size ≤ i) ∧ (∀ i, fp2 i → w.heap.size ≤ i)) ∧ Below w.heap.size w w' := by
  have hmm := @run_makeMap Try.prog
  go_enter Try.func7, Try.ntmps7
  go_wp2_with fail
  go_ret
  have e1 : ((w.alloc (.map #[] 0)).alloc (.map #[] 0)).heap.size = w.heap.size + 1 + 1 := by rw [al_size, al_size]
  refine ⟨⟨_, fun i => i = w.heap.size, fun i => i = w.heap.size + 1, rfl, ⟨w.heap.size, w.heap.size + 1, ?_, ?_, ?_, fun i h1 h2 => by omega, by omega, by omega⟩, by omega, fun i hi => by omega, fun i hi => by omega⟩, (by repeat (first | (with_reducible assumption) | (with_reducible exact Below.refl _ _) | (with_reducible refine Below.alloc ?_ (by first | omega | (simp; omega) | (simp; done) | (dsimp only; omega)) _) | (with_reducible refine Below.setCell ?_ (by first | omega | (simp; omega) | (simp; done) | (dsimp only; omega)) _) | (with_reducible refine Below.drew ?_) | (with_reducible refine Below.trans ?_ (Below.mono (by assumption) (by first | omega | (simp; omega) | (simp; done) | (dsimp only; omega))))))⟩
  · exact al3_2 w _ _ _
  · refine ⟨#[], 0, [], al3_0 w _ _ _, mapE_nil _ _, rfl, fun i hi => ?_, fun a v h => (by cases h), fun a _ => rfl, fun a a' b h => (by cases h)⟩
    rw [al_size, al_size, al_size]; omega
  · refine ⟨#[], 0, [], al3_1 w _ _ _, mapE_nil _ _, rfl, fun i hi => ?_, fun a v h => (by cases h), fun a _ => rfl, fun a a' b h => (by cases h)⟩
    rw [al_size, al_size, al_size]; omega

set_option maxRecDepth 100000 in
set_option maxHeartbeats 2000000 in
theorem web_add (w : World) (W : Nat) (f g : Ky → List Ky) (fp1 fp2 : Nat → Prop) (x y : Ky) (h : WebAt w W f g fp1 fp2) :
    Calls Try.prog 19 #[.pointer (some ⟨W, 0, none⟩), .agg #[encStr x.n, .int .i64 x.d], .agg #[encStr y.n, .int .i64 y.d]] w fun e w' => e = .returned (.tuple #[]) ∧
      ∃ q1 q2, WebAt w' W (addF f x.cl y.cl) (addF g y.cl x.cl) q1 q2 ∧ (∀ i, q1 i → fp1 i ∨ w.heap.size ≤ i) ∧ (∀ i, q2 i → fp2 i ∨ w.heap.size ≤ i) ∧ Touch (fun i => fp1 i ∨ fp2 i) w w' := by
  obtain ⟨r1, r2, hb, hl1, hl2, hd, hn1, hn2⟩ := h
  have HWL := Lib.hid (blk_lt hb)
  have HD := Lib.hid hd
  have HN1 := Lib.hid hn1
  have HN2 := Lib.hid hn2
  have HL1 := Lib.hid hl1
  have HL2 := Lib.hid hl2
  have HCX := Lib.hid (key_Clean x)
  have HCY := Lib.hid (key_Clean y)
  clear hd hn1 hn2 hl1 hl2
  generalize x.cl = X at *
  generalize y.cl = Y at *
  go_enter Try.func19, Try.ntmps19
  go_upto_region 2 with fail
  have ka := al2_0 w (.cells #[encStr x.n, .int .i64 x.d] 24) (.cells #[encStr y.n, .int .i64 y.d] 24)
  have kb := al2_1 w (.cells #[encStr x.n, .int .i64 x.d] 24) (.cells #[encStr y.n, .int .i64 y.d] 24)
  have hV : Below w.heap.size w ((w.alloc (.cells #[encStr x.n, .int .i64 x.d] 24)).alloc (.cells #[encStr y.n, .int .i64 y.d] 24)) := ((Below.refl _ w).alloc (Nat.le_refl _) _).alloc (by simp) _
  generalize (w.alloc (.cells #[encStr x.n, .int .i64 x.d] 24)).alloc (.cells #[encStr y.n, .int .i64 y.d] 24) = V at *
  have a0 := blk_cell ka 0
  have a1 := blk_cell ka 1
  have b0 := blk_cell kb 0
  have b1 := blk_cell kb 1
  simp only [List.getElem?_toArray, List.getElem?_cons_zero, List.getElem?_cons_succ] at a0 a1 b0 b1
  have za := blk_lt ka
  have zb := blk_lt kb
  have fa := blk_free ka
  have fb := blk_free kb
  have KA := Lib.hid ka
  have KB := Lib.hid kb
  clear ka kb
  refine region_seqg (W := V) [_, _, _, _] [_, _] rfl (by kernel_rfl) (by kernel_rfl) (by repeat (first | (with_reducible assumption) | (with_reducible exact Below.refl _ _) | (with_reducible refine Below.alloc ?_ (by first | omega | (simp; omega) | (simp; done) | (dsimp only; omega)) _) | (with_reducible refine Below.setCell ?_ (by first | omega | (simp; omega) | (simp; done) | (dsimp only; omega)) _) | (with_reducible refine Below.drew ?_) | (with_reducible refine Below.trans ?_ (Below.mono (by assumption) (by first | omega | (simp; omega) | (simp; done) | (dsimp only; omega)))))) (fun fin hfin => ?_)
  iterate 4
    first
      | (refine SeqG.yes (v := ?_) (A' := ?_) rfl (fun γ => by rfl) ?_ ?_ ?_
         rotate_left 2
         · intro γ w' K hS hK
           obtain ⟨hc, hf⟩ := bcell hS
           have hz := hS.size
           go_simp
           first
             | exact hK.out _ (Below.refl _ _)
             | (go_at_call 26; (with_reducible refine (HCX.out _).mono ?_); rintro e w1 ⟨rfl, hb1⟩; exact hK.out _ hb1)
             | (go_at_call 26; (with_reducible refine (HCY.out _).mono ?_); rintro e w1 ⟨rfl, hb1⟩; exact hK.out _ hb1)
             | trace_state
         · intro γ; simp only [Act.put, List.setIfInBounds_toArray, List.set_cons_zero, List.set_cons_succ]; exact rfl)
      | (refine SeqG.no (A' := ?_) rfl (fun γ => by rfl) ?_ ?_
         rotate_left
         · intro γ; simp only [Act.put, List.setIfInBounds_toArray, List.set_cons_zero, List.set_cons_succ]; exact rfl)
  refine SeqG.nil (hfin.out _ _ ?_)
  clear hfin fin
  intro γ lo hi w1 hB1 hF hD
  clear hD
  obtain ⟨hc, hf⟩ := bcell hB1
  have hz := hB1.size
  refine TailL.cons (fun K hK => ?_)
  go_simp
  refine hK.out _ _ ?_
  clear hK K
  refine TailL.cons (fun K hK => ?_)
  go_simp
  refine hK.out _ _ ?_
  clear hK K
  refine TailL.nil ?_
  generalize hX : (((w1.setCell ⟨w.heap.size, 0, none⟩ (encStr X.n)).setCell ⟨w.heap.size, 1, none⟩ (.int .i64 X.d)).setCell ⟨w.heap.size + 1, 0, none⟩ (encStr Y.n)).setCell ⟨w.heap.size + 1, 1, none⟩ (.int .i64 Y.d) = V2
  have kX : V2.heap[w.heap.size]? = some (.cells #[encStr X.n, .int .i64 X.d] 24) := by
    rw [← hX]
    iterate 2 (refine (Below.heap_setCell _ _ _ _ (by dsimp only; omega)).trans ?_)
    refine blk_set2 (c0 := encStr x.n) (c1 := .int .i64 x.d) ?_
    rw [hB1.block _ za]; exact KA.out
  have kY : V2.heap[w.heap.size + 1]? = some (.cells #[encStr Y.n, .int .i64 Y.d] 24) := by
    rw [← hX]
    refine blk_set2 (c0 := encStr y.n) (c1 := .int .i64 y.d) ?_
    iterate 2 (refine (Below.heap_setCell _ _ _ _ (by dsimp only; omega)).trans ?_)
    rw [hB1.block _ zb]; exact KB.out
  have hV2 : Below w.heap.size w V2 := by
    rw [← hX]
    exact ((((hV.trans (hB1.mono hV.size)).setCell (Nat.le_refl _) _).setCell (Nat.le_refl _) _).setCell (Nat.le_succ _) _).setCell (Nat.le_succ _) _
  have hm := (hV2.block W (blk_lt hb)).trans hb
  clear hX hB1 hc hf hz hF za zb a0 a1 b0 b1 fa fb KA KB HCX HCY hV hb
  have HV2 := Lib.hid hV2
  have HA := Lib.hid (fun v (q : Below V2.heap.size V2 v) => links_add v r1 f fp1 X Y ((HL1.out.below hV2).below q))
  have a0 := blk_cell kX 0
  have a1 := blk_cell kX 1
  have b0 := blk_cell kY 0
  have b1 := blk_cell kY 1
  have m0 := blk_cell hm 0
  have m1 := blk_cell hm 1
  simp only [List.getElem?_toArray, List.getElem?_cons_zero, List.getElem?_cons_succ] at a0 a1 b0 b1 m0 m1
  have za := blk_lt kX
  have zb := blk_lt kY
  have zm := blk_lt hm
  have fa := blk_free kX
  have fb := blk_free kY
  have fm := blk_free hm
  have KX := Lib.hid kX
  have KY := Lib.hid kY
  have HM := Lib.hid hm
  clear kX kY hm
  have hV2 := HV2.out
  have hs0 := hV2.size
  clear hV2
  go_upto_region 3 with fail
  refine region_seqg (W := V2) [_, _, _, _, _, _] [_] rfl (by kernel_rfl) (by kernel_rfl) (by repeat (first | (with_reducible assumption) | (with_reducible exact Below.refl _ _) | (with_reducible refine Below.alloc ?_ (by first | omega | (simp; omega) | (simp; done) | (dsimp only; omega)) _) | (with_reducible refine Below.setCell ?_ (by first | omega | (simp; omega) | (simp; done) | (dsimp only; omega)) _) | (with_reducible refine Below.drew ?_) | (with_reducible refine Below.trans ?_ (Below.mono (by assumption) (by first | omega | (simp; omega) | (simp; done) | (dsimp only; omega)))))) (fun fin hfin => ?_)
  iterate 6
    first
      | (refine SeqG.yes (v := ?_) (A' := ?_) rfl (fun γ => by rfl) ?_ ?_ ?_
         rotate_left 2
         · intro γ w' K hS hK
           obtain ⟨hc, hf⟩ := bcell hS
           have hz := hS.size
           go_simp
           first
             | exact hK.out _ (Below.refl _ _)
             | trace_state
         · intro γ; simp only [Act.put, List.setIfInBounds_toArray, List.set_cons_zero, List.set_cons_succ]; exact rfl)
      | (refine SeqG.no (A' := ?_) rfl (fun γ => by rfl) ?_ ?_
         rotate_left
         · intro γ; simp only [Act.put, List.setIfInBounds_toArray, List.set_cons_zero, List.set_cons_succ]; exact rfl)
  refine SeqG.nil (hfin.out _ _ ?_)
  clear hfin fin
  intro γ lo hi w1 hB1 hF hD
  clear hD
  have HB1 := Lib.hid hB1
  obtain ⟨hc, hf⟩ := bcell hB1
  have hz := hB1.size
  clear hF
  refine TailL.cons (fun K hK => ?_)
  go_simp
  go_at_call 31
  with_reducible refine (HA.out _ HB1.out).mono ?_
  rintro e w2 ⟨rfl, q1, hq, hs, ht⟩
  refine hK.out _ _ ?_
  clear hK K
  refine TailL.nil ?_
  have hw2 : Touch fp1 V2 w2 := (Touch.of_below HB1.out).trans ht (fun i hi => Or.inl hi)
  have kX := (hw2.block _ za (fun e => by have := HL1.out.lt _ e; omega)).trans KX.out
  have kY := (hw2.block _ zb (fun e => by have := HL1.out.lt _ e; omega)).trans KY.out
  have hm := (hw2.block _ zm HN1.out).trans HM.out
  have hl2 : LinksAt w2 r2 g fp2 := (HL2.out.below HV2.out).kept hw2 (fun i h2 h1 => HD.out i h1 h2)
  have HQ := Lib.hid hq
  have HS := Lib.hid (show ∀ i, q1 i → fp1 i ∨ w.heap.size ≤ i from fun i hi => by
    rcases hs i hi with h | h
    · exact Or.inl h
    · exact Or.inr (by omega))
  have HT1 := Lib.hid (show Touch fp1 w w2 from (Touch.of_below HV2.out).trans hw2 (fun i hi => Or.inl hi))
  have HB := Lib.hid (fun v (q : Below w2.heap.size w2 v) => links_add v r2 g fp2 Y X (hl2.below q))
  have hs2 : w.heap.size ≤ w2.heap.size := HT1.out.size
  clear hq hs ht hw2 hl2 za zb zm fa fb fm a0 a1 b0 b1 m0 m1 KX KY HM hc hf hz hB1 HB1 HV2 HA hs0
  have a0 := blk_cell kX 0
  have a1 := blk_cell kX 1
  have b0 := blk_cell kY 0
  have b1 := blk_cell kY 1
  have m0 := blk_cell hm 0
  have m1 := blk_cell hm 1
  simp only [List.getElem?_toArray, List.getElem?_cons_zero, List.getElem?_cons_succ] at a0 a1 b0 b1 m0 m1
  have za := blk_lt kX
  have zb := blk_lt kY
  have zm := blk_lt hm
  have fa := blk_free kX
  have fb := blk_free kY
  have fm := blk_free hm
  have KX := Lib.hid kX
  have KY := Lib.hid kY
  have HM := Lib.hid hm
  clear kX kY hm
  clear hV2
  generalize w2 = V3 at *
  go_upto_region 4 with fail
  refine region_seqg (W := V3) [_, _, _, _, _, _] [_] rfl (by kernel_rfl) (by kernel_rfl) (by repeat (first | (with_reducible assumption) | (with_reducible exact Below.refl _ _) | (with_reducible refine Below.alloc ?_ (by first | omega | (simp; omega) | (simp; done) | (dsimp only; omega)) _) | (with_reducible refine Below.setCell ?_ (by first | omega | (simp; omega) | (simp; done) | (dsimp only; omega)) _) | (with_reducible refine Below.drew ?_) | (with_reducible refine Below.trans ?_ (Below.mono (by assumption) (by first | omega | (simp; omega) | (simp; done) | (dsimp only; omega)))))) (fun fin hfin => ?_)
  iterate 6
    first
      | (refine SeqG.yes (v := ?_) (A' := ?_) rfl (fun γ => by rfl) ?_ ?_ ?_
         rotate_left 2
         · intro γ w' K hS hK
           obtain ⟨hc, hf⟩ := bcell hS
           have hz := hS.size
           go_simp
           first
             | exact hK.out _ (Below.refl _ _)
             | trace_state
         · intro γ; simp only [Act.put, List.setIfInBounds_toArray, List.set_cons_zero, List.set_cons_succ]; exact rfl)
      | (refine SeqG.no (A' := ?_) rfl (fun γ => by rfl) ?_ ?_
         rotate_left
         · intro γ; simp only [Act.put, List.setIfInBounds_toArray, List.set_cons_zero, List.set_cons_succ]; exact rfl)
  refine SeqG.nil (hfin.out _ _ ?_)
  clear hfin fin
  intro γ lo hi w1 hB1 hF hD
  clear hD
  have HB1 := Lib.hid hB1
  obtain ⟨hc, hf⟩ := bcell hB1
  have hz := hB1.size
  clear hF
  refine TailL.cons (fun K hK => ?_)
  go_simp
  go_at_call 31
  with_reducible refine (HB.out _ HB1.out).mono ?_
  rintro e w2 ⟨rfl, q2, hq2, hs2', ht2⟩
  refine hK.out _ _ ?_
  clear hK K
  refine TailL.nil ?_
  have hw3 : Touch fp2 V3 w2 := (Touch.of_below HB1.out).trans ht2 (fun i hi => Or.inl hi)
  have hl1 : LinksAt w2 r1 (addF f X Y) q1 := HQ.out.kept hw3 (fun i h1 h2 => by
    rcases HS.out i h1 with h | h
    · exact HD.out i h h2
    · have := HL2.out.lt i h2; omega)
  have hm := (hw3.block _ zm HN2.out).trans HM.out
  have hlt1 := HQ.out.lt
  have hlt2 := HL2.out.lt
  have hW := hl1.lt
  have hWl : W < w.heap.size := HWL.out
  have hT : Touch (fun i => fp1 i ∨ fp2 i) w w2 := (HT1.out.mono (fun i _ h => Or.inl h)).trans hw3 (fun i h => Or.inl (Or.inr h))
  clear hc hf a0 a1 b0 b1 m0 m1 fa fb fm
  go_end0
  refine ⟨rfl, q1, q2, ⟨r1, r2, hm, hl1, hq2, fun i h1 h2 => ?_, fun h => ?_, fun h => ?_⟩, HS.out, fun i h => ?_, hT⟩
  · have h1' := hlt1 i h1
    rcases hs2' i h2 with h | h
    · rcases HS.out i h1 with h' | h'
      · exact HD.out i h' h
      · have := hlt2 i h; omega
    · omega
  · rcases HS.out W h with h' | h'
    · exact HN1.out h'
    · omega
  · rcases hs2' W h with h' | h'
    · exact HN2.out h'
    · omega
  · rcases hs2' i h with h' | h'
    · exact Or.inl h'
    · exact Or.inr (by omega)
end Go.Proofs.Ytkmpkhbahmehmaa
