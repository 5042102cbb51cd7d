/- X-PARTIAL A web: cleared, asked: layer 29. -/
import Derived.Test.YtkmpkhbahmehmaaWebE
namespace Go.Proofs.Ytkmpkhbahmehmaa
open Go.RowKit Go.Lib

theorem LinksAt.cleared {w : World} {r : Nat} {f : Ky → List Ky} {fp : Nat → Prop} {c : Nat} (h : LinksAt w r f fp) : LinksAt (w.putObj r (.map #[] c)) r (fun _ => []) (fun i => fp i) := by
  obtain ⟨es, clock, L, hb, hE, hr, hlt, -⟩ := h
  exact ⟨#[], c, [], World.putObj_heap_same (blk_lt hb), mapE_nil _ _, hr, fun i hi => by rw [putObj_size]; exact hlt i hi, fun a v h => (by cases h), fun a _ => rfl, fun a a' b h => (by cases h)⟩

set_option maxRecDepth 100000 in
theorem web_clear (w : World) (W : Nat) (f g : Ky → List Ky) (fp1 fp2 : Nat → Prop) (h : WebAt w W f g fp1 fp2) :
    Calls Try.prog 21 #[.pointer (some ⟨W, 0, none⟩)] w fun e w' => e = .returned (.tuple #[]) ∧ WebAt w' W (fun _ => []) (fun _ => []) fp1 fp2 ∧ Touch (fun i => fp1 i ∨ fp2 i) w w' := by
  obtain ⟨r1, r2, hb, hl1, hl2, hd, hn1, hn2⟩ := h
  have HD := Lib.hid hd
  have HN1 := Lib.hid hn1
  have HN2 := Lib.hid hn2
  have HL1 := Lib.hid hl1
  have HL2 := Lib.hid hl2
  have m0 := blk_cell hb 0
  simp only [List.getElem?_toArray, List.getElem?_cons_zero] at m0
  obtain ⟨es1, c1, L1, hb1, -⟩ := hl1
  have cl1 := run_clear_map (P := Try.prog) links_under 0 hb1
  clear hd hn1 hn2 hl2
  go_enter Try.func21, Try.ntmps21
  go_upto_region 2 with fail
  clear cl1 m0
  have ht1 : Touch fp1 w (w.putObj r1 (.map #[] c1)) := Touch.putObj w HL1.out.root _
  have hm := (ht1.block W (blk_lt hb) HN1.out).trans hb
  have hl1 : LinksAt (w.putObj r1 (.map #[] c1)) r1 (fun _ => []) fp1 := HL1.out.cleared
  have hl2 := HL2.out.kept ht1 (fun i h2 h1 => HD.out i h1 h2)
  have HT1 := Lib.hid ht1
  have HLA := Lib.hid hl1
  have HLB := Lib.hid hl2
  clear ht1 hl1 hb1 hb
  generalize w.putObj r1 (.map #[] c1) = X at *
  have m1 := blk_cell hm 1
  simp only [List.getElem?_toArray, List.getElem?_cons_zero, List.getElem?_cons_succ] at m1
  obtain ⟨es2, c2, L2, hb2, -⟩ := hl2
  have cl2 := run_clear_map (P := Try.prog) links_under 0 hb2
  go_wp2_with fail
  clear cl2 m1
  have ht2 : Touch fp2 X (X.putObj r2 (.map #[] c2)) := Touch.putObj X HLB.out.root _
  have hm2 := (ht2.block W (blk_lt hm) HN2.out).trans hm
  have hlb : LinksAt (X.putObj r2 (.map #[] c2)) r2 (fun _ => []) fp2 := HLB.out.cleared
  have hla := HLA.out.kept ht2 (fun i h1 h2 => HD.out i h1 h2)
  have hT : Touch (fun i => fp1 i ∨ fp2 i) w (X.putObj r2 (.map #[] c2)) := (HT1.out.mono (fun i _ h => Or.inl h)).trans ht2 (fun i h => Or.inl (Or.inr h))
  go_end0
  exact ⟨rfl, ⟨r1, r2, hm2, hla, hlb, HD.out, HN1.out, HN2.out⟩, hT⟩

set_option maxRecDepth 100000 in
set_option maxHeartbeats 2000000 in
theorem web_on (w : World) (W : Nat) (f g : Ky → List Ky) (fp1 fp2 : Nat → Prop) (x : Ky) (h : WebAt w W f g fp1 fp2) (hm : (f x.cl).length * 24 ≤ 140737488355328) :
    Calls Try.prog 10 #[.pointer (some ⟨W, 0, none⟩), .agg #[encStr x.n, .int .i64 x.d]] w fun e w' => (∃ g n N, e = .returned (.slice (some ⟨g, 0, none⟩) n N) ∧ OwnK w' w.heap.size g n N (rowR (f x.cl))) ∧ Below w.heap.size w w' := by
  obtain ⟨r1, r2, hb, hl1, hl2, hd, hn1, hn2⟩ := h
  have HC := Lib.hid (key_Clean x)
  generalize x.cl = X at *
  have hV : Below w.heap.size w (w.alloc (.cells #[encStr x.n, .int .i64 x.d] 24)) := (Below.refl _ w).alloc (Nat.le_refl _) _
  have HR := Lib.hid (fun v (q : Below w.heap.size w v) => links_row v r1 f fp1 X (hl1.below q) hm)
  clear hl1 hl2 hd hn1 hn2 hm
  go_enter Try.func10, Try.ntmps10
  go_upto_region 3 with fail
  have ka := al_new w (.cells #[encStr x.n, .int .i64 x.d] 24) rfl
  have km := (hV.block W (blk_lt hb)).trans hb
  have hsV : w.heap.size ≤ (w.alloc (.cells #[encStr x.n, .int .i64 x.d] 24)).heap.size := hV.size
  have HV := Lib.hid hV
  clear hV hb
  generalize w.alloc (.cells #[encStr x.n, .int .i64 x.d] 24) = V at *
  have a0 := blk_cell ka 0
  have a1 := blk_cell ka 1
  have m0 := blk_cell km 0
  simp only [List.getElem?_toArray, List.getElem?_cons_zero, List.getElem?_cons_succ] at a0 a1 m0
  have za := blk_lt ka
  have zm := blk_lt km
  have fa := blk_free ka
  have fm := blk_free km
  clear ka km
  refine region_seqg (W := V) [_, _, _, _, _, _] [_, _] rfl (by kernel_rfl) (by kernel_rfl) (by repeat (first | (with_reducible assumption) | (with_reducible exact Below.refl _ _) | (with_reducible refine Below.alloc ?_ (by first | omega | (simp; omega) | (simp; done) | (dsimp only; omega)) _) | (with_reducible refine Below.setCell ?_ (by first | omega | (simp; omega) | (simp; done) | (dsimp only; omega)) _) | (with_reducible refine Below.drew ?_) | (with_reducible refine Below.trans ?_ (Below.mono (by assumption) (by first | omega | (simp; omega) | (simp; done) | (dsimp only; omega)))))) (fun fin hfin => ?_)
  iterate 6
    first
      | (refine SeqG.yes (v := ?_) (A' := ?_) rfl (fun γ => by rfl) ?_ ?_ ?_
         rotate_left 2
         · intro γ w' K hS hK
           obtain ⟨hc, hf⟩ := bcell hS
           have hz := hS.size
           go_simp
           first
             | exact hK.out _ (Below.refl _ _)
             | (go_at_call 26; (with_reducible refine (HC.out _).mono ?_); rintro e w1 ⟨rfl, hb1⟩; exact hK.out _ hb1)
             | trace_state
         · intro γ; simp only [Act.put, List.setIfInBounds_toArray, List.set_cons_zero, List.set_cons_succ]; exact rfl)
      | (refine SeqG.no (A' := ?_) rfl (fun γ => by rfl) ?_ ?_
         rotate_left
         · intro γ; simp only [Act.put, List.setIfInBounds_toArray, List.set_cons_zero, List.set_cons_succ]; exact rfl)
  refine SeqG.nil (hfin.out _ _ ?_)
  clear hfin fin
  intro γ lo hi w1 hB1 hF hD
  clear hD
  have HB1 := Lib.hid (HV.out.trans (hB1.mono hsV))
  have hs1 := HB1.out.size
  clear hF hB1
  refine TailL.cons (fun K hK => ?_)
  go_simp
  go_at_call 25
  refine (HR.out w1 HB1.out).mono ?_
  rintro e w2 ⟨⟨gg, n, N, rfl, ho⟩, hb2⟩
  have HO := Lib.hid (ho.base hs1)
  have HB2 := Lib.hid (HB1.out.trans (hb2.mono hs1))
  clear ho hb2
  refine hK.out _ _ ?_
  clear hK K
  refine TailL.cons (fun K hK => ?_)
  go_simp
  refine hK.out _ _ ?_
  clear hK K
  refine TailL.nil ?_
  go_wp2_with fail
  go_ret
  exact ⟨⟨gg, n, N, rfl, HO.out⟩, HB2.out⟩

set_option maxRecDepth 100000 in
set_option maxHeartbeats 2000000 in
theorem web_of (w : World) (W : Nat) (f g : Ky → List Ky) (fp1 fp2 : Nat → Prop) (x : Ky) (h : WebAt w W f g fp1 fp2) (hm : (g x.cl).length * 24 ≤ 140737488355328) :
    Calls Try.prog 12 #[.pointer (some ⟨W, 0, none⟩), .agg #[encStr x.n, .int .i64 x.d]] w fun e w' => (∃ gg n N, e = .returned (.slice (some ⟨gg, 0, none⟩) n N) ∧ OwnK w' w.heap.size gg n N (rowR (g x.cl))) ∧ Below w.heap.size w w' := by
  obtain ⟨r1, r2, hb, hl1, hl2, hd, hn1, hn2⟩ := h
  have HC := Lib.hid (key_Clean x)
  generalize x.cl = X at *
  have hV : Below w.heap.size w (w.alloc (.cells #[encStr x.n, .int .i64 x.d] 24)) := (Below.refl _ w).alloc (Nat.le_refl _) _
  have HR := Lib.hid (fun v (q : Below w.heap.size w v) => links_row v r2 g fp2 X (hl2.below q) hm)
  clear hl1 hl2 hd hn1 hn2 hm
  go_enter Try.func12, Try.ntmps12
  go_upto_region 3 with fail
  have ka := al_new w (.cells #[encStr x.n, .int .i64 x.d] 24) rfl
  have km := (hV.block W (blk_lt hb)).trans hb
  have hsV : w.heap.size ≤ (w.alloc (.cells #[encStr x.n, .int .i64 x.d] 24)).heap.size := hV.size
  have HV := Lib.hid hV
  clear hV hb
  generalize w.alloc (.cells #[encStr x.n, .int .i64 x.d] 24) = V at *
  have a0 := blk_cell ka 0
  have a1 := blk_cell ka 1
  have m0 := blk_cell km 1
  simp only [List.getElem?_toArray, List.getElem?_cons_zero, List.getElem?_cons_succ] at a0 a1 m0
  have za := blk_lt ka
  have zm := blk_lt km
  have fa := blk_free ka
  have fm := blk_free km
  clear ka km
  refine region_seqg (W := V) [_, _, _, _, _, _] [_, _] rfl (by kernel_rfl) (by kernel_rfl) (by repeat (first | (with_reducible assumption) | (with_reducible exact Below.refl _ _) | (with_reducible refine Below.alloc ?_ (by first | omega | (simp; omega) | (simp; done) | (dsimp only; omega)) _) | (with_reducible refine Below.setCell ?_ (by first | omega | (simp; omega) | (simp; done) | (dsimp only; omega)) _) | (with_reducible refine Below.drew ?_) | (with_reducible refine Below.trans ?_ (Below.mono (by assumption) (by first | omega | (simp; omega) | (simp; done) | (dsimp only; omega)))))) (fun fin hfin => ?_)
  iterate 6
    first
      | (refine SeqG.yes (v := ?_) (A' := ?_) rfl (fun γ => by rfl) ?_ ?_ ?_
         rotate_left 2
         · intro γ w' K hS hK
           obtain ⟨hc, hf⟩ := bcell hS
           have hz := hS.size
           go_simp
           first
             | exact hK.out _ (Below.refl _ _)
             | (go_at_call 26; (with_reducible refine (HC.out _).mono ?_); rintro e w1 ⟨rfl, hb1⟩; exact hK.out _ hb1)
             | trace_state
         · intro γ; simp only [Act.put, List.setIfInBounds_toArray, List.set_cons_zero, List.set_cons_succ]; exact rfl)
      | (refine SeqG.no (A' := ?_) rfl (fun γ => by rfl) ?_ ?_
         rotate_left
         · intro γ; simp only [Act.put, List.setIfInBounds_toArray, List.set_cons_zero, List.set_cons_succ]; exact rfl)
  refine SeqG.nil (hfin.out _ _ ?_)
  clear hfin fin
  intro γ lo hi w1 hB1 hF hD
  clear hD
  have HB1 := Lib.hid (HV.out.trans (hB1.mono hsV))
  have hs1 := HB1.out.size
  clear hF hB1
  refine TailL.cons (fun K hK => ?_)
  go_simp
  go_at_call 25
  refine (HR.out w1 HB1.out).mono ?_
  rintro e w2 ⟨⟨gg, n, N, rfl, ho⟩, hb2⟩
  have HO := Lib.hid (ho.base hs1)
  have HB2 := Lib.hid (HB1.out.trans (hb2.mono hs1))
  clear ho hb2
  refine hK.out _ _ ?_
  clear hK K
  refine TailL.cons (fun K hK => ?_)
  go_simp
  refine hK.out _ _ ?_
  clear hK K
  refine TailL.nil ?_
  go_wp2_with fail
  go_ret
  exact ⟨⟨gg, n, N, rfl, HO.out⟩, HB2.out⟩

end Go.Proofs.Ytkmpkhbahmehmaa
