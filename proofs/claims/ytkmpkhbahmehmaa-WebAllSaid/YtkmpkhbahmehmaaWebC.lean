/- X-PARTIAL Links: a pair is cut: layer 29. -/
import Derived.Test.YtkmpkhbahmehmaaWebB
namespace Go.Proofs.Ytkmpkhbahmehmaa
open Go.RowKit Go.Lib

def cutF (f : Ky → List Ky) (a b : Ky) : Ky → List Ky := fun x => if x = a then (f a).filter (fun y => decide (y ≠ b)) else f x
theorem cutF_self (f : Ky → List Ky) (a b : Ky) : cutF f a b a = (f a).filter (fun y => decide (y ≠ b)) := if_pos rfl
theorem cutF_other (f : Ky → List Ky) {a x : Ky} (b : Ky) (h : x ≠ a) : cutF f a b x = f x := if_neg h

theorem links_cutted {w Wf : World} {r n : Nat} {f : Ky → List Ky} {fp : Nat → Prop} {a b : Ky} {L L1 : List (Ky × Value)} {es1 : Array MapEntry} {c1 : Nat} {o : Option Value} (hN : (keysL L).Nodup) (hr : fp r) (hlt : ∀ i, fp i → i < w.heap.size)
    (hin : ∀ a v, (a, v) ∈ L → ∃ b, v = .map (some b) ∧ fp b ∧ b ≠ r ∧ SetAt w b (f a)) (hno : ∀ a, a ∉ keysL L → f a = []) (hinj : ∀ a a' b, (a, .map (some b)) ∈ L → (a', .map (some b)) ∈ L → a = a')
    (hr1 : Wf.heap[r]? = some (.map es1 c1)) (hE1 : MapE encKy es1 c1 L1) (hg1 : ∀ x, getL x L1 = if x = a then o else getL x L) (hn : (a, .map (some n)) ∈ L) (hfn : fp n) (hnr : n ≠ r)
    (hs : (o = none ∧ cutF f a b a = []) ∨ (o = some (.map (some n)) ∧ SetAt Wf n (cutF f a b a))) (hsz : w.heap.size ≤ Wf.heap.size) (hkeep : ∀ i, i < w.heap.size → i ≠ r → i ≠ n → Wf.heap[i]? = w.heap[i]?) : LinksAt Wf r (cutF f a b) fp := by
  have hm : ∀ x v, (x, v) ∈ L1 ↔ (x = a ∧ o = some v) ∨ (x ≠ a ∧ (x, v) ∈ L) := fun x v => by
    rw [mem_getL hE1.2.1, hg1, mem_getL hN]
    by_cases h : x = a
    · rw [if_pos h]
      exact ⟨fun e => Or.inl ⟨h, e⟩, fun e => by
        rcases e with e | e
        · exact e.2
        · exact absurd h e.1⟩
    · rw [if_neg h]
      exact ⟨fun e => Or.inr ⟨h, e⟩, fun e => by
        rcases e with e | e
        · exact absurd e.1 h
        · exact e.2⟩
  have hne : ∀ x b', x ≠ a → (x, .map (some b')) ∈ L → b' ≠ n := fun x b' hx hm' e => by
    subst e
    exact hx (hinj _ _ _ hm' hn)
  refine ⟨es1, c1, L1, hr1, hE1, hr, fun i hi => Nat.lt_of_lt_of_le (hlt i hi) hsz, fun x v hx => ?_, fun x hx => ?_, fun x x' bb h1 h2 => ?_⟩
  · rcases (hm x v).1 hx with ⟨rfl, ho⟩ | ⟨hxa, hx⟩
    · rcases hs with ⟨h', -⟩ | ⟨h', hs⟩
      · rw [h'] at ho; cases ho
      · rw [h'] at ho; cases ho
        exact ⟨n, rfl, hfn, hnr, hs⟩
    · rw [cutF_other f b hxa]
      obtain ⟨b', rfl, h1, h2, h3⟩ := hin x v hx
      exact ⟨b', rfl, h1, h2, h3.kept (hkeep b' (hlt b' h1) h2 (hne x b' hxa hx))⟩
  · rw [key_getL, hg1] at hx
    by_cases h : x = a
    · rcases hs with ⟨h', h''⟩ | ⟨h', -⟩
      · rw [h]; exact h''
      · rw [if_pos h, h'] at hx; cases hx
    · rw [if_neg h] at hx
      rw [cutF_other f b h]
      exact hno x (key_getL.2 hx)
  · rcases (hm _ _).1 h1 with ⟨e1, e1'⟩ | ⟨h1a, h1⟩
    · rcases (hm _ _).1 h2 with ⟨e2, -⟩ | ⟨h2a, h2⟩
      · rw [e1, e2]
      · rcases hs with ⟨h', -⟩ | ⟨h', -⟩
        · rw [h'] at e1'; cases e1'
        · rw [h'] at e1'; cases e1'
          exact absurd rfl (hne _ _ h2a h2)
    · rcases (hm _ _).1 h2 with ⟨e2, e2'⟩ | ⟨h2a, h2⟩
      · rcases hs with ⟨h', -⟩ | ⟨h', -⟩
        · rw [h'] at e2'; cases e2'
        · rw [h'] at e2'; cases e2'
          exact absurd rfl (hne _ _ h1a h1)
      · exact hinj _ _ _ h1 h2

set_option maxRecDepth 100000 in
set_option maxHeartbeats 2000000 in
theorem links_cut (w : World) (r : Nat) (f : Ky → List Ky) (fp : Nat → Prop) (a b : Ky) (h : LinksAt w r f fp) (hab : b ∈ f a) :
    Calls Try.prog 32 #[.map (some r), .agg #[encStr a.n, .int .i64 a.d], .agg #[encStr b.n, .int .i64 b.d]] w fun e w' => e = .returned (.tuple #[]) ∧ LinksAt w' r (cutF f a b) fp ∧ Touch fp w w' := by
  obtain ⟨es, clock, L, hb, hE, hr, hlt, hin, hno, hinj⟩ := h
  have hg : ∃ v, getL a L = some v := by
    cases hg : getL a L with
    | none => rw [hno a (key_getL.2 hg)] at hab; cases hab
    | some v => exact ⟨v, rfl⟩
  obtain ⟨v, hg⟩ := hg
  have hv := getL_mem hg
  obtain ⟨n, rfl, hfn, hnr, hset⟩ := hin a v hv
  obtain ⟨esn, cn, Ln, hbn, hEn, hkn, hvn⟩ := hset
  have HVN := Lib.hid hvn
  have HIN := Lib.hid hin
  have HNO := Lib.hid hno
  have HINJ := Lib.hid hinj
  have HLT := Lib.hid hlt
  clear hin hno hinj hlt hvn
  have hzr := blk_lt hb
  have hzn := blk_lt hbn
  go_enter Try.func32, Try.ntmps32
  go_upto_region 1 with fail
  have ka := al2_0 w (.cells #[encStr a.n, .int .i64 a.d] 24) (.cells #[encStr b.n, .int .i64 b.d] 24)
  have kb := al2_1 w (.cells #[encStr a.n, .int .i64 a.d] 24) (.cells #[encStr b.n, .int .i64 b.d] 24)
  have hbW : Below w.heap.size w ((w.alloc (.cells #[encStr a.n, .int .i64 a.d] 24)).alloc (.cells #[encStr b.n, .int .i64 b.d] 24)) := ((Below.refl _ w).alloc (Nat.le_refl _) _).alloc (by simp) _
  generalize (w.alloc (.cells #[encStr a.n, .int .i64 a.d] 24)).alloc (.cells #[encStr b.n, .int .i64 b.d] 24) = W at *
  have hbr := (hbW.block r hzr).trans hb
  have hbn' := (hbW.block n hzn).trans hbn
  have ca := blk_cell ka
  have cb := blk_cell kb
  have za := blk_lt ka
  have zb := blk_lt kb
  have zn := blk_lt hbn'
  have zr := blk_lt hbr
  obtain ⟨es2, hE2, hrun2⟩ := hEn.drop key_law set_under b 0 24
  have lk := hE.look key_law links_under (z := .map none) (fun w => Try.zeroValue56 w) a false (w := W.drew) hbr
  rw [hg] at lk
  simp only [Bool.false_eq_true, if_false, Option.getD_some, encKy] at lk
  have dl := hrun2 W.drew n hbn'
  unfold encKy at dl
  go_region
  clear lk dl hrun2 ca cb
  have hs0 : (W.drew.putObj n (.map es2 cn)).heap.size = W.heap.size := by rw [putObj_size]; rfl
  have hXr : (W.drew.putObj n (.map es2 cn)).heap[r]? = some (.map es clock) := (World.putObj_heap_other (Ne.symm hnr)).trans hbr
  have hXn : (W.drew.putObj n (.map es2 cn)).heap[n]? = some (.map es2 cn) := World.putObj_heap_same zn
  have kXa : (W.drew.putObj n (.map es2 cn)).heap[w.heap.size]? = some (.cells #[encStr a.n, .int .i64 a.d] 24) := (World.putObj_heap_other (by omega)).trans ka
  have hTX : Touch fp w (W.drew.putObj n (.map es2 cn)) := (Touch.of_below hbW).trans ((Touch.drew fp W).trans (Touch.putObj W.drew hfn _) (fun i hi => Or.inl hi)) (fun i hi => Or.inl hi)
  have hKX : ∀ i, i < w.heap.size → i ≠ n → (W.drew.putObj n (.map es2 cn)).heap[i]? = w.heap[i]? := fun i h1 h2 => (World.putObj_heap_other h2).trans (hbW.block i h1)
  generalize W.drew.putObj n (.map es2 cn) = X at *
  have HKX := Lib.hid hKX
  have hSet : SetAt X n (cutF f a b a) := ⟨es2, cn, _, hXn, hE2, by rw [keysL_delL hEn.2.1, hkn, cutF_self], fun p hp => HVN.out p (delL_sub hp)⟩
  have hlen : es2.size = (cutF f a b a).length := by
    rw [hE2.len, cutF_self, ← hkn, ← keysL_delL hEn.2.1]; simp [keysL]
  have HSET := Lib.hid hSet
  have HLEN := Lib.hid hlen
  clear hKX ka kb hbW hbr hbn' za zb zn zr hSet hlen
  have xa := blk_cell kXa
  have za := blk_lt kXa
  have lk := hE.look key_law links_under (z := .map none) (fun w => Try.zeroValue56 w) a false hXr
  rw [hg] at lk
  simp only [Bool.false_eq_true, if_false, Option.getD_some, encKy] at lk
  have ln := run_len_map (P := Try.prog) set_under 3 hXn
  by_cases hz : es2.size = 0
  · rw [hz] at ln
    obtain ⟨es3, hE3, hrun3⟩ := hE.drop key_law links_under a 0 24
    have dl := hrun3 X r hXr
    unfold encKy at dl
    clear hrun3
    go_wp2_with fail
    go_end0
    refine ⟨rfl, links_cutted (n := n) (o := none) hE.2.1 hr HLT.out HIN.out HNO.out HINJ.out (World.putObj_heap_same (blk_lt hXr)) hE3 (fun x => getL_delL hE.2.1) hv hfn hnr (Or.inl ⟨rfl, List.eq_nil_of_length_eq_zero (by have := HLEN.out; omega)⟩) (by rw [putObj_size]; exact hTX.size) (fun i h1 h2 h3 => (World.putObj_heap_other h2).trans (HKX.out i h1 h3)), hTX.trans (Touch.putObj X hr _) (fun i hi => Or.inl hi)⟩
  · have hz' : ((es2.size : Int) == 0) = false := by simpa using hz
    go_wp2_with fail
    go_end0
    exact ⟨rfl, links_cutted (n := n) (o := some (.map (some n))) hE.2.1 hr HLT.out HIN.out HNO.out HINJ.out hXr hE (getL_same hg) hv hfn hnr (Or.inr ⟨rfl, HSET.out⟩) hTX.size (fun i h1 h2 h3 => HKX.out i h1 h3), hTX⟩
end Go.Proofs.Ytkmpkhbahmehmaa
