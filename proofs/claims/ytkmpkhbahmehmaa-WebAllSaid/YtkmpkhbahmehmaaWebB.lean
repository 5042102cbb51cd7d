/- X-PARTIAL Links: pairs of keys in maps of maps: layer 29. -/
import Derived.Test.YtkmpkhbahmehmaaWebA
namespace Go.Proofs.Ytkmpkhbahmehmaa
open Go.RowKit Go.Lib

/-- A set of keys in a block. -/
def SetAt (w : World) (b : Nat) (l : List Ky) : Prop :=
  ∃ es clock L, w.heap[b]? = some (.map es clock) ∧ MapE encKy es clock L ∧ keysL L = l ∧ ∀ p ∈ L, p.2 = .agg #[]
/-- Links in a block and those that it leads to: fp are all of them. -/
def LinksAt (w : World) (r : Nat) (f : Ky → List Ky) (fp : Nat → Prop) : Prop :=
  ∃ es clock L, w.heap[r]? = some (.map es clock) ∧ MapE encKy es clock L ∧ fp r ∧ (∀ i, fp i → i < w.heap.size) ∧
    (∀ a v, (a, v) ∈ L → ∃ b, v = .map (some b) ∧ fp b ∧ b ≠ r ∧ SetAt w b (f a)) ∧
    (∀ a, a ∉ keysL L → f a = []) ∧ (∀ a a' b, (a, .map (some b)) ∈ L → (a', .map (some b)) ∈ L → a = a')

theorem SetAt.lt {w : World} {b : Nat} {l : List Ky} (h : SetAt w b l) : b < w.heap.size := by
  obtain ⟨es, clock, L, hb, -⟩ := h
  exact blk_lt hb
theorem SetAt.kept {w w' : World} {b : Nat} {l : List Ky} (h : SetAt w b l) (hk : w'.heap[b]? = w.heap[b]?) : SetAt w' b l := by
  obtain ⟨es, clock, L, hb, h⟩ := h
  exact ⟨es, clock, L, hk.trans hb, h⟩
theorem SetAt.nodup {w : World} {b : Nat} {l : List Ky} (h : SetAt w b l) : l.Nodup := by
  obtain ⟨es, clock, L, hb, hE, rfl, -⟩ := h
  exact hE.2.1
theorem LinksAt.lt {w : World} {r : Nat} {f : Ky → List Ky} {fp : Nat → Prop} (h : LinksAt w r f fp) : ∀ i, fp i → i < w.heap.size := by
  obtain ⟨es, clock, L, hb, hE, hr, hlt, -⟩ := h
  exact hlt
theorem LinksAt.root {w : World} {r : Nat} {f : Ky → List Ky} {fp : Nat → Prop} (h : LinksAt w r f fp) : fp r := by
  obtain ⟨es, clock, L, hb, hE, hr, hlt, -⟩ := h
  exact hr
theorem LinksAt.kept {w w' : World} {r : Nat} {f : Ky → List Ky} {fp fp' : Nat → Prop} (h : LinksAt w r f fp) (ht : Touch fp' w w') (hd : ∀ i, fp i → ¬ fp' i) : LinksAt w' r f fp := by
  obtain ⟨es, clock, L, hb, hE, hr, hlt, hin, hno, hinj⟩ := h
  have hk : ∀ i, fp i → w'.heap[i]? = w.heap[i]? := fun i hi => ht.block i (hlt i hi) (hd i hi)
  exact ⟨es, clock, L, (hk r hr).trans hb, hE, hr, fun i hi => Nat.lt_of_lt_of_le (hlt i hi) ht.size, fun a v hm => by
    obtain ⟨b, e, h1, h2, h3⟩ := hin a v hm
    exact ⟨b, e, h1, h2, h3.kept (hk b h1)⟩, hno, hinj⟩

def addF (f : Ky → List Ky) (a b : Ky) : Ky → List Ky := fun x => if x = a then (if b ∈ f a then f a else f a ++ [b]) else f x

theorem keysL_setL (b : Ky) (v : Value) (L : List (Ky × Value)) : keysL (setL b v L) = if b ∈ keysL L then keysL L else keysL L ++ [b] := by
  by_cases h : b ∈ keysL L
  · rw [if_pos h, keysL_setL_mem h]
  · rw [if_neg h, setL_new h]; simp [keysL]
theorem setL_vals {b : Ky} {v : Value} : ∀ {L : List (Ky × Value)} {q : Ky × Value → Prop}, (∀ p ∈ L, q p) → q (b, v) → ∀ p ∈ setL b v L, q p
  | [], q, _, h2, p, hp => by simp [setL] at hp; rw [hp]; exact h2
  | (k, u) :: L, q, h1, h2, p, hp => by
    unfold setL at hp
    split at hp
    · rename_i e
      rcases List.mem_cons.1 hp with hp | hp
      · rw [hp, e]; exact h2
      · exact h1 p (List.mem_cons_of_mem _ hp)
    · rcases List.mem_cons.1 hp with hp | hp
      · rw [hp]; exact h1 _ List.mem_cons_self
      · exact setL_vals (fun p hp => h1 p (List.mem_cons_of_mem _ hp)) h2 p hp

theorem mem_getL {a : Ky} {v : Value} {L : List (Ky × Value)} (hn : (keysL L).Nodup) : (a, v) ∈ L ↔ getL a L = some v := ⟨getL_of_mem hn, getL_mem⟩
theorem key_getL {a : Ky} {L : List (Ky × Value)} : a ∉ keysL L ↔ getL a L = none := getL_none.symm
theorem addF_self (f : Ky → List Ky) (a b : Ky) : addF f a b a = if b ∈ f a then f a else f a ++ [b] := if_pos rfl
theorem addF_other (f : Ky → List Ky) {a x : Ky} (b : Ky) (h : x ≠ a) : addF f a b x = f x := if_neg h

theorem links_added {w Wf : World} {r n : Nat} {f : Ky → List Ky} {fp : Nat → Prop} {a b : Ky} {L L1 : List (Ky × Value)} {es1 : Array MapEntry} {c1 : Nat} (hN : (keysL L).Nodup) (hr : fp r) (hlt : ∀ i, fp i → i < w.heap.size)
    (hin : ∀ a v, (a, v) ∈ L → ∃ b, v = .map (some b) ∧ fp b ∧ b ≠ r ∧ SetAt w b (f a)) (hno : ∀ a, a ∉ keysL L → f a = []) (hinj : ∀ a a' b, (a, .map (some b)) ∈ L → (a', .map (some b)) ∈ L → a = a')
    (hr1 : Wf.heap[r]? = some (.map es1 c1)) (hE1 : MapE encKy es1 c1 L1) (hg1 : ∀ x, getL x L1 = if x = a then some (.map (some n)) else getL x L) (hn : (a, .map (some n)) ∈ L ∨ w.heap.size ≤ n) (hnl : n < Wf.heap.size) (hnr : n ≠ r)
    (hs : SetAt Wf n (addF f a b a)) (hsz : w.heap.size ≤ Wf.heap.size) (hkeep : ∀ i, i < w.heap.size → i ≠ r → i ≠ n → Wf.heap[i]? = w.heap[i]?) : LinksAt Wf r (addF f a b) (fun i => fp i ∨ i = n) := by
  have hm : ∀ x v, (x, v) ∈ L1 ↔ (x = a ∧ v = .map (some n)) ∨ (x ≠ a ∧ (x, v) ∈ L) := fun x v => by
    rw [mem_getL hE1.2.1, hg1, mem_getL hN]
    by_cases h : x = a
    · rw [if_pos h]
      exact ⟨fun e => Or.inl ⟨h, (Option.some.inj e).symm⟩, fun e => by
        rcases e with e | e
        · rw [e.2]
        · exact absurd h e.1⟩
    · rw [if_neg h]
      exact ⟨fun e => Or.inr ⟨h, e⟩, fun e => by
        rcases e with e | e
        · exact absurd e.1 h
        · exact e.2⟩
  have hne : ∀ x b', x ≠ a → (x, .map (some b')) ∈ L → b' ≠ n := fun x b' hx hm' e => by
    subst e
    rcases hn with hn | hn
    · exact hx (hinj _ _ _ hm' hn)
    · obtain ⟨b2, e2, h2, -⟩ := hin _ _ hm'
      cases e2
      have := hlt _ h2
      omega
  refine ⟨es1, c1, L1, hr1, hE1, Or.inl hr, fun i hi => ?_, fun x v hx => ?_, fun x hx => ?_, fun x x' bb h1 h2 => ?_⟩
  · rcases hi with hi | hi
    · exact Nat.lt_of_lt_of_le (hlt i hi) hsz
    · rw [hi]; exact hnl
  · rcases (hm x v).1 hx with ⟨rfl, rfl⟩ | ⟨hxa, hx⟩
    · exact ⟨n, rfl, Or.inr rfl, hnr, hs⟩
    · rw [addF_other f b hxa]
      obtain ⟨b', rfl, h1, h2, h3⟩ := hin x v hx
      exact ⟨b', rfl, Or.inl h1, h2, h3.kept (hkeep b' (hlt b' h1) h2 (hne x b' hxa hx))⟩
  · rw [key_getL, hg1] at hx
    by_cases h : x = a
    · rw [if_pos h] at hx; cases hx
    · rw [if_neg h] at hx
      rw [addF_other f b h]
      exact hno x (key_getL.2 hx)
  · rcases (hm _ _).1 h1 with ⟨e1, e1'⟩ | ⟨h1a, h1⟩
    · rcases (hm _ _).1 h2 with ⟨e2, -⟩ | ⟨h2a, h2⟩
      · rw [e1, e2]
      · cases e1'
        exact absurd rfl (hne _ _ h2a h2)
    · rcases (hm _ _).1 h2 with ⟨e2, e2'⟩ | ⟨h2a, h2⟩
      · cases e2'
        exact absurd rfl (hne _ _ h1a h1)
      · exact hinj _ _ _ h1 h2
theorem getL_same {a : Ky} {v : Value} {L : List (Ky × Value)} (h : getL a L = some v) : ∀ x, getL x L = if x = a then some v else getL x L := fun x => by
  by_cases e : x = a
  · rw [if_pos e, e, h]
  · rw [if_neg e]
/-- A set with one more. -/
theorem set_put {Wf : World} {n : Nat} {l : List Ky} {b : Ky} {es : Array MapEntry} {c : Nat} {L : List (Ky × Value)} (_hE : MapE encKy es c L) (hk : keysL L = l) (hv : ∀ p ∈ L, p.2 = .agg #[]) {es' : Array MapEntry} {c' : Nat} (hE' : MapE encKy es' c' (setL b (.agg #[]) L)) (hb : Wf.heap[n]? = some (.map es' c')) :
    SetAt Wf n (if b ∈ l then l else l ++ [b]) :=
  ⟨es', c', _, hb, hE', by rw [keysL_setL, hk], setL_vals hv rfl⟩

theorem map_nil_yes (W : World) : (binOp BinOp.eql 56 (Value.map none) (Value.map none)).run Try.prog W = .ok (.bool true) W := by kernel_rfl
theorem map_nil_no (b : Nat) (W : World) : (binOp BinOp.eql 56 (Value.map (some b)) (Value.map none)).run Try.prog W = .ok (.bool false) W := by kernel_rfl
set_option maxRecDepth 100000 in
set_option maxHeartbeats 2000000 in
theorem links_add (w : World) (r : Nat) (f : Ky → List Ky) (fp : Nat → Prop) (a b : Ky) (h : LinksAt w r f fp) :
    Calls Try.prog 31 #[.map (some r), .agg #[encStr a.n, .int .i64 a.d], .agg #[encStr b.n, .int .i64 b.d]] w fun e w' => e = .returned (.tuple #[]) ∧ ∃ fp', LinksAt w' r (addF f a b) fp' ∧ (∀ i, fp' i → fp i ∨ w.heap.size ≤ i) ∧ Touch fp w w' := by
  obtain ⟨es, clock, L, hb, hE, hr, hlt, hin, hno, hinj⟩ := h
  go_enter Try.func31, Try.ntmps31
  go_upto_region 1 with fail
  have ka := al2_0 w (.cells #[encStr a.n, .int .i64 a.d] 24) (.cells #[encStr b.n, .int .i64 b.d] 24)
  have kb := al2_1 w (.cells #[encStr a.n, .int .i64 a.d] 24) (.cells #[encStr b.n, .int .i64 b.d] 24)
  have hbW : Below w.heap.size w ((w.alloc (.cells #[encStr a.n, .int .i64 a.d] 24)).alloc (.cells #[encStr b.n, .int .i64 b.d] 24)) := ((Below.refl _ w).alloc (Nat.le_refl _) _).alloc (by simp) _
  generalize (w.alloc (.cells #[encStr a.n, .int .i64 a.d] 24)).alloc (.cells #[encStr b.n, .int .i64 b.d] 24) = W at *
  have hbr := (hbW.block r (blk_lt hb)).trans hb
  have ca := blk_cell ka
  have cb := blk_cell kb
  have HIN := Lib.hid hin
  have HNO := Lib.hid hno
  have HINJ := Lib.hid hinj
  have HLT := Lib.hid hlt
  clear hin hno hinj hlt
  cases hg : getL a L with
  | none =>
    have lk := hE.look key_law links_under (z := .map none) (fun w => Try.zeroValue56 w) a false hbr
    rw [hg] at lk
    simp only [Bool.false_eq_true, if_false, Option.getD_none, encKy] at lk
    have ny := map_nil_yes
    have hmm := @run_makeMap Try.prog
    go_upto_region 2 with fail
    clear lk ny
    obtain ⟨es1, c1, hE1, hrun1⟩ := hE.store key_law links_under a (.map (some W.heap.size))
    have hbr2 : (W.alloc (.map #[] 0)).heap[r]? = some (.map es clock) := (al_old _ _ (blk_lt hbr)).trans hbr
    have lu := hrun1 _ r hbr2
    unfold encKy at lu
    clear hrun1
    go_upto_region 3 with fail
    have hzr := blk_lt hb
    have hWs := hbW.size
    have kXa : ((W.alloc (.map #[] 0)).putObj r (.map es1 c1)).heap[w.heap.size]? = some (.cells #[encStr a.n, .int .i64 a.d] 24) := (World.putObj_heap_other (by omega)).trans ((al_old _ _ (blk_lt ka)).trans ka)
    have kXb : ((W.alloc (.map #[] 0)).putObj r (.map es1 c1)).heap[w.heap.size + 1]? = some (.cells #[encStr b.n, .int .i64 b.d] 24) := (World.putObj_heap_other (by omega)).trans ((al_old _ _ (blk_lt kb)).trans kb)
    have hXr : ((W.alloc (.map #[] 0)).putObj r (.map es1 c1)).heap[r]? = some (.map es1 c1) := World.putObj_heap_same (by rw [al_size]; have := blk_lt hbr; omega)
    have hXn : ((W.alloc (.map #[] 0)).putObj r (.map es1 c1)).heap[W.heap.size]? = some (.map #[] 0) := (World.putObj_heap_other (by have := blk_lt hbr; omega)).trans (al_new _ _ rfl)
    have hTX : Touch fp w ((W.alloc (.map #[] 0)).putObj r (.map es1 c1)) := (Touch.of_below hbW).trans ((Touch.alloc fp _ _).trans (Touch.putObj _ hr _) (fun i hi => Or.inl hi)) (fun i hi => Or.inl hi)
    have hgX : getL a (setL a (.map (some W.heap.size)) L) = some (.map (some W.heap.size)) := by rw [getL_setL, if_pos rfl]
    have hKX : ∀ i, i < w.heap.size → i ≠ r → ((W.alloc (.map #[] 0)).putObj r (.map es1 c1)).heap[i]? = w.heap[i]? := fun i h1 h2 => (World.putObj_heap_other h2).trans ((al_old _ _ (by omega)).trans (hbW.block i h1))
    have hEX := hE1
    generalize hn : W.heap.size = n at *
    generalize hX : (W.alloc (.map #[] 0)).putObj r (.map es1 c1) = X at *
    clear hX lu hbr2 ca cb ka kb hbr hbW hE1 hmm
    have HKX := Lib.hid hKX
    clear hKX
    have hEn := mapE_nil encKy 0
    have lk3 := hEX.look key_law links_under (z := .map none) (fun w => Try.zeroValue56 w) a false (w := X.drew) hXr
    rw [hgX] at lk3
    simp only [Bool.false_eq_true, if_false, Option.getD_some] at lk3
    obtain ⟨es2, c2, hE2, hrun2⟩ := hEn.store key_law set_under b (.agg #[])
    have st3 := hrun2 X.drew n hXn
    unfold encKy at lk3 st3
    clear hrun2
    have xa := blk_cell kXa
    have xb := blk_cell kXb
    have za := blk_lt kXa
    have zb := blk_lt kXb
    go_region
    clear lk3 st3 xa xb
    go_end0
    have hsx : X.drew.heap.size = X.heap.size := rfl
    have hnX := blk_lt hXn
    have hKX := HKX.out
    have hrn : r ≠ n := by omega
    refine ⟨rfl, _, links_added (n := n) hE.2.1 hr HLT.out HIN.out HNO.out HINJ.out ((World.putObj_heap_other hrn).trans hXr) hEX (fun x => getL_setL x a _ L) (Or.inr hWs) (by rw [putObj_size]; exact hnX) (Ne.symm hrn) ?_ (by rw [putObj_size]; exact hTX.size) (fun i h1 h2 h3 => (World.putObj_heap_other h3).trans (hKX i h1 h2)), fun i hi => ?_, hTX.trans ((Touch.drew (fun i => i = n) X).trans (Touch.putObj (fp := fun i => i = n) X.drew rfl _) (fun i hi => Or.inl hi)) (fun i hi => Or.inr (by omega))⟩
    · rw [addF_self, HNO.out a (key_getL.2 hg)]
      exact set_put hEn rfl (fun p hp => by cases hp) hE2 (World.putObj_heap_same hnX)
    · rcases hi with hi | hi
      · exact Or.inl hi
      · exact Or.inr (by omega)
  | some v =>
    have hv := getL_mem hg
    obtain ⟨n, rfl, hfn, hnr, hset⟩ := HIN.out a v hv
    have HS := Lib.hid hset
    obtain ⟨esn, cn, Ln, hbn, hEn, hkn, hvn⟩ := hset
    have HVN := Lib.hid hvn
    clear hvn
    have lk := hE.look key_law links_under (z := .map none) (fun w => Try.zeroValue56 w) a false hbr
    rw [hg] at lk
    simp only [Bool.false_eq_true, if_false, Option.getD_some, encKy] at lk
    have nn := map_nil_no n
    go_upto_region 3 with fail
    clear lk nn
    have hXr := hbr
    have hEX := hE
    have hgX := hg
    have hXn := (hbW.block n (blk_lt hbn)).trans hbn
    have kXa := ka
    have kXb := kb
    have hTX : Touch fp w W := Touch.of_below hbW
    have hKX : ∀ i, i < w.heap.size → i ≠ r → W.heap[i]? = w.heap[i]? := fun i hi _ => hbW.block i hi
    clear hbr ca cb ka kb hbW
    have HKX := Lib.hid hKX
    clear hKX
    generalize W = X at *
    have lk3 := hEX.look key_law links_under (z := .map none) (fun w => Try.zeroValue56 w) a false (w := X.drew) hXr
    rw [hgX] at lk3
    simp only [Bool.false_eq_true, if_false, Option.getD_some] at lk3
    obtain ⟨es2, c2, hE2, hrun2⟩ := hEn.store key_law set_under b (.agg #[])
    have st3 := hrun2 X.drew n hXn
    unfold encKy at lk3 st3
    clear hrun2
    have xa := blk_cell kXa
    have xb := blk_cell kXb
    have za := blk_lt kXa
    have zb := blk_lt kXb
    go_region
    clear lk3 st3 xa xb
    go_end0
    have hsx : X.drew.heap.size = X.heap.size := rfl
    have hnX := blk_lt hXn
    have hKX := HKX.out
    refine ⟨rfl, _, links_added (n := n) hE.2.1 hr HLT.out HIN.out HNO.out HINJ.out ((World.putObj_heap_other (Ne.symm hnr)).trans hXr) hEX (getL_same hg) (Or.inl hv) (by rw [putObj_size]; exact hnX) hnr ?_ (by rw [putObj_size]; exact hTX.size) (fun i h1 h2 h3 => (World.putObj_heap_other h3).trans (hKX i h1 h2)), fun i hi => ?_, hTX.trans ((Touch.drew (fun i => i = n) X).trans (Touch.putObj (fp := fun i => i = n) X.drew rfl _) (fun i hi => Or.inl hi)) (fun i hi => Or.inl (by rw [hi]; exact hfn))⟩
    · rw [addF_self]
      exact set_put hEn hkn HVN.out hE2 (World.putObj_heap_same hnX)
    · rcases hi with hi | hi
      · exact Or.inl hi
      · exact Or.inl (by rw [hi]; exact hfn)
end Go.Proofs.Ytkmpkhbahmehmaa
