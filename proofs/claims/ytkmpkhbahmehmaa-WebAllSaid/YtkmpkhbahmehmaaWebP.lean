/- X-PARTIAL The statement's script: layer 29. -/
import Derived.Test.YtkmpkhbahmehmaaWebU
import Derived.Test.YtkmpkhbahmehmaaWebV
namespace Go.Proofs.Ytkmpkhbahmehmaa
open Go.RowKit Go.Lib

structure Opn where
  k : Int
  x : Ky
  y : Ky
def encO (o : Opn) : List Value := [.int .i64 o.k, encStr o.x.n, .int .i64 o.x.d, encStr o.y.n, .int .i64 o.y.d]
abbrev ORow (w : World) (A : Option Addr) (m : List Opn) : Prop := GRow encO 5 w A m
theorem ORow.get {w : World} {A : Option Addr} {m : List Opn} (h : ORow w A m) {j : Nat} (hj : j < m.length) : ∃ b o : Nat, A = some ⟨b, o, none⟩ ∧ b < w.heap.size ∧ w.cell? ⟨b, o + j * 5, none⟩ = some (.int .i64 m[j].k) ∧ w.cell? ⟨b, o + j * 5 + 1, none⟩ = some (encStr m[j].x.n) ∧ w.cell? ⟨b, o + j * 5 + 2, none⟩ = some (.int .i64 m[j].x.d) ∧ w.cell? ⟨b, o + j * 5 + 3, none⟩ = some (encStr m[j].y.n) ∧ w.cell? ⟨b, o + j * 5 + 4, none⟩ = some (.int .i64 m[j].y.d) := by
  obtain ⟨b, o, e, hz, hc⟩ := h j hj
  exact ⟨b, o, e, hz, hc 0 (by omega), hc 1 (by omega), hc 2 (by omega), hc 3 (by omega), hc 4 (by omega)⟩
def stepP (m : List Pr) (o : Opn) : List Pr := if o.k = 0 then addP m o.x o.y else if o.k = 1 then dropP m o.x else if o.k = 2 then [] else m
def playP (l : List Opn) : List Pr := l.foldl stepP []
theorem playP_next {l : List Opn} {i : Nat} (h : i < l.length) : playP (l.take (i + 1)) = stepP (playP (l.take i)) l[i] := by
  unfold playP
  rw [List.take_succ_eq_append_getElem h, List.foldl_append]
  rfl
theorem stepP_len (m : List Pr) (o : Opn) : (stepP m o).length ≤ m.length + 1 := by
  unfold stepP
  split
  · unfold addP
    rw [List.length_append, List.length_singleton]
    have := List.length_filter_le (fun p => decide (p ≠ (o.x.cl, o.y.cl))) m
    omega
  · split
    · unfold dropP
      exact Nat.le_succ_of_le (List.length_filter_le _ _)
    · split
      · simp
      · omega
theorem foldP_len : ∀ (l : List Opn) (m : List Pr), (l.foldl stepP m).length ≤ m.length + l.length
  | [], m => by simp
  | o :: l, m => by
    have h1 := foldP_len l (stepP m o)
    have h2 := stepP_len m o
    simp only [List.foldl_cons, List.length_cons]
    omega
theorem playP_len (l : List Opn) : (playP l).length ≤ l.length := by
  have := foldP_len l []
  simpa [playP] using this

/-- A web and pairs that say the same. -/
structure Rel (f g : Ky → List Ky) (m : List Pr) : Prop where
  on : ∀ a z, z ∈ f a ↔ (a, z) ∈ m
  of : ∀ a z, z ∈ g a ↔ (z, a) ∈ m
  clean : ∀ p ∈ m, p.1.cl = p.1 ∧ p.2.cl = p.2
theorem Rel.none : Rel (fun _ => []) (fun _ => []) [] := ⟨fun _ _ => by simp, fun _ _ => by simp, fun p h => by cases h⟩
theorem mem_addF {f : Ky → List Ky} {a b c z : Ky} : z ∈ addF f a b c ↔ z ∈ f c ∨ (c = a ∧ z = b) := by
  unfold addF
  by_cases h : c = a
  · subst h
    rw [if_pos rfl, mem_ite]
    simp
  · rw [if_neg h]
    simp [h]
theorem mem_addP {m : List Pr} {x y : Ky} {p : Pr} : p ∈ addP m x y ↔ p ∈ m ∨ p = (x.cl, y.cl) := by
  unfold addP
  rw [List.mem_append, List.mem_filter, List.mem_singleton]
  by_cases h : p = (x.cl, y.cl) <;> simp [h]
theorem Rel.add {f g : Ky → List Ky} {m : List Pr} (h : Rel f g m) (x y : Ky) : Rel (addF f x.cl y.cl) (addF g y.cl x.cl) (addP m x y) :=
  ⟨fun a z => by rw [mem_addF, mem_addP, h.on, Prod.mk.injEq], fun a z => by rw [mem_addF, mem_addP, h.of, Prod.mk.injEq, and_comm (a := a = y.cl)], fun p hp => by
    rcases mem_addP.1 hp with hp | rfl
    · exact h.clean p hp
    · exact ⟨Ky.cl_cl _, Ky.cl_cl _⟩⟩
theorem Rel.drop {f g f' g' : Ky → List Ky} {m : List Pr} (h : Rel f g m) (x : Ky) (hf : ∀ a z, z ∈ f' a ↔ z ∈ f a ∧ a ≠ x.cl ∧ z ≠ x.cl) (hg : ∀ a z, z ∈ g' a ↔ z ∈ g a ∧ a ≠ x.cl ∧ z ≠ x.cl) : Rel f' g' (dropP m x) :=
  ⟨fun a z => by rw [hf, h.on]; unfold dropP; rw [List.mem_filter]; simp, fun a z => by rw [hg, h.of]; unfold dropP; rw [List.mem_filter]; simp; intro _; exact and_comm, fun p hp => h.clean p (by unfold dropP at hp; exact (List.mem_filter.1 hp).1)⟩
theorem nodup_leG {α : Type} [DecidableEq α] : ∀ {l m : List α}, l.Nodup → (∀ z ∈ l, z ∈ m) → l.length ≤ m.length
  | [], _, _, _ => Nat.zero_le _
  | x :: l, m, hn, h => by
    have hn' := List.nodup_cons.1 hn
    have hx := h x List.mem_cons_self
    have := nodup_leG (l := l) (m := m.erase x) hn'.2 (fun z hz => (List.mem_erase_of_ne (fun e => hn'.1 (by rw [← e]; exact hz))).2 (h z (List.mem_cons_of_mem _ hz)))
    have h1 := List.length_erase_of_mem hx
    have h2 : 0 < m.length := List.length_pos_of_mem hx
    simp only [List.length_cons]
    omega
theorem le_firsts {m : List Pr} {l : List Ky} (x : Ky) (hn : l.Nodup) (h : ∀ z ∈ l, (x, z) ∈ m) : l.length ≤ m.length := by
  have h1 := nodup_leG (l := l.map (fun z => (x, z))) (m := m) (by
    unfold List.Nodup
    rw [List.pairwise_map]
    exact hn.imp (fun {a b} hab e => hab (Prod.mk.inj e).2)) (fun z hz => by
    obtain ⟨y, hy, rfl⟩ := List.mem_map.1 hz
    exact h y hy)
  simpa using h1
theorem le_seconds {m : List Pr} {l : List Ky} (x : Ky) (hn : l.Nodup) (h : ∀ z ∈ l, (z, x) ∈ m) : l.length ≤ m.length := by
  have h1 := nodup_leG (l := l.map (fun z => (z, x))) (m := m) (by
    unfold List.Nodup
    rw [List.pairwise_map]
    exact hn.imp (fun {a b} hab e => hab (Prod.mk.inj e).1)) (fun z hz => by
    obtain ⟨y, hy, rfl⟩ := List.mem_map.1 hz
    exact h y hy)
  simpa using h1
theorem WebAt.lt1 {w : World} {W : Nat} {f g : Ky → List Ky} {fp1 fp2 : Nat → Prop} (h : WebAt w W f g fp1 fp2) : ∀ i, fp1 i → i < w.heap.size := by
  obtain ⟨r1, r2, -, hl1, -⟩ := h
  exact hl1.lt
theorem WebAt.lt2 {w : World} {W : Nat} {f g : Ky → List Ky} {fp1 fp2 : Nat → Prop} (h : WebAt w W f g fp1 fp2) : ∀ i, fp2 i → i < w.heap.size := by
  obtain ⟨r1, r2, -, -, hl2, -⟩ := h
  exact hl2.lt
theorem WebAt.nodup1 {w : World} {W : Nat} {f g : Ky → List Ky} {fp1 fp2 : Nat → Prop} (h : WebAt w W f g fp1 fp2) : ∀ a, (f a).Nodup := by
  obtain ⟨r1, r2, -, hl1, -⟩ := h
  exact hl1.nodup
theorem WebAt.nodup2 {w : World} {W : Nat} {f g : Ky → List Ky} {fp1 fp2 : Nat → Prop} (h : WebAt w W f g fp1 fp2) : ∀ a, (g a).Nodup := by
  obtain ⟨r1, r2, -, -, hl2, -⟩ := h
  exact hl2.nodup
theorem WebAt.lt {w : World} {W : Nat} {f g : Ky → List Ky} {fp1 fp2 : Nat → Prop} (h : WebAt w W f g fp1 fp2) : W < w.heap.size := by
  obtain ⟨r1, r2, hb, -⟩ := h
  exact blk_lt hb

set_option maxRecDepth 100000 in
set_option maxHeartbeats 16000000 in
theorem law29_play (w0 w : World) (W : Nat) (fp1 fp2 : Nat → Prop) (l : List Opn) (A : Option Addr) (c : Nat) (hl : ORow w0 A l) (hB0 : Below w0.heap.size w0 w) (hw : WebAt w W (fun _ => []) (fun _ => []) fp1 fp2) (hf1 : ∀ i, fp1 i → w0.heap.size ≤ i) (hf2 : ∀ i, fp2 i → w0.heap.size ≤ i)
    (hm : (l.length + 1) * 48 ≤ 140737488355328) :
    Calls Try.prog 8 #[.pointer (some ⟨W, 0, none⟩), .slice A l.length c] w fun e w' => (∃ A2 c2, e = .returned (.slice A2 (playP l).length c2) ∧ PRow w' A2 (playP l) ∧ ∃ f g q1 q2, WebAt w' W f g q1 q2 ∧ Rel f g (playP l)) ∧ Below w0.heap.size w0 w' := by
  have HL := Lib.hid hl
  have HB0 := Lib.hid hB0
  have HW0 := Lib.hid hw
  have HF1 := Lib.hid hf1
  have HF2 := Lib.hid hf2
  have hln : l.length ≤ 2932031007401 := by omega
  clear hl hB0 hw hf1 hf2
  go_enter Try.func8, Try.ntmps8
  go_wp2_with fail
  go_loopw [5, 6] (fun v5 v6 wr => ∃ (i : Nat) (f g : Ky → List Ky) (q1 q2 : Nat → Prop) (A2 : Option Addr) (c2 : Nat), i ≤ l.length ∧ v6 = .int .i64 i ∧ v5 = .slice A2 (playP (l.take i)).length c2 ∧ PRow wr A2 (playP (l.take i)) ∧ (∀ a, A2 = some a → ¬ q1 a.block ∧ ¬ q2 a.block) ∧ WebAt wr W f g q1 q2 ∧ Rel f g (playP (l.take i)) ∧ (∀ j, q1 j → w0.heap.size ≤ j) ∧ (∀ j, q2 j → w0.heap.size ≤ j) ∧ Below w0.heap.size w0 wr) (fun _ v6 _ => l.length - (RowKit.intOf v6).toNat)
  case atStart => exact ⟨0, _, _, fp1, fp2, none, 0, Nat.zero_le _, rfl, rfl, GRow.nil _ _, fun a e => (by cases e), HW0.out, Rel.none, HF1.out, HF2.out, HB0.out⟩
  case round =>
    obtain ⟨i, f, g, q1, q2, A2, c2, hi, rfl, rfl, hpr, hpb, hw, hrel, hq1, hq2, hB⟩ := hrel
    have HPR := Lib.hid hpr
    have HPB := Lib.hid hpb
    have HW := Lib.hid hw
    have HREL := Lib.hid hrel
    have HQ1 := Lib.hid hq1
    have HQ2 := Lib.hid hq2
    have HB := Lib.hid hB
    have hsB := hB.size
    have hpl := playP_len (l.take i)
    rw [List.length_take] at hpl
    clear hpr hpb hw hrel hq1 hq2
    by_cases hlt : i < l.length
    · have ik : (i : Int) < l.length := by omega
      obtain ⟨b, o, he, hz, c0, c1, c2', c3, c4⟩ := (ORow.get (HL.out.below hB) hlt)
      have HNX := Lib.hid (playP_next hlt)
      have hzb : b < w0.heap.size := by
        obtain ⟨b', o', e', hz', -⟩ := ORow.get HL.out hlt
        rw [he] at e'
        cases e'
        exact hz'
      clear hB
      cases he
      have HOPI := Lib.hid (show l[i]? = some l[i] from List.getElem?_eq_getElem hlt)
      generalize hop : l[i] = op at *
      have HOPE := Lib.hid hop
      clear hop
      have HNL := Lib.hid (congrArg List.length HNX.out)
      have HPR2 := Lib.hid (show ∀ w', PRow w' A2 (playP (l.take i)) → PRow w' A2 (playP (l.take i)) from fun _ h => h)
      generalize playP (l.take i) = m at *
      clear HPR2
      by_cases k0 : op.k = 0
      · have hk0 : (op.k == 0) = true := by simpa using k0
        have HST := Lib.hid (show stepP m op = addP m op.x op.y from if_pos k0)
        have HA := Lib.hid (fun v (q : Below wr.heap.size wr v) => web_add v W f g q1 q2 op.x op.y (HW.out.below q))
        go_upto_region 7 with fail
        refine region_seqg (W := wr) [_, _, _, _, _, _, _, _, _, _, _] [_] rfl (by kernel_rfl) (by kernel_rfl) (by repeat (first | (with_reducible assumption) | (with_reducible exact Below.refl _ _) | (with_reducible refine Below.alloc ?_ (by first | omega | (simp; omega) | (simp; done) | (dsimp only; omega)) _) | (with_reducible refine Below.setCell ?_ (by first | omega | (simp; omega) | (simp; done) | (dsimp only; omega)) _) | (with_reducible refine Below.drew ?_) | (with_reducible refine Below.trans ?_ (Below.mono (by assumption) (by first | omega | (simp; omega) | (simp; done) | (dsimp only; omega)))))) (fun fin hfin => ?_)
        iterate 11
          first
            | (refine SeqG.yes (v := ?_) (A' := ?_) rfl (fun γ => by rfl) ?_ ?_ ?_
               rotate_left 2
               · intro γ w' K hS hK
                 obtain ⟨hc, hf⟩ := bcell hS
                 have hz := hS.size
                 go_simp
                 first
                   | exact hK.out _ (Below.refl _ _)
                   | trace_state
               · intro γ; simp only [Act.put, List.setIfInBounds_toArray, List.set_cons_zero, List.set_cons_succ]; exact rfl)
            | (refine SeqG.no (A' := ?_) rfl (fun γ => by rfl) ?_ ?_
               rotate_left
               · intro γ; simp only [Act.put, List.setIfInBounds_toArray, List.set_cons_zero, List.set_cons_succ]; exact rfl)
        refine SeqG.nil (hfin.out _ _ ?_)
        clear hfin fin
        intro γ lo hi w1 hB1 hF hD
        clear hD
        have HB1 := Lib.hid hB1
        have hs1 := hB1.size
        clear hF hB1
        refine TailL.cons (fun K hK => ?_)
        go_simp
        go_at_call 19
        with_reducible refine (HA.out _ HB1.out).mono ?_
        rintro e w2 ⟨rfl, p1, p2, hw2, hs1p, hs2p, ht⟩
        refine hK.out _ _ ?_
        clear hK K
        refine TailL.nil ?_
        have hB2 : Below w0.heap.size w0 w2 := (HB.out.trans (HB1.out.mono hsB)).trans (ht.below (fun j hj => hj.elim (HQ1.out j) (HQ2.out j)) (by omega))
        have hpr2 : PRow w2 A2 m := (HPR.out.below HB1.out).touch ht (fun a e => by have h := HPB.out a e; exact fun h2 => h2.elim h.1 h.2)
        have HW2 := Lib.hid hw2
        have HPR2 := Lib.hid hpr2
        have HB2 := Lib.hid hB2
        have HP1 := Lib.hid (show ∀ j, p1 j → w0.heap.size ≤ j from fun j hj => (hs1p j hj).elim (HQ1.out j) (fun h => by omega))
        have HP2 := Lib.hid (show ∀ j, p2 j → w0.heap.size ≤ j from fun j hj => (hs2p j hj).elim (HQ2.out j) (fun h => by omega))
        have hs2 := hB2.size
        clear hw2 hpr2 hs1p hs2p ht c0 c1 c2' c3 c4 hz hk0 HA
        obtain ⟨b9, o9, he9, hz, c0, c1, c2', c3, c4⟩ := (ORow.get (HL.out.below hB2) hlt)
        rw [HOPE.out] at c0 c1 c2' c3 c4
        cases he9
        clear hB2
        have HR := Lib.hid (fun v (q : Below w2.heap.size w2 v) => r29_Add m op.x op.y A2 c2 v (HPR2.out.below q) (by omega))
        generalize w2 = Y at *
        go_upto_region 8 with fail
        refine region_seqg (W := Y) [_, _, _, _, _, _, _, _, _, _, _] [_, _] rfl (by kernel_rfl) (by kernel_rfl) (by repeat (first | (with_reducible assumption) | (with_reducible exact Below.refl _ _) | (with_reducible refine Below.alloc ?_ (by first | omega | (simp; omega) | (simp; done) | (dsimp only; omega)) _) | (with_reducible refine Below.setCell ?_ (by first | omega | (simp; omega) | (simp; done) | (dsimp only; omega)) _) | (with_reducible refine Below.drew ?_) | (with_reducible refine Below.trans ?_ (Below.mono (by assumption) (by first | omega | (simp; omega) | (simp; done) | (dsimp only; omega)))))) (fun fin hfin => ?_)
        iterate 11
          first
            | (refine SeqG.yes (v := ?_) (A' := ?_) rfl (fun γ => by rfl) ?_ ?_ ?_
               rotate_left 2
               · intro γ w' K hS hK
                 obtain ⟨hc, hf⟩ := bcell hS
                 have hz := hS.size
                 go_simp
                 first
                   | exact hK.out _ (Below.refl _ _)
                   | trace_state
               · intro γ; simp only [Act.put, List.setIfInBounds_toArray, List.set_cons_zero, List.set_cons_succ]; exact rfl)
            | (refine SeqG.no (A' := ?_) rfl (fun γ => by rfl) ?_ ?_
               rotate_left
               · intro γ; simp only [Act.put, List.setIfInBounds_toArray, List.set_cons_zero, List.set_cons_succ]; exact rfl)
        refine SeqG.nil (hfin.out _ _ ?_)
        clear hfin fin
        intro γ lo hi w1 hB1 hF hD
        clear hD
        have HB1' := Lib.hid hB1
        have hs3 := hB1.size
        clear hF hB1
        refine TailL.cons (fun K hK => ?_)
        go_simp
        go_at_call 23
        refine (HR.out _ HB1'.out).mono ?_
        rintro e w3 ⟨⟨A3, c3', rfl, hr3, hb3⟩, hb⟩
        have HR3 := Lib.hid hr3
        have HB3 := Lib.hid hb3
        have HBY := Lib.hid (HB1'.out.trans (hb.mono hs3))
        clear hr3 hb3 hb
        refine hK.out _ _ ?_
        clear hK K
        refine TailL.cons (fun K hK => ?_)
        go_simp
        refine hK.out _ _ ?_
        clear hK K
        refine TailL.nil ?_
        clear c0 c1 c2' c3 c4 HR
        rw [← HST.out, ← HNX.out] at HR3
        have HNM := Lib.hid (show (addP m op.x op.y).length = (playP (l.take (i + 1))).length by rw [HNX.out, HST.out])
        have HRL := Lib.hid (show Rel (addF f op.x.cl op.y.cl) (addF g op.y.cl op.x.cl) (playP (l.take (i + 1))) by rw [HNX.out, HST.out]; exact HREL.out.add op.x op.y)
        generalize (addP m op.x op.y).length = nn at *
        clear HNL HNX HST
        go_wp2_with fail
        go_roundw
        case rel => exact ⟨i + 1, _, _, p1, p2, A3, c3', by omega, by go_num, by rw [HNM.out], HR3.out, fun a e => by
          have h1 := HB3.out a e
          exact ⟨fun h => by have := HW2.out.lt1 _ h; omega, fun h => by have := HW2.out.lt2 _ h; omega⟩, HW2.out.below HBY.out, HRL.out, HP1.out, HP2.out, HB2.out.trans (HBY.out.mono hs2)⟩
        case measure => simp [RowKit.intOf]; omega
      · by_cases k1 : op.k = 1
        · have hk0 : (op.k == 0) = false := by simpa using k0
          have hk1 : (op.k == 1) = true := by simpa using k1
          have HST := Lib.hid (show stepP m op = dropP m op.x by unfold stepP; rw [if_neg k0, if_pos k1])
          have HA := Lib.hid (web_drop wr W f g q1 q2 op.x HW.out (fun a b => by rw [HREL.out.on, HREL.out.of]) (fun a b h => HREL.out.clean (a, b) ((HREL.out.on a b).1 h)) (by have := le_firsts op.x.cl (HW.out.nodup1 op.x.cl) (fun z hz => (HREL.out.on _ z).1 hz); omega) (fun q hn hz => by have := le_seconds op.x.cl hn (fun z h => (HREL.out.of _ z).1 (hz z h)); omega))
          go_wp2_with fail
          go_at_call 20
          refine HA.out.mono ?_
          rintro e w2 ⟨rfl, f2, g2, hw2, hf2, hg2, ht⟩
          have hB2 : Below w0.heap.size w0 w2 := HB.out.trans (ht.below (fun j hj => hj.elim (HQ1.out j) (HQ2.out j)) hsB)
          have hpr2 : PRow w2 A2 m := HPR.out.touch ht (fun a e => by have h := HPB.out a e; exact fun h2 => h2.elim h.1 h.2)
          have HRL0 := Lib.hid (HREL.out.drop op.x hf2 hg2)
          have HW2 := Lib.hid hw2
          have HPR2 := Lib.hid hpr2
          have HB2 := Lib.hid hB2
          have hs2 := hB2.size
          clear hw2 hpr2 ht hf2 hg2 c0 c1 c2' c3 c4 hz HA
          obtain ⟨b9, o9, he9, hz, c0, c1, c2', c3, c4⟩ := (ORow.get (HL.out.below hB2) hlt)
          rw [HOPE.out] at c0 c1 c2' c3 c4
          cases he9
          clear hB2
          have HR := Lib.hid (r29_Drop m op.x A2 c2 w2 HPR2.out (by omega))
          go_wp2_with fail
          go_at_call 24
          refine HR.out.mono ?_
          rintro e w3 ⟨⟨A3, c3', rfl, hr3, hb3⟩, hb⟩
          have HR3 := Lib.hid hr3
          have HB3 := Lib.hid hb3
          have HBY := Lib.hid hb
          clear hr3 hb3 hb c0 c1 c2' c3 c4 HR
          rw [← HST.out, ← HNX.out] at HR3
          have HNM := Lib.hid (show (dropP m op.x).length = (playP (l.take (i + 1))).length by rw [HNX.out, HST.out])
          have HRL := Lib.hid (show Rel f2 g2 (playP (l.take (i + 1))) by rw [HNX.out, HST.out]; exact HRL0.out)
          generalize (dropP m op.x).length = nn at *
          clear HNL HNX HST HRL0
          go_wp2_with fail
          go_roundw
          case rel => exact ⟨i + 1, _, _, q1, q2, A3, c3', by omega, by go_num, by rw [HNM.out], HR3.out, fun a e => by
            have h1 := HB3.out a e
            exact ⟨fun h => by have := HW2.out.lt1 _ h; omega, fun h => by have := HW2.out.lt2 _ h; omega⟩, HW2.out.below HBY.out, HRL.out, HQ1.out, HQ2.out, HB2.out.trans (HBY.out.mono hs2)⟩
          case measure => simp [RowKit.intOf]; omega
        · by_cases k2 : op.k = 2
          · have hk0 : (op.k == 0) = false := by simpa using k0
            have hk1 : (op.k == 1) = false := by simpa using k1
            have hk2 : (op.k == 2) = true := by simpa using k2
            have HST := Lib.hid (show stepP m op = [] by unfold stepP; rw [if_neg k0, if_neg k1, if_pos k2])
            have HA := Lib.hid (web_clear wr W f g q1 q2 HW.out)
            go_wp2_with fail
            go_at_call 21
            refine HA.out.mono ?_
            rintro e w2 ⟨rfl, hw2, ht⟩
            have hB2 : Below w0.heap.size w0 w2 := HB.out.trans (ht.below (fun j hj => hj.elim (HQ1.out j) (HQ2.out j)) hsB)
            have HW2 := Lib.hid hw2
            have HB2 := Lib.hid hB2
            clear hw2 ht c0 c1 c2' c3 c4 hz HA hB2
            have HNM := Lib.hid (show playP (l.take (i + 1)) = [] by rw [HNX.out, HST.out])
            clear HNL HNX HST
            go_wp2_with fail
            go_roundw
            case rel => exact ⟨i + 1, _, _, q1, q2, none, 0, by omega, by go_num, by rw [HNM.out]; rfl, by rw [HNM.out]; exact GRow.nil _ _, fun a e => (by cases e), HW2.out, by rw [HNM.out]; exact Rel.none, HQ1.out, HQ2.out, HB2.out⟩
            case measure => simp [RowKit.intOf]; omega
          · have hk0 : (op.k == 0) = false := by simpa using k0
            have hk1 : (op.k == 1) = false := by simpa using k1
            have hk2 : (op.k == 2) = false := by simpa using k2
            have HST := Lib.hid (show stepP m op = m by unfold stepP; rw [if_neg k0, if_neg k1, if_neg k2])
            have HNM := Lib.hid (show playP (l.take (i + 1)) = m by rw [HNX.out, HST.out])
            clear HNL HNX HST
            go_wp2_with fail
            clear c0 c1 c2' c3 c4 hz
            go_roundw
            case rel => exact ⟨i + 1, _, _, q1, q2, A2, c2, by omega, by go_num, by rw [HNM.out], by rw [HNM.out]; exact HPR.out, HPB.out, HW.out, by rw [HNM.out]; exact HREL.out, HQ1.out, HQ2.out, HB.out⟩
            case measure => simp [RowKit.intOf]; omega
    · have ik : ¬ (i : Int) < l.length := by omega
      have hti : l.take i = l := List.take_of_length_le (by omega)
      have HTL := Lib.hid hti
      have HNN := Lib.hid (congrArg (fun z => (playP z).length) hti)
      clear hti
      generalize (playP (l.take i)).length = nn at *
      go_wp2_with fail
      go_ret
      refine ⟨⟨A2, ⟨c2, by rw [show nn = (playP l).length from HNN.out]; rfl⟩, ?_, f, g, ⟨q1, q2, HW.out⟩, ?_⟩, HB.out⟩
      · rw [← HTL.out]; exact HPR.out
      · rw [← HTL.out]; exact HREL.out
end Go.Proofs.Ytkmpkhbahmehmaa
