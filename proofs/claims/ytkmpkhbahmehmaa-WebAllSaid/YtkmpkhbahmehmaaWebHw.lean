/- X-PARTIAL A web: what keys lead to, at greater rows: layer 29. -/
import Derived.Test.YtkmpkhbahmehmaaWebH
import Derived.Test.YtkmpkhbahmehmaaKeyPw
namespace Go.Proofs.Ytkmpkhbahmehmaa
open Go.RowKit Go.Lib

theorem wpList_append_kkW {w : World} {ops : Array Oper} {rest : List Oper} {o : Oper} {a : Act} {Q : Exit → Act → World → Prop} (hgd : o.guard = none) (s x : Operand)
    (ho : o.op = .call { callee := .builtin .append, args := #[s, x], argTypes := #[30, 30] })
    (base : Nat) (v : Value) (l m : List Ky) (hs : a.eval s = v) (hown : OwnKv w base v l) (A : Option Addr) (c : Nat) (hx : a.eval x = .slice A m.length c) (hz : A ≠ none) (hm : KRow w A m)
    (hlen : l.length + m.length ≤ 9382499223534) (hbase : base ≤ w.heap.size)
    (h : ∀ v' w', OwnKv w' base v' (l ++ m) → w.grownBy w' v.ownBlock → wpList Try.prog ops Q rest (a.put o.dst v') w') :
    wpList Try.prog ops Q (o :: rest) a w := by
  obtain ⟨i0, gi, gz0, gz1, gz2⟩ := info_parts info_key
  cases A with
  | none => exact absurd rfl hz
  | some ad =>
    refine wpList_append_own_wide w hgd s x 30 ho base 24 i0 _ 2 24 Try.underlying30 gi gz0 gz1 gz2 rfl (by decide) v l.length (kcells l) hs hown ad m.length c (kcells m) hx (kcells_len m) ?_ (kcells_one m) (by unfold maxLen; omega) (wide24 hlen) hbase ?_
    · intro j u hj
      obtain ⟨i, h, hh⟩ := kcells_get? m j u hj
      obtain ⟨b, o, e, _, c0, c1⟩ := hm i h
      cases e
      rcases hh with ⟨rfl, rfl⟩ | ⟨rfl, rfl⟩
      · rw [addr_add]; exact c0
      · rw [addr_add]; exact c1
    · intro v' w' h2 h3 _
      refine h v' w' ?_ h3
      unfold OwnKv
      rw [List.length_append, kcells_append]
      exact h2

set_option maxRecDepth 100000 in
set_option maxHeartbeats 8000000 in
theorem web_reachedW (w : World) (r : Nat) (f : Ky → List Ky) (fp : Nat → Prop) (l : List Ky) (A : Option Addr) (c : Nat) (h : LinksAt w r f fp) (hr : KRow w A l) (hm : l.length * 24 ≤ 140737488355328)
    (hcl : ∀ a b, b ∈ f a → b.cl = b) (hbd : ∀ out : List Ky, out.Nodup → (∀ z ∈ out, Reach f l z) → out.length + 1 ≤ 9382499223534) :
    Calls Try.prog 30 #[.map (some r), .slice A l.length c] w fun e w' => (∃ g n N out, e = .returned (.slice (some ⟨g, 0, none⟩) n N) ∧ OwnK w' w.heap.size g n N out ∧ StrictK out ∧ ∀ z, z ∈ out ↔ Reach f l z) ∧ Below w.heap.size w w' := by
  have H := Lib.hid (key_Row l A c w hr (by omega))
  have HBD := Lib.hid hbd
  have HCL := Lib.hid hcl
  have HLK := Lib.hid h
  have HR := Lib.hid hr
  clear h hr hbd hcl
  go_enter Try.func30, Try.ntmps30
  go_wp2_with fail
  refine wp_scope_back 0 (fun a' w' => ∃ (wk : List Ky) (i S : Nat) (A5 : Option Addr) (c5 : Nat), ReachI w f l wk i S A5 c5 w' ∧ ∃ (u2 u3 u7 u8 u10 u11 u12 u13 u14 u15 u16 u17 u18 u19 u20 u21 u22 u23 u24 u25 u26 u27 u28 u29 u30 u31 u32 u33 u34 u35 u36 u37 u38 u39 u40 u41 u42 u43 u44 u45 u46 u47 u48 u49 u50 u51 u52 u53 u54 u55 u56 u57 u58 u59 : Value), a' = { tmps := #[.map (some r), .slice A l.length c, u2, u3, .slice none 0 0, .slice A5 wk.length c5, .map (some S), u7, u8, .int .i64 i, u10, u11, u12, u13, u14, u15, u16, u17, u18, u19, u20, u21, u22, u23, u24, u25, u26, u27, u28, u29, u30, u31, u32, u33, u34, u35, u36, u37, u38, u39, u40, u41, u42, u43, u44, u45, u46, u47, u48, u49, u50, u51, u52, u53, u54, u55, u56, u57, u58, u59], defers := [] }) (fun a' _ => 9382499223690 - (intOf (a'.tmps.getD 9 undef)).toNat) rfl ?pass ?first
  case first =>
    intro hfirst
    have HF := Lib.hid hfirst
    clear hfirst
    go_wp2_with fail
    go_at_call 29
    refine H.out.mono ?_
    rintro e w1 ⟨⟨g, n, N, rfl, ho⟩, hb1⟩
    have hmm := @run_makeMap Try.prog
    have hn := ho.1
    subst hn
    have HOW := Lib.hid (show OwnKv w1 w.heap.size (.slice (some ⟨g, 0, none⟩) (rowR l).length N) (rowR l) from ho.2.2)
    have HLN := Lib.hid (rowR_len l)
    have HMEM := Lib.hid (fun z => mem_rowR (l := l) (z := z))
    have HST := Lib.hid (strict_nodup (strict_rowR l))
    clear ho H
    generalize rowR l = rl at *
    go_upto_region 3 with fail
    have hb2 : Below w.heap.size w (w1.alloc (.map #[] 0)) := hb1.alloc hb1.size _
    have hset : SetAt (w1.alloc (.map #[] 0)) w1.heap.size [] := ⟨#[], 0, [], al_new _ _ rfl, mapE_nil _ _, rfl, fun p hp => by cases hp⟩
    have how2 := HOW.out.mono ((Below.refl _ w1).alloc (Nat.le_refl _) (.map #[] 0))
    have hS : w.heap.size ≤ w1.heap.size := hb1.size
    have hgS : g < w1.heap.size := ((HOW.out.lt g rfl).2)
    clear hb1 HOW hmm
    generalize w1.alloc (.map #[] 0) = X at *
    generalize w1.heap.size = S at *
    have HOW := Lib.hid how2
    have HB2 := Lib.hid hb2
    clear how2
    have hrn : rl.length ≤ 5864062014805 := by have := HLN.out; omega
    go_wp2_with fail
    go_loopw [18] (fun v18 wr => ∃ (k : Nat) (sl : List Ky), k ≤ rl.length ∧ v18 = .int .i64 k ∧ SetAt wr S sl ∧ (∀ z, z ∈ sl ↔ z ∈ rl.take k) ∧ Touch (fun i => i = S) X wr) (fun v18 _ => rl.length - (RowKit.intOf v18).toNat)
    case atStart => exact ⟨0, [], Nat.zero_le _, rfl, hset, fun z => by simp, Touch.refl _ _⟩
    case round =>
      obtain ⟨k, sl, hk, rfl, hsl, hms, ht⟩ := hrel
      have HMS := Lib.hid hms
      have HT := Lib.hid ht
      clear hms
      by_cases hlt : k < rl.length
      · have ik : (k : Int) < rl.length := by omega
        have how := HOW.out.touch ht (fun j e => by cases e; exact Nat.ne_of_lt hgS)
        have hkr : KRow wr (some ⟨g, 0, none⟩) rl := by
          obtain ⟨A9, c9, e9, h9⟩ := how.row
          cases e9
          exact h9
        obtain ⟨bb, oo, he, hz, c0, c1⟩ := hkr.get hlt
        cases he
        rw [Nat.zero_add] at c0 c1
        have HTK := Lib.hid (List.take_succ_eq_append_getElem hlt)
        clear hkr how ht
        generalize rl[k] = y at *
        go_upto_region 6 with fail
        have kY := al_new wr (.cells #[encStr y.n, .int .i64 y.d] 24) rfl
        have hbY : Below wr.heap.size wr (wr.alloc (.cells #[encStr y.n, .int .i64 y.d] 24)) := (Below.refl _ wr).alloc (Nat.le_refl _) _
        have hslY := hsl.kept (hbY.block S hsl.lt)
        have HTY := Lib.hid (HT.out.trans (Touch.of_below (fp := fun i => i = S) hbY) (fun i hi => Or.inl hi))
        clear hbY c0 c1
        unfold encStr at kY hslY HTY
        generalize wr.alloc (.cells #[.string ⟨y.n.toArray⟩, .int .i64 y.d] 24) = Y at *
        have cY := blk_cell kY
        obtain ⟨es, cl, L, hbS, hE, hkL, hv⟩ := hslY
        obtain ⟨es2, cl2, hE2, hrun⟩ := hE.store key_law set_under y (.agg #[])
        have st := hrun Y S hbS
        have HV := Lib.hid hv
        unfold encKy encStr at st
        clear hrun hv
        go_wp2_with fail
        clear st
        have hTZ : Touch (fun i => i = S) Y (Y.putObj S (.map es2 cl2)) := Touch.putObj (fp := fun i => i = S) Y rfl _
        have hs2 : SetAt (Y.putObj S (.map es2 cl2)) S (if y ∈ sl then sl else sl ++ [y]) := set_put hE hkL HV.out hE2 (World.putObj_heap_same (blk_lt hbS))
        go_roundw
        case rel => exact ⟨k + 1, _, by omega, by go_num, hs2, fun z => by rw [mem_ite, HTK.out, List.mem_append, List.mem_singleton, HMS.out], HTY.out.trans hTZ (fun i hi => Or.inl hi)⟩
        case measure => simp [RowKit.intOf]; omega
      · have ik : ¬ (k : Int) < rl.length := by omega
        have hkl : rl.take k = rl := List.take_of_length_le (by omega)
        rw [hkl] at HMS
        have how := HOW.out.touch ht (fun j e => by cases e; exact Nat.ne_of_lt hgS)
        have hB := (HB2.out.trans (ht.below (fun i hi => by omega) HB2.out.size))
        have HH := Lib.hid (show ReachI w f l rl 0 S (some ⟨g, 0, none⟩) N wr from ⟨how, HST.out, ⟨sl, hsl, HMS.out⟩, hS, Nat.zero_le _, fun z hz => by
          obtain ⟨y, hy, e⟩ := HMEM.out z |>.1 hz
          rw [e]; exact Reach.base hy, fun j hj h0 => absurd h0 (Nat.not_lt_zero _), fun y hy => (HMEM.out _).2 ⟨y, hy, rfl⟩, hB⟩)
        clear how hB hkl hsl ht
        go_wp2_with fail
        go_step3
        first | (rename_i hKK; refine hKK _ _ ?_) | trace_state
        exact HF.out _ _ ⟨rl, 0, S, some ⟨g, 0, none⟩, N, HH.out, _, _, _, _, _, _, _, _, _, _, _, _, _, _, _, _, _, _, _, _, _, _, _, _, _, _, _, _, _, _, _, _, _, _, _, _, _, _, _, _, _, _, _, _, _, _, _, _, _, _, _, _, _, _, rfl⟩
  case pass =>
    rintro a' w' ⟨wk, i, S, A5, c5, hI, u2, u3, u7, u8, u10, u11, u12, u13, u14, u15, u16, u17, u18, u19, u20, u21, u22, u23, u24, u25, u26, u27, u28, u29, u30, u31, u32, u33, u34, u35, u36, u37, u38, u39, u40, u41, u42, u43, u44, u45, u46, u47, u48, u49, u50, u51, u52, u53, u54, u55, u56, u57, u58, u59, rfl⟩
    obtain ⟨how, hnd, ⟨sl, hsl, hms⟩, hS, hi, hre, hdone, hbase, hB⟩ := hI
    have HWB := Lib.hid (HBD.out wk hnd hre)
    obtain ⟨A9, c9, e9, hkr⟩ := how.row
    cases e9
    have HOW := Lib.hid how
    have HND := Lib.hid hnd
    have HSL := Lib.hid hsl
    have HMS := Lib.hid hms
    have HRE := Lib.hid hre
    have HDN := Lib.hid hdone
    have HBS := Lib.hid hbase
    have HB := Lib.hid hB
    have hwl : wk.length ≤ 9382499223688 := by have := HWB.out; omega
    clear how hnd hsl hms hre hdone hbase
    by_cases hlt : i < wk.length
    · have ik : ((i : Int) == (wk.length : Int)) = false := by
        rw [beq_eq_false_iff_ne]; omega
      have ik1 : (i : Int) < wk.length := by omega
      obtain ⟨bb, oo, he, hz, c0, c1⟩ := hkr.get hlt
      cases he
      clear hkr
      have hk0 := Lib.hid (show wk[i]? = some wk[i] from List.getElem?_eq_getElem hlt)
      generalize wk[i] = k0 at *
      obtain ⟨es, clock, L, hb, hE, hrr, hltf, hin, hno, hinj⟩ := HLK.out.below (hB.mono (Nat.le_refl _))
      have lk := hE.look key_law links_under (z := .map none) (fun w => Try.zeroValue56 w) k0 false hb
      cases hg : getL k0 L with
      | none =>
        have hfk := hno k0 (key_getL.2 hg)
        rw [hg] at lk
        simp only [Bool.false_eq_true, if_false, Option.getD_none, encKy] at lk
        have rn := run_range_nil (P := Try.prog) set_under w'
        have hWB : Below w.heap.size w (w'.alloc (.mapIter none 0 #[] 0)) := hB.alloc hB.size _
        have how := HOW.out.mono ((Below.refl _ w').alloc (Nat.le_refl _) (.mapIter none 0 #[] 0))
        have hsl := HSL.out.kept (al_old w' (.mapIter none 0 #[] 0) HSL.out.lt)
        have kit := al_new w' (.mapIter none 0 #[] 0) rfl
        clear hin hno hinj hltf hrr hE hB
        go_wp2_with fail
        clear lk rn c0 c1 hz hb
        generalize hit : w'.heap.size = it at *
        generalize w'.alloc (.mapIter none 0 #[] 0) = W2 at *
        go_loopw [5] (fun v5 wr => v5 = .slice (some ⟨bb, oo, none⟩) wk.length c5 ∧ wr = W2) (fun _ _ => 0)
        case atStart => exact ⟨rfl, rfl⟩
        case round =>
          obtain ⟨rfl, rfl⟩ := hrel
          have nx := fun ty => run_next_nil (P := Try.prog) kit ty
          have HH := Lib.hid (show ReachI w f l wk (i + 1) S (some ⟨bb, oo, none⟩) c5 wr from ⟨how, HND.out, ⟨sl, hsl, HMS.out⟩, hS, by omega, HRE.out, (fun j hj hji b hb => by
            rcases Nat.lt_or_ge j i with h' | h'
            · exact HDN.out j hj h' b hb
            · have : j = i := by omega
              subst this
              have h0 := hk0.out
              rw [List.getElem?_eq_getElem hj] at h0
              rw [Option.some.inj h0, hfk] at hb
              cases hb), HBS.out, hWB⟩)
          clear how hsl hWB hfk
          go_wp2_with fail
          go_step3
          exact ⟨rfl, ⟨wk, i + 1, S, _, c5, HH.out, _, _, _, _, _, _, _, _, _, _, _, _, _, _, _, _, _, _, _, _, _, _, _, _, _, _, _, _, _, _, _, _, _, _, _, _, _, _, _, _, _, _, _, _, _, _, _, _, _, _, _, _, _, _, rfl⟩, by simp [intOf]; omega⟩
      | some v =>
        obtain ⟨n, rfl, hfn, hnr, hset⟩ := hin k0 v (getL_mem hg)
        obtain ⟨esn, cn, Ln, hbn, hEn, hkn, hvn⟩ := hset
        rw [hg] at lk
        simp only [Bool.false_eq_true, if_false, Option.getD_some, encKy] at lk
        have rn := run_range_map (P := Try.prog) set_under hbn
        have hzn : n < w.heap.size := HLK.out.lt n hfn
        have HBN := Lib.hid (show w.heap[n]? = some (.map esn cn) by rw [← hB.block n hzn]; exact hbn)
        have hWB : Below w.heap.size w (w'.alloc (.mapIter (some n) cn #[] cn)) := hB.alloc hB.size _
        have how := HOW.out.mono ((Below.refl _ w').alloc (Nat.le_refl _) (.mapIter (some n) cn #[] cn))
        have hsl := HSL.out.kept (al_old w' (.mapIter (some n) cn #[] cn) HSL.out.lt)
        have kit := al_new w' (.mapIter (some n) cn #[] cn) rfl
        have hSit : S < w'.heap.size := HSL.out.lt
        have hwit : w.heap.size ≤ w'.heap.size := hB.size
        have hitz : w'.heap.size + 1 ≤ (w'.alloc (.mapIter (some n) cn #[] cn)).heap.size := Nat.le_of_eq (al_size _ _).symm
        have HEN := Lib.hid hEn
        have HKN := Lib.hid hkn
        clear hin hno hinj hltf hrr hE hEn hkn hvn hg hfn hnr hB
        go_wp2_with fail
        clear lk rn c0 c1 hz hb hbn
        generalize hit : w'.heap.size = it at *
        generalize w'.alloc (.mapIter (some n) cn #[] cn) = W2 at *
        clear hit
        have HW2 := Lib.hid hWB
        have HH2 := Lib.hid how
        have HS2 := Lib.hid hsl
        clear hWB how hsl
        go_loopw [5] (fun v5 wr => ∃ (wk2 : List Ky) (A6 : Option Addr) (c6 : Nat) (sl2 dn : List Ky) (left : List (Ky × Value)) (seen : Array Nat), v5 = .slice A6 wk2.length c6 ∧ OwnKv wr w.heap.size v5 wk2 ∧ wk2.Nodup ∧ SetAt wr S sl2 ∧ (∀ z, z ∈ sl2 ↔ z ∈ wk2) ∧ (∃ t, wk2 = wk ++ t) ∧ (∀ z ∈ wk2, Reach f l z) ∧ (∀ b ∈ dn, b ∈ wk2) ∧ (keysL Ln).Perm (dn ++ keysL left) ∧ LeftE encKy esn seen left ∧ wr.heap[it]? = some (.mapIter (some n) cn seen cn) ∧ it + 1 ≤ wr.heap.size ∧ Below w.heap.size w wr) (fun _ wr => wr.rangeLeft n it)
        case atStart => exact ⟨wk, _, c5, sl, [], Ln, #[], rfl, HH2.out, HND.out, HS2.out, HMS.out, ⟨[], by simp⟩, HRE.out, fun b hb => (by cases hb), List.Perm.refl _, leftE_all HEN.out.1, kit, hitz, HW2.out⟩
        case round =>
          obtain ⟨wk2, A6, c6, sl2, dn, left, seen, rfl, how, hnd, hsl, hms, hext, hre, hdn, hp, hleft, hit, hsz, hB⟩ := hrel
          have hbn := (hB.block n hzn).trans HBN.out
          have hw2 : wk2.length + 1 ≤ 9382499223534 := HBD.out wk2 hnd hre
          have hml := rangeLeft_eq hbn hit hleft
          clear kit
          rcases HEN.out.next (P := Try.prog) hleft hit hbn with ⟨rfl, hnext⟩ | ⟨k, v, left', seen', w1, hpl, hw1, hnext, hleft', hentry⟩
          · have HH := Lib.hid (show ReachI w f l wk2 (i + 1) S A6 c6 wr from ⟨how, hnd, ⟨sl2, hsl, hms⟩, hS, by obtain ⟨t, rfl⟩ := hext; rw [List.length_append]; omega, hre, (fun j hj hji b hb => by
              obtain ⟨t, rfl⟩ := hext
              rcases Nat.lt_or_ge j i with h' | h'
              · rw [List.getElem_append_left (by omega)] at hb
                exact List.mem_append_left _ (HDN.out j (by omega) h' b hb)
              · have : j = i := by omega
                subst this
                have h0 := hk0.out
                rw [List.getElem?_eq_getElem hlt] at h0
                rw [List.getElem_append_left hlt, Option.some.inj h0, ← HKN.out] at hb
                have := hp.mem_iff.1 hb
                rw [show keysL ([] : List (Ky × Value)) = [] from rfl, List.append_nil] at this
                exact hdn b this), fun y hy => by
              obtain ⟨t, rfl⟩ := hext
              exact List.mem_append_left _ (HBS.out y hy), hB⟩)
            clear how hnd hsl hms hext hre hdn hp hleft hB hbn
            go_wp2_with fail
            go_step3
            exact ⟨rfl, ⟨wk2, i + 1, S, A6, c6, HH.out, _, _, _, _, _, _, _, _, _, _, _, _, _, _, _, _, _, _, _, _, _, _, _, _, _, _, _, _, _, _, _, _, _, _, _, _, _, _, _, _, _, _, _, _, _, _, _, _, _, _, _, _, _, _, rfl⟩, by simp [intOf]; omega⟩
          · have HP := Lib.hid hpl
            have HPP := Lib.hid hp
            have HL := Lib.hid hleft'
            have hll : left.length = left'.length + 1 := by simpa using hpl.length_eq
            have hz1 : w1.heap.size = wr.heap.size := by rcases hw1 with rfl | rfl <;> rfl
            have hit1 : w1.heap[it]? = some (.mapIter (some n) cn seen cn) := by rcases hw1 with rfl | rfl <;> exact hit
            have hbX : (w1.putObj it (.mapIter (some n) cn seen' cn)).heap[n]? = some (.map esn cn) := (World.putObj_heap_other (by omega)).trans (by rcases hw1 with rfl | rfl <;> exact hbn)
            have hitX : (w1.putObj it (.mapIter (some n) cn seen' cn)).heap[it]? = some (.mapIter (some n) cn seen' cn) := World.putObj_heap_same (blk_lt hit1)
            have hgr : w1.grownBy (w1.putObj it (.mapIter (some n) cn seen' cn)) (some it) := grownBy_putObj' _ _ _
            have how1 : OwnKv w1 w.heap.size (.slice A6 wk2.length c6) wk2 := by rcases hw1 with rfl | rfl <;> exact how
            have hB1 : Below w.heap.size w w1 := by
              rcases hw1 with rfl | rfl
              · exact hB
              · exact hB.drew
            have hsl1 : SetAt w1 S sl2 := by rcases hw1 with rfl | rfl <;> exact hsl
            have hBX : Below w.heap.size w (w1.putObj it (.mapIter (some n) cn seen' cn)) := hB1.grown hgr hB1.size (fun j e => by cases e; omega)
            have howX := how1.kept hgr (Or.inr (own_not_iter how1 hit1))
            have hslX := hsl1.grown hgr (fun e => by cases e; omega)
            have hzX : (w1.putObj it (.mapIter (some n) cn seen' cn)).heap.size = wr.heap.size := by rw [putObj_size, hz1]
            have en := hentry _ hitX hbX
            unfold encKy at en hnext
            clear hentry how how1 hsl hsl1 hB hB1 hgr hit hit1 hbn hp hpl hleft hleft'
            have HMS2 := Lib.hid hms
            have HRE2 := Lib.hid hre
            have HDN2 := Lib.hid hdn
            have HEX := Lib.hid hext
            have HND2 := Lib.hid hnd
            clear hms hre hdn hext hnd
            go_upto_region 13 with fail
            clear hnext
            generalize w1.putObj it (.mapIter (some n) cn seen' cn) = X at *
            clear hz1 hw1
            go_upto_region 14 with fail
            clear en
            have ky := al_new X (.cells #[encStr k.n, .int .i64 k.d] 24) hzX.symm
            have hbY : Below X.heap.size X (X.alloc (.cells #[encStr k.n, .int .i64 k.d] 24)) := (Below.refl _ X).alloc (Nat.le_refl _) _
            have hitY := (hbY.block _ (blk_lt hitX)).trans hitX
            have howY := (show OwnKv X w.heap.size (.slice A6 wk2.length c6) wk2 from howX).mono hbY
            have hslY := hslX.kept (hbY.block _ hslX.lt)
            have hBY := hBX.trans (hbY.mono hBX.size)
            have hzY : (X.alloc (.cells #[encStr k.n, .int .i64 k.d] 24)).heap.size = wr.heap.size + 1 := by rw [al_size, hzX]
            unfold encStr at ky hbY hitY howY hslY hBY hzY
            generalize X.alloc (.cells #[.string ⟨k.n.toArray⟩, .int .i64 k.d] 24) = Y at *
            have cy := blk_cell ky
            have zy := blk_lt ky
            clear hbY howX hBX hitX hbX hslX
            obtain ⟨esS, cS, LS, hbS, hES, hkS, hvS⟩ := hslY
            have HVS := Lib.hid hvS
            have lkS := hES.look key_law set_under (z := .agg #[]) (fun w => Try.zeroValue59 w) k true hbS
            have HIT := Lib.hid hitY
            have HOWY := Lib.hid howY
            have HBY := Lib.hid hBY
            have HZY := Lib.hid hzY
            have HKY := Lib.hid ky
            clear hvS hitY howY hBY hzY
            by_cases hk : k ∈ wk2
            · obtain ⟨v', hv'⟩ : ∃ v', getL k LS = some v' := by
                cases hgk : getL k LS with
                | none => exact absurd ((HMS2.out k).2 hk) (by rw [← hkS]; exact key_getL.2 hgk)
                | some v' => exact ⟨v', rfl⟩
              have hv0 : v' = .agg #[] := HVS.out _ (getL_mem hv')
              rw [hv', hv0] at lkS
              simp only [if_true, Option.getD_some, Option.isSome_some, encKy, encStr] at lkS
              go_upto_region 15 with fail
              have hYZ : Below Y.heap.size Y (Y.alloc (.cells #[] 59)) := (Below.refl _ Y).alloc (Nat.le_refl _) _
              have hitZ := (hYZ.block _ (blk_lt HIT.out)).trans HIT.out
              have howZ := HOWY.out.mono hYZ
              have hslZ : (Y.alloc (.cells #[] 59)).heap[S]? = some (.map esS cS) := (hYZ.block _ (blk_lt hbS)).trans hbS
              have hBZ := HBY.out.trans (hYZ.mono HBY.out.size)
              have kyZ := (hYZ.block _ zy).trans HKY.out
              have hzZ : (Y.alloc (.cells #[] 59)).heap.size = wr.heap.size + 2 := by rw [al_size, HZY.out]
              clear lkS cy zy
              generalize Y.alloc (.cells #[] 59) = Z at *
              clear hYZ
              go_wp2_with fail
              go_roundw
              case rel =>
                refine ⟨wk2, A6, c6, sl2, dn ++ [k], left', seen', rfl, howZ, HND2.out, ⟨esS, cS, LS, hslZ, hES, hkS, HVS.out⟩, HMS2.out, HEX.out, HRE2.out, fun b hb => ?_, HPP.out.trans ?_, HL.out, hitZ, by omega, hBZ⟩
                · rcases List.mem_append.1 hb with hb | hb
                  · exact HDN2.out b hb
                  · rw [List.mem_singleton] at hb; rw [hb]; exact hk
                · rw [List.append_assoc]
                  exact List.Perm.append_left dn (HP.out.map _)
              case measure =>
                rw [rangeLeft_eq ((hBZ.block n hzn).trans HBN.out) hitZ HL.out]; omega
            · have hgn : getL k LS = none := key_getL.1 (by rw [hkS]; exact fun h => hk ((HMS2.out k).1 h))
              rw [hgn] at lkS
              simp only [if_true, Option.getD_none, Option.isSome_none, encKy, encStr] at lkS
              go_upto_region 15 with fail
              have hYZ : Below Y.heap.size Y (Y.alloc (.cells #[] 59)) := (Below.refl _ Y).alloc (Nat.le_refl _) _
              have hitZ := (hYZ.block _ (blk_lt HIT.out)).trans HIT.out
              have howZ := HOWY.out.mono hYZ
              have hslZ : (Y.alloc (.cells #[] 59)).heap[S]? = some (.map esS cS) := (hYZ.block _ (blk_lt hbS)).trans hbS
              have hBZ := HBY.out.trans (hYZ.mono HBY.out.size)
              have kyZ := (hYZ.block _ zy).trans HKY.out
              have hzZ : (Y.alloc (.cells #[] 59)).heap.size = wr.heap.size + 2 := by rw [al_size, HZY.out]
              clear lkS cy zy
              generalize Y.alloc (.cells #[] 59) = Z at *
              clear hYZ
              have cz := blk_cell kyZ
              obtain ⟨es2, cl2, hE2, hrun⟩ := hES.store key_law set_under k (.agg #[])
              have st := hrun Z S hslZ
              unfold encKy encStr at st
              clear hrun
              have HRK := Lib.hid (show Reach f l k from by
                have h1 : k ∈ f k0 := by
                  rw [← HKN.out]
                  exact HPP.out.symm.mem_iff.1 (List.mem_append_right _ ((HP.out.map Prod.fst).symm.mem_iff.1 List.mem_cons_self))
                refine Reach.step (HRE.out k0 ?_) h1
                exact List.mem_of_getElem? hk0.out)
              have HND3 := Lib.hid (nodup_snoc HND2.out hk)
              have HRE3 := Lib.hid (show ∀ z ∈ wk2 ++ [k], Reach f l z from fun z hz => by
                rcases List.mem_append.1 hz with hz | hz
                · exact HRE2.out z hz
                · rw [List.mem_singleton] at hz; rw [hz]; exact HRK.out)
              go_upto_region 17 with fail
              clear st cz
              have hTZ : Touch (fun i => i = S) Z (Z.putObj S (.map es2 cl2)) := Touch.putObj (fp := fun i => i = S) Z rfl _
              have hs3 : SetAt (Z.putObj S (.map es2 cl2)) S (if k ∈ sl2 then sl2 else sl2 ++ [k]) := set_put hES hkS HVS.out hE2 (World.putObj_heap_same (blk_lt hslZ))
              have how3 := howZ.touch hTZ (fun j e h => own_not_map howZ hslZ (by rw [e, h]))
              have hit3 := (hTZ.block it (blk_lt hitZ) (by omega)).trans hitZ
              have ky3 := (hTZ.block _ (blk_lt kyZ) (by omega)).trans kyZ
              have hB3 := hBZ.trans (hTZ.below (fun i hi => by omega) hBZ.size)
              have hz3 : (Z.putObj S (.map es2 cl2)).heap.size = wr.heap.size + 2 := by rw [putObj_size, hzZ]
              clear hTZ hitZ howZ hslZ hBZ kyZ hzZ
              generalize Z.putObj S (.map es2 cl2) = V at *
              have cv := blk_cell ky3
              have HZ3 := Lib.hid hz3
              have HB3 := Lib.hid hB3
              have HS3 := Lib.hid hs3
              have HIT3 := Lib.hid hit3
              have zv := blk_lt ky3
              clear hz3 hB3 hs3 hit3 ky3
              go_wp2_with (at_builtin; refine wpList_append_kkW rfl _ _ rfl w.heap.size _ wk2 [k] rfl (how3.mono ((Below.refl _ V).alloc (Nat.le_refl _) _)) (some ⟨V.heap.size, 0, none⟩) 1 rfl (by simp) (krow_new k _ _ (al_new V _ rfl)) ?c1 ?c2 ?_)
              case c1 => simp; omega
              case c2 => rw [al_size]; have := HB3.out.size; omega
              · intro v' w'' hown' hgrow
                have HO := Lib.hid hown'
                have hz3 := HZ3.out
                have hVa := al_size V (.cells #[.string ⟨k.n.toArray⟩, .int .i64 k.d] 24)
                have hB4 : Below w.heap.size w w'' := Below.grown (HB3.out.alloc HB3.out.size (.cells #[.string ⟨k.n.toArray⟩, .int .i64 k.d] 24)) hgrow (by have := HB3.out.size; omega) (fun j e => (how3.lt j e).1)
                have hit4 : w''.heap[it]? = some (.mapIter (some n) cn seen' cn) := (hgrow.block _ (by have := blk_lt HIT3.out; omega) (fun e => own_not_iter how3 HIT3.out e.symm)).trans ((al_old V _ (blk_lt HIT3.out)).trans HIT3.out)
                have hs4 : SetAt w'' S (if k ∈ sl2 then sl2 else sl2 ++ [k]) := SetAt.grown (HS3.out.kept (al_old V (.cells #[.string ⟨k.n.toArray⟩, .int .i64 k.d] 24) HS3.out.lt)) hgrow (fun e => by
                  obtain ⟨e9, c9, L9, hb9, -⟩ := HS3.out
                  exact own_not_map how3 hb9 e)
                have hsz4 : it + 1 ≤ w''.heap.size := by have := hgrow.size; omega
                obtain ⟨A7, c7, e7, -⟩ := hown'.row
                clear hown' hgrow how3 cv zv
                subst e7
                go_wp2_with fail
                go_roundw
                case rel =>
                  refine ⟨wk2 ++ [k], A7, c7, _, dn ++ [k], left', seen', rfl, HO.out, HND3.out, hs4, fun z => ?_, ?_, HRE3.out, fun b hb => ?_, HPP.out.trans ?_, HL.out, hit4, hsz4, hB4⟩
                  · rw [mem_ite, HMS2.out, List.mem_append, List.mem_singleton]
                  · obtain ⟨t, ht⟩ := HEX.out
                    exact ⟨t ++ [k], by rw [ht, List.append_assoc]⟩
                  · rcases List.mem_append.1 hb with hb | hb
                    · exact List.mem_append_left _ (HDN2.out b hb)
                    · exact List.mem_append_right _ hb
                  · rw [List.append_assoc]
                    exact List.Perm.append_left dn (HP.out.map _)
                case measure =>
                  rw [rangeLeft_eq ((hB4.block n hzn).trans HBN.out) hit4 HL.out]; omega
    · have hie : i = wk.length := by omega
      have ik : ((i : Int) == (wk.length : Int)) = true := by rw [hie]; exact beq_self_eq_true _
      have H2 := Lib.hid (key_Row wk A5 c5 w' hkr (by have := HWB.out; omega))
      have hsB := hB.size
      clear hkr
      go_wp2_with fail
      go_at_call 29
      refine H2.out.mono ?_
      rintro e w2 ⟨⟨g, n, N, rfl, ho⟩, hb2⟩
      have HO := Lib.hid (ho.base hsB)
      have HB2 := Lib.hid (HB.out.trans (hb2.mono hsB))
      clear ho hb2 H2 hB
      go_wp2_with fail
      simp only [Exit.jump]
      go_ret
      refine ⟨⟨g, n, N, rowR wk, rfl, HO.out, strict_rowR wk, fun z => ?_⟩, HB2.out⟩
      rw [mem_rowR]
      constructor
      · rintro ⟨y, hy, rfl⟩
        rw [(HRE.out y hy).cl_eq HCL.out]
        exact HRE.out y hy
      · intro h
        exact ⟨z, reach_in HBS.out (fun j hj b hb => HDN.out j hj (by omega) b hb) h, (h.cl_eq HCL.out).symm⟩
set_option maxRecDepth 100000 in
set_option maxHeartbeats 2000000 in
theorem web_belowW (w : World) (W : Nat) (f g : Ky → List Ky) (fp1 fp2 : Nat → Prop) (l : List Ky) (A : Option Addr) (c : Nat) (h : WebAt w W f g fp1 fp2) (hr : KRow w A l) (hm : l.length * 24 ≤ 140737488355328)
    (hcl : ∀ a b, b ∈ g a → b.cl = b) (hbd : ∀ out : List Ky, out.Nodup → (∀ z ∈ out, Reach g l z) → out.length + 1 ≤ 9382499223534) :
    Calls Try.prog 15 #[.pointer (some ⟨W, 0, none⟩), .slice A l.length c] w fun e w' => (∃ gg n N out, e = .returned (.slice (some ⟨gg, 0, none⟩) n N) ∧ OwnK w' w.heap.size gg n N out ∧ StrictK out ∧ ∀ z, z ∈ out ↔ Reach g l z) ∧ Below w.heap.size w w' := by
  obtain ⟨r1, r2, hb, hl1, hl2, hd, hn1, hn2⟩ := h
  have m1 := blk_cell hb 1
  simp only [List.getElem?_toArray, List.getElem?_cons_zero, List.getElem?_cons_succ] at m1
  have zm := blk_lt hb
  have H := Lib.hid (web_reachedW w r2 g fp2 l A c hl2 hr hm hcl hbd)
  clear hr hm hl1 hl2 hcl hbd hd hn1 hn2 hb
  go_enter Try.func15, Try.ntmps15
  go_wp2_with fail
  go_at_call 30
  refine H.out.mono ?_
  rintro e w1 ⟨⟨gg, n, N, out, rfl, ho, hs, hz⟩, hb1⟩
  have HO := Lib.hid ho
  have HS := Lib.hid hs
  have HZ := Lib.hid hz
  clear H ho hs hz
  go_wp2_with fail
  go_ret
  exact ⟨⟨gg, n, N, out, rfl, HO.out, HS.out, HZ.out⟩, hb1⟩

set_option maxRecDepth 100000 in
set_option maxHeartbeats 2000000 in
theorem web_aboveW (w : World) (W : Nat) (f g : Ky → List Ky) (fp1 fp2 : Nat → Prop) (l : List Ky) (A : Option Addr) (c : Nat) (h : WebAt w W f g fp1 fp2) (hr : KRow w A l) (hm : l.length * 24 ≤ 140737488355328)
    (hcl : ∀ a b, b ∈ f a → b.cl = b) (hbd : ∀ out : List Ky, out.Nodup → (∀ z ∈ out, Reach f l z) → out.length + 1 ≤ 9382499223534) :
    Calls Try.prog 17 #[.pointer (some ⟨W, 0, none⟩), .slice A l.length c] w fun e w' => (∃ gg n N out, e = .returned (.slice (some ⟨gg, 0, none⟩) n N) ∧ OwnK w' w.heap.size gg n N out ∧ StrictK out ∧ ∀ z, z ∈ out ↔ Reach f l z) ∧ Below w.heap.size w w' := by
  obtain ⟨r1, r2, hb, hl1, hl2, hd, hn1, hn2⟩ := h
  have m1 := blk_cell hb 0
  simp only [List.getElem?_toArray, List.getElem?_cons_zero] at m1
  have zm := blk_lt hb
  have H := Lib.hid (web_reachedW w r1 f fp1 l A c hl1 hr hm hcl hbd)
  clear hr hm hl1 hl2 hcl hbd hd hn1 hn2 hb
  go_enter Try.func17, Try.ntmps17
  go_wp2_with fail
  go_at_call 30
  refine H.out.mono ?_
  rintro e w1 ⟨⟨gg, n, N, out, rfl, ho, hs, hz⟩, hb1⟩
  have HO := Lib.hid ho
  have HS := Lib.hid hs
  have HZ := Lib.hid hz
  clear H ho hs hz
  go_wp2_with fail
  go_ret
  exact ⟨⟨gg, n, N, out, rfl, HO.out, HS.out, HZ.out⟩, hb1⟩
end Go.Proofs.Ytkmpkhbahmehmaa
