/- X-PARTIAL key.Cut: layer 26. -/
import Derived.Test.YtoclpodjigfmgaaDoorKeyX
namespace Go.Proofs.YtoclpodjigfmgaaDoor
open Go.RowKit Go.Lib

/-- Where the captured key lies. -/
def CapK (w : World) (b : Nat) (k : Ky) : Prop := b < w.heap.size ∧ w.cell? ⟨b, 0, none⟩ = some (encStr k.n) ∧ w.cell? ⟨b, 1, none⟩ = some (.int .i64 k.d)
theorem CapK.mono {w w' : World} {b : Nat} {k : Ky} (h : CapK w b k) (hb : Below w.heap.size w w') : CapK w' b k :=
  ⟨Nat.lt_of_lt_of_le h.1 hb.size, (hb.cell (p := ⟨b, 0, none⟩) h.1).trans h.2.1, (hb.cell (p := ⟨b, 1, none⟩) h.1).trans h.2.2⟩
theorem CapK.grown {w w' : World} {b : Nat} {r : Option Nat} {k : Ky} (h : CapK w b k) (hb : w.grownBy w' r) (hr : r ≠ some b) : CapK w' b k :=
  ⟨Nat.lt_of_lt_of_le h.1 hb.size, hb.cell h.2.1 (fun e => hr e.symm), hb.cell h.2.2 (fun e => hr e.symm)⟩

set_option maxRecDepth 100000 in
set_option maxHeartbeats 2000000 in
theorem cut1 (x k : Ky) (b : Nat) (w : World) (hk : CapK w b k) :
    Calls Tryd.prog 30 #[.agg #[encStr x.n, .int .i64 x.d], .pointer (some ⟨b, 0, none⟩)] w fun e w' => e = .returned (.bool (decide (x = k.cl))) ∧ Below w.heap.size w w' := by
  have hB : Below w.heap.size w (w.alloc (.cells #[encStr x.n, .int .i64 x.d] 24)) := (Below.refl _ w).alloc (Nat.le_refl _) _
  obtain ⟨hz, c0, c1⟩ := hk.mono hB
  have q0 : (w.alloc (.cells #[encStr x.n, .int .i64 x.d] 24)).cell? ⟨w.heap.size, 0, none⟩ = some (encStr x.n) := by simp [go_sem]
  have q1 : (w.alloc (.cells #[encStr x.n, .int .i64 x.d] 24)).cell? ⟨w.heap.size, 1, none⟩ = some (.int .i64 x.d) := by simp [go_sem]
  have zw : w.heap.size < (w.alloc (.cells #[encStr x.n, .int .i64 x.d] 24)).heap.size := by rw [World.size_alloc]; omega
  have hB0 := Lib.hid hB
  have HK := Lib.hid (key_Clean k)
  clear hk hB
  by_cases hx : x = k.cl
  · rw [decide_eq_true hx]
    rw [← hx] at HK
    clear hx
    go_enter Tryd.func30, Tryd.ntmps30
    go_wp2_with fail
    generalize w.alloc (.cells #[encStr x.n, .int .i64 x.d] 24) = W0 at *
    refine region_seq (S := fun w' => Below W0.heap.size W0 w') rfl (by kernel_rfl) (by kernel_rfl) (by repeat (first | (with_reducible assumption) | (with_reducible exact Below.refl _ _) | (with_reducible refine Below.alloc ?_ (by first | omega | (simp; omega) | (simp; done) | (dsimp only; omega)) _) | (with_reducible refine Below.setCell ?_ (by first | omega | (simp; omega) | (simp; done) | (dsimp only; omega)) _) | (with_reducible refine Below.drew ?_) | (with_reducible refine Below.trans ?_ (Below.mono (by assumption) (by first | omega | (simp; omega) | (simp; done) | (dsimp only; omega)))))) (fun fin hfin => ?_)
    iterate 5
      first
        | (refine SeqL.yes (v := ?_) (A' := ?_) rfl (by rfl) ?_ ?_ ?_
           rotate_left 2
           · intro w' K hS hK
             obtain ⟨hc, hf⟩ := bcell hS
             have hz := hS.size
             go_simp
             first
               | exact hK.out _ hS
               | (go_at_call 16; (with_reducible refine (HK.out _).mono ?_); rintro e w1 ⟨rfl, hb1⟩; exact hK.out _ (hS.trans (hb1.mono hz)))
               | trace_state
           · simp only [Act.put, List.setIfInBounds_toArray, List.set_cons_zero, List.set_cons_succ]; exact rfl)
        | (refine SeqL.no (A' := ?_) rfl (by rfl) ?_ ?_
           rotate_left
           · simp only [Act.put, List.setIfInBounds_toArray, List.set_cons_zero, List.set_cons_succ]; exact rfl)
    refine SeqL.nil (hfin.out _ ?_)
    clear hfin fin
    intro w1 hS1
    go_wp2_with fail
    go_ret
    exact ⟨rfl, hB0.out.trans (hS1.mono hB0.out.size)⟩
  · rw [decide_eq_false hx]
    have hne := key_ne hx
    clear hx
    generalize k.cl = q at *
    rcases hne with e1 | ⟨e1, e2⟩
    · go_enter Tryd.func30, Tryd.ntmps30
      go_wp2_with fail
      generalize w.alloc (.cells #[encStr x.n, .int .i64 x.d] 24) = W0 at *
      refine region_seq (S := fun w' => Below W0.heap.size W0 w') rfl (by kernel_rfl) (by kernel_rfl) (by repeat (first | (with_reducible assumption) | (with_reducible exact Below.refl _ _) | (with_reducible refine Below.alloc ?_ (by first | omega | (simp; omega) | (simp; done) | (dsimp only; omega)) _) | (with_reducible refine Below.setCell ?_ (by first | omega | (simp; omega) | (simp; done) | (dsimp only; omega)) _) | (with_reducible refine Below.drew ?_) | (with_reducible refine Below.trans ?_ (Below.mono (by assumption) (by first | omega | (simp; omega) | (simp; done) | (dsimp only; omega)))))) (fun fin hfin => ?_)
      iterate 5
        first
          | (refine SeqL.yes (v := ?_) (A' := ?_) rfl (by rfl) ?_ ?_ ?_
             rotate_left 2
             · intro w' K hS hK
               obtain ⟨hc, hf⟩ := bcell hS
               have hz := hS.size
               go_simp
               first
                 | exact hK.out _ hS
                 | (go_at_call 16; (with_reducible refine (HK.out _).mono ?_); rintro e w1 ⟨rfl, hb1⟩; exact hK.out _ (hS.trans (hb1.mono hz)))
                 | trace_state
             · simp only [Act.put, List.setIfInBounds_toArray, List.set_cons_zero, List.set_cons_succ]; exact rfl)
          | (refine SeqL.no (A' := ?_) rfl (by rfl) ?_ ?_
             rotate_left
             · simp only [Act.put, List.setIfInBounds_toArray, List.set_cons_zero, List.set_cons_succ]; exact rfl)
      refine SeqL.nil (hfin.out _ ?_)
      clear hfin fin
      intro w1 hS1
      go_wp2_with fail
      go_ret
      exact ⟨rfl, hB0.out.trans (hS1.mono hB0.out.size)⟩
    · go_enter Tryd.func30, Tryd.ntmps30
      go_wp2_with fail
      generalize w.alloc (.cells #[encStr x.n, .int .i64 x.d] 24) = W0 at *
      refine region_seq (S := fun w' => Below W0.heap.size W0 w') rfl (by kernel_rfl) (by kernel_rfl) (by repeat (first | (with_reducible assumption) | (with_reducible exact Below.refl _ _) | (with_reducible refine Below.alloc ?_ (by first | omega | (simp; omega) | (simp; done) | (dsimp only; omega)) _) | (with_reducible refine Below.setCell ?_ (by first | omega | (simp; omega) | (simp; done) | (dsimp only; omega)) _) | (with_reducible refine Below.drew ?_) | (with_reducible refine Below.trans ?_ (Below.mono (by assumption) (by first | omega | (simp; omega) | (simp; done) | (dsimp only; omega)))))) (fun fin hfin => ?_)
      iterate 5
        first
          | (refine SeqL.yes (v := ?_) (A' := ?_) rfl (by rfl) ?_ ?_ ?_
             rotate_left 2
             · intro w' K hS hK
               obtain ⟨hc, hf⟩ := bcell hS
               have hz := hS.size
               go_simp
               first
                 | exact hK.out _ hS
                 | (go_at_call 16; (with_reducible refine (HK.out _).mono ?_); rintro e w1 ⟨rfl, hb1⟩; exact hK.out _ (hS.trans (hb1.mono hz)))
                 | trace_state
             · simp only [Act.put, List.setIfInBounds_toArray, List.set_cons_zero, List.set_cons_succ]; exact rfl)
          | (refine SeqL.no (A' := ?_) rfl (by rfl) ?_ ?_
             rotate_left
             · simp only [Act.put, List.setIfInBounds_toArray, List.set_cons_zero, List.set_cons_succ]; exact rfl)
      refine SeqL.nil (hfin.out _ ?_)
      clear hfin fin
      intro w1 hS1
      go_wp2_with fail
      go_ret
      exact ⟨rfl, hB0.out.trans (hS1.mono hB0.out.size)⟩

set_option maxRecDepth 100000 in
set_option maxHeartbeats 4000000 in
theorem key_index (l : List Ky) (k : Ky) (b ca : Nat) (A : Option Addr) (w : World) (hm : l.length ≤ 140737488355328) (hr : KRow w A l) (hk : CapK w b k) :
    Calls Tryd.prog 46 #[.slice A l.length ca, .func (.func 30) #[] #[.pointer (some ⟨b, 0, none⟩)]] w fun e w' =>
      (∃ i : Nat, (∀ x ∈ l.take i, x ≠ k.cl) ∧ ((∃ h : i < l.length, l[i] = k.cl ∧ e = .returned (.int .i64 i)) ∨ (i = l.length ∧ e = .returned (.int .i64 (-1))))) ∧ Below w.heap.size w w' := by
  go_enter Tryd.func46, Tryd.ntmps46
  go_wp2_with fail
  go_loopw [8] (fun v5 wr => ∃ i : Nat, i ≤ l.length ∧ v5 = .int .i64 i ∧ (∀ x ∈ l.take i, x ≠ k.cl) ∧ Below w.heap.size w wr) (fun v5 _ => l.length - (RowKit.intOf v5).toNat)
  case atStart => exact ⟨0, Nat.zero_le _, rfl, fun x hx => absurd hx (by simp), Below.refl _ _⟩
  case round =>
    obtain ⟨i, hi, rfl, hall, hB⟩ := hrel
    by_cases hlt : i < l.length
    · have ik : (i : Int) < l.length := by omega
      obtain ⟨b', o, he, hz, c0, c1⟩ := (hr.mono hB).get hlt
      have HC := Lib.hid (fun W h => cut1 l[i] k b W h)
      have HAL := Lib.hid hall
      have HCP := Lib.hid (hk.mono hB)
      have HB := Lib.hid hB
      have HTK := Lib.hid (List.take_succ_eq_append_getElem hlt)
      cases he
      clear hr hall hk hB
      by_cases hx : l[i] = k.cl
      · rw [decide_eq_true hx] at HC
        have HX := Lib.hid (show ∃ h : i < l.length, l[i] = k.cl from ⟨hlt, hx⟩)
        clear hx
        generalize l[i] = x at *
        go_wp2_with fail
        go_at_call 30
        refine (HC.out _ HCP.out).mono ?_
        rintro e w1 ⟨rfl, hb1⟩
        have HB1 := Lib.hid (HB.out.trans (hb1.mono HB.out.size))
        clear hb1 HB c0 c1 HC
        go_wp2_with fail
        go_ret
        obtain ⟨h1, h2⟩ := HX.out
        exact ⟨⟨i, HAL.out, .inl ⟨h1, h2, rfl⟩⟩, HB1.out⟩
      · rw [decide_eq_false hx] at HC
        have HX := Lib.hid hx
        clear hx
        generalize l[i] = x at *
        go_wp2_with fail
        go_at_call 30
        refine (HC.out _ HCP.out).mono ?_
        rintro e w1 ⟨rfl, hb1⟩
        have HB1 := Lib.hid (HB.out.trans (hb1.mono HB.out.size))
        clear hb1 HB c0 c1 HC
        go_wp2_with fail
        go_roundw
        case rel => exact ⟨i + 1, by omega, by go_num, fun y hy => by
          rw [HTK.out] at hy
          rcases List.mem_append.1 hy with hy | hy
          · exact HAL.out y hy
          · rw [List.mem_singleton] at hy; subst hy; exact HX.out, HB1.out⟩
        case measure => simp [RowKit.intOf]; omega
    · have ik : ¬ (i : Int) < l.length := by omega
      have e : i = l.length := by omega
      subst e
      have HAL := Lib.hid hall
      clear hr hall
      go_wp2_with fail
      go_ret
      exact ⟨⟨l.length, HAL.out, .inr ⟨rfl, rfl⟩⟩, hB⟩

theorem grown_below {A B : World} {r : Option Nat} (h : Below A.heap.size A B) : A.grownBy B r := ⟨h.os, h.tape, h.output, h.size, fun k hk _ => h.block k hk⟩
theorem filter_next {l : List Ky} {j : Nat} (q : Ky) (h : j < l.length) : (l.take (j + 1)).filter (fun x => !decide (x = q)) = (l.take j).filter (fun x => !decide (x = q)) ++ if l[j] = q then [] else [l[j]] := by
  rw [List.take_succ_eq_append_getElem h, List.filter_append, List.filter_cons, List.filter_nil]
  by_cases hx : l[j] = q
  · rw [if_pos hx, if_neg (by simpa using hx)]
  · rw [if_neg hx, if_pos (by simpa using hx)]
theorem filter_all {l : List Ky} {i : Nat} (q : Ky) (h : ∀ x ∈ l.take i, x ≠ q) : (l.take i).filter (fun x => !decide (x = q)) = l.take i :=
  List.filter_eq_self.2 (fun x hx => by simpa using h x hx)

set_option maxRecDepth 100000 in
set_option maxHeartbeats 8000000 in
theorem key_delete (l : List Ky) (k : Ky) (b g cap base : Nat) (w : World) (hm : l.length ≤ 140737488355328) (hcp : l.length ≤ cap) (hk : CapK w b k) (hbg : b ≠ g) (hown : w.ownsRow base 24 2 (.slice (some ⟨g, 0, none⟩) l.length cap) l.length (kcells l)) :
    Calls Tryd.prog 29 #[.slice (some ⟨g, 0, none⟩) l.length cap, .func (.func 30) #[] #[.pointer (some ⟨b, 0, none⟩)]] w fun e w' =>
      (e = .returned (.slice (some ⟨g, 0, none⟩) (l.filter fun x => !decide (x = k.cl)).length cap) ∧
      w'.ownsRow base 24 2 (.slice (some ⟨g, 0, none⟩) (l.filter fun x => !decide (x = k.cl)).length cap) (l.filter fun x => !decide (x = k.cl)).length (kcells (l.filter fun x => !decide (x = k.cl)))) ∧ w.grownBy w' (some g) := by
  generalize hDL : (l.filter fun x => !decide (x = k.cl)) = DL
  have HDL := Lib.hid hDL
  have HIX := Lib.hid (key_index l k b cap (some ⟨g, 0, none⟩) w hm (OwnK.krow (n := l.length) (cap := cap) ⟨rfl, hcp, hown⟩) hk)
  clear hDL
  go_enter Tryd.func29, Tryd.ntmps29
  go_wp2_with fail
  go_at_call 46
  refine HIX.out.mono ?_
  rintro e w1 ⟨⟨i, hall, hi⟩, hb1⟩
  have hgr1 := grown_below (r := some g) hb1
  have hown1 := own_kept hown (below_grown hb1) (fun r e => by cases e)
  have hk1 := hk.mono hb1
  clear HIX hb1 hown hk
  rcases hi with ⟨hlt, hx, rfl⟩ | ⟨rfl, rfl⟩
  · have hst := filter_next k.cl hlt
    rw [if_pos hx, List.append_nil, filter_all _ hall] at hst
    clear hall hx
    have im : ((i : Int) == -1) = false := by rw [beq_eq_false_iff_ne]; omega
    go_wp2_with fail
    go_loopw [5, 6] (fun v5 v6 wx => ∃ (j c : Nat) (C : List Ky), v6 = .int .i64 (j : Int) ∧ v5 = .int .i64 (c : Int) ∧ j ≤ l.length ∧ c < j ∧ C.length = l.length ∧ C.take c = (l.take j).filter (fun x => !decide (x = k.cl)) ∧ (∀ p, j ≤ p → C[p]? = l[p]?) ∧
        wx.ownsRow base 24 2 (.slice (some ⟨g, 0, none⟩) l.length cap) l.length (kcells C) ∧ CapK wx b k ∧ w.grownBy wx (some g)) (fun _ v6 _ => l.length - (RowKit.intOf v6).toNat)
    case atStart => exact ⟨i + 1, i, l, by go_num, rfl, hlt, by omega, rfl, hst.symm, fun _ _ => rfl, hown1, hk1, hgr1⟩
    case round =>
      obtain ⟨j, c, C, rfl, rfl, hj, hc, hCl, hCt, hCd, hownC, hkC, hgrC⟩ := hrel
      by_cases hlj : j < l.length
      · have hpC : j < C.length := by omega
        have hcC : c < C.length := by omega
        have ij : (j : Int) < l.length := by omega
        have icl : (c : Int) < l.length := by omega
        have hCj : C[j] = l[j] := by
          have := hCd j (Nat.le_refl _)
          rw [List.getElem?_eq_getElem hpC, List.getElem?_eq_getElem hlj] at this
          exact Option.some.inj this
        obtain ⟨a0, a1⟩ := own_get hownC hCl hpC
        rw [hCj] at a0 a1
        have HNX := Lib.hid (filter_next k.cl hlj)
        have HCT := Lib.hid hCt
        have HCD := Lib.hid hCd
        have HOC := Lib.hid hownC
        have HCL := Lib.hid hCl
        have HKC := Lib.hid hkC
        have HCU := Lib.hid (fun W h => cut1 l[j] k b W h)
        have hgs : g < wr.heap.size := (hownC.lt g rfl).2
        clear hCt hCd hCj hkC
        by_cases he : l[j] = k.cl
        · have HT := Lib.hid (show C.take c = (l.take (j + 1)).filter (fun x => !decide (x = k.cl)) by rw [HCT.out, HNX.out, if_pos he, List.append_nil])
          rw [decide_eq_true he] at HCU
          clear HNX HCT he hownC hCl
          generalize l[j] = y at *
          have hbv : Below wr.heap.size wr (wr.alloc (.cells #[encStr y.n, .int .i64 y.d] 24)) := (Below.refl _ wr).alloc (Nat.le_refl _) _
          have HBV := Lib.hid hbv
          clear hbv
          go_wp2_with fail
          go_at_call 30
          refine (HCU.out _ (HKC.out.mono HBV.out)).mono ?_
          rintro e w2 ⟨rfl, hb2⟩
          have HB2 := Lib.hid (HBV.out.trans (hb2.mono HBV.out.size))
          clear hb2 HBV HCU a0 a1
          go_wp2_with fail
          go_roundw
          case rel => exact ⟨j + 1, c, C, by go_num, rfl, by omega, by omega, HCL.out, HT.out, fun p hp => HCD.out p (by omega), own_kept HOC.out (below_grown HB2.out) (fun r e => by cases e), HKC.out.mono HB2.out, grown_trans hgrC (grown_below HB2.out)⟩
          case measure => simp [RowKit.intOf]; omega
        · have HT := Lib.hid (show ∀ y, y = l[j] → (C.set c y).take (c + 1) = (l.take (j + 1)).filter (fun x => !decide (x = k.cl)) from fun y hy => by
            rw [HNX.out, if_neg he, ← HCT.out, ← hy]
            rw [List.take_succ_eq_append_getElem (by rw [List.length_set]; exact hcC), List.take_set_of_le (Nat.le_refl _), List.getElem_set_self])
          rw [decide_eq_false he] at HCU
          clear HNX HCT he hownC hCl
          generalize hy : l[j] = y at *
          clear hy
          have hbv : Below wr.heap.size wr (wr.alloc (.cells #[encStr y.n, .int .i64 y.d] 24)) := (Below.refl _ wr).alloc (Nat.le_refl _) _
          have HBV := Lib.hid hbv
          have v0 : (wr.alloc (.cells #[encStr y.n, .int .i64 y.d] 24)).cell? ⟨wr.heap.size, 0, none⟩ = some (encStr y.n) := by simp [go_sem]
          have v1 : (wr.alloc (.cells #[encStr y.n, .int .i64 y.d] 24)).cell? ⟨wr.heap.size, 1, none⟩ = some (.int .i64 y.d) := by simp [go_sem]
          have vz : wr.heap.size < (wr.alloc (.cells #[encStr y.n, .int .i64 y.d] 24)).heap.size := by rw [World.size_alloc]; omega
          have HV0 := Lib.hid v0
          have HV1 := Lib.hid v1
          have HVZ := Lib.hid vz
          clear hbv v0 v1 vz
          go_wp2_with fail
          go_at_call 30
          refine (HCU.out _ (HKC.out.mono HBV.out)).mono ?_
          rintro e w2 ⟨rfl, hb2⟩
          have d0 := (hb2.cell (p := ⟨wr.heap.size, 0, none⟩) HVZ.out).trans HV0.out
          have d1 := (hb2.cell (p := ⟨wr.heap.size, 1, none⟩) HVZ.out).trans HV1.out
          have HB2 := Lib.hid (HBV.out.trans (hb2.mono HBV.out.size))
          clear hb2 HBV HCU a0 a1 HV0 HV1 HVZ
          have hown2 := own_kept HOC.out (below_grown HB2.out) (fun r e => by cases e)
          obtain ⟨b0, b1⟩ := own_get hown2 HCL.out hcC
          have f0 := hown2.frozenAt (c * 2)
          have f1 := hown2.frozenAt (c * 2 + 1)
          have HST := Lib.hid (own_store hown2 hcC y)
          have HK2 := Lib.hid (HKC.out.mono HB2.out)
          have HG2 := Lib.hid (grown_trans hgrC (grown_below HB2.out))
          clear hown2 hgrC HB2 HOC HKC
          generalize C[c] = zz at *
          go_wp2_with fail
          go_roundw
          case rel => exact ⟨j + 1, c + 1, C.set c y, by go_num, by go_num, by omega, by omega, by rw [List.length_set]; exact HCL.out, HT.out _ rfl, fun p hp => by rw [List.getElem?_set_ne (by omega)]; exact HCD.out p (by omega), HST.out.1, CapK.grown HK2.out HST.out.2 (fun e => hbg (Option.some.inj e).symm), grown_trans HG2.out HST.out.2⟩
          case measure => simp [RowKit.intOf]; omega
      · have ij : ¬ (j : Int) < l.length := by omega
        have hjl : j = l.length := by omega
        have hcn : C.take c = DL := by rw [hCt, hjl, List.take_length]; exact HDL.out
        have hDlen : DL.length = c := by rw [← hcn, List.length_take, hCl]; omega
        have hcl : c < l.length := by omega
        have hcr := run_clear_keys wr g (c * 2) (l.length - c) (cap - c) (by omega) (fun q hq => by
          rw [hownC.cellAt _ (by omega)]
          have : c * 2 + q < (kcells C).length := by rw [kcells_len, hCl]; omega
          rw [List.getElem?_eq_getElem this]; rfl) (fun q hq => hownC.frozenAt _)
        obtain ⟨ys, o1, o2⟩ := own_sets (kcells (List.replicate (l.length - c) ⟨[], 0⟩)) (c * 2) wr (kcells C) hownC
        have hfin := own_prefix o1 (n' := c) (by omega)
        rw [o2, kcells_take, hcn] at hfin
        have HFIN := Lib.hid hfin
        have HGR := Lib.hid (grown_trans hgrC (grownBy_sets g (kcells (List.replicate (l.length - c) ⟨[], 0⟩)) (c * 2) wr))
        have ic1 : (0 : Int) ≤ c := by omega
        have ic2 : (c : Int) ≤ l.length := by omega
        have ic3 : (c : Int) ≤ cap := by omega
        have ic4 : (l.length : Int) ≤ cap := by omega
        have HDLEN := Lib.hid hDlen
        clear hfin o1 o2 hgrC hcn hDlen hownC hCt hCd hCl
        go_wp2_with (simp only [hcr])
        go_ret
        exact ⟨⟨by rw [HDLEN.out]; rfl, by rw [HDLEN.out]; exact HFIN.out⟩, HGR.out⟩
  · have hst := filter_all k.cl hall
    rw [List.take_length, HDL.out] at hst
    have HO := Lib.hid hown1
    subst hst
    clear hown1 hall
    go_wp2_with fail
    go_ret
    exact ⟨⟨rfl, HO.out⟩, hgr1⟩
end Go.Proofs.YtoclpodjigfmgaaDoor
