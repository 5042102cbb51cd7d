/- X-PARTIAL The document's own answer: Row, Has, Cut: layer 26. -/
import Derived.Test.YtkmpkhbahmehmaaKeyW
namespace Go.Proofs.Ytkmpkhbahmehmaa
open Go.RowKit Go.Lib

theorem putR_len (l : List Ky) (k : Ky) : (putR l k).length ≤ l.length + 1 := by
  unfold putR
  have h := congrArg List.length (List.takeWhile_append_dropWhile (p := (·.less k.cl)) (l := l))
  have h2 := List.length_filter_le (fun x => decide (x ≠ k.cl)) (l.dropWhile (·.less k.cl))
  rw [List.length_append] at h
  rw [List.length_append, List.length_append, List.length_singleton]
  omega
theorem fold_put_len : ∀ (l out : List Ky), (l.foldl putR out).length ≤ out.length + l.length
  | [], out => by simp
  | x :: l, out => by
    have h := fold_put_len l (putR out x)
    have h2 := putR_len out x
    rw [List.foldl_cons, List.length_cons]
    omega
theorem rowR_len (l : List Ky) : (rowR l).length ≤ l.length := by
  have := fold_put_len l []
  simpa [rowR] using this
theorem rowR_next {l : List Ky} {i : Nat} (h : i < l.length) : rowR (l.take (i + 1)) = putR (rowR (l.take i)) l[i] := by
  rw [List.take_succ_eq_append_getElem h]
  unfold rowR
  rw [List.foldl_append]
  rfl
theorem cutR_next {l : List Ky} {i : Nat} (k : Ky) (h : i < l.length) : cutR (l.take (i + 1)) k = if l[i].cl = k.cl then cutR (l.take i) k else putR (cutR (l.take i) k) l[i] := by
  rw [List.take_succ_eq_append_getElem h]
  unfold cutR
  rw [List.foldl_append]
  rfl
theorem fold_cut_len (k : Ky) : ∀ (l out : List Ky), (l.foldl (fun out x => if x.cl = k.cl then out else putR out x) out).length ≤ out.length + l.length
  | [], out => by simp
  | x :: l, out => by
    have h := fold_cut_len k l (if x.cl = k.cl then out else putR out x)
    have h2 := putR_len out x
    rw [List.foldl_cons, List.length_cons]
    split at h <;> rename_i hx
    · rw [if_pos hx]; omega
    · rw [if_neg hx]; omega
theorem cutR_len (l : List Ky) (k : Ky) : (cutR l k).length ≤ l.length := by
  have := fold_cut_len k l []
  simpa [cutR] using this

set_option maxRecDepth 100000 in
set_option maxHeartbeats 4000000 in
theorem r26_Row (l : List Ky) (A : Option Addr) (ca : Nat) (w : World) (hr : KRow w A l) (hm : l.length * 24 ≤ 140737488355328) :
    Calls Try.prog 22 #[.slice A l.length ca] w fun e w' => (∃ (A2 : Option Addr) (c2 : Nat), e = .returned (.slice A2 (rowR l).length c2) ∧ KRow w' A2 (rowR l)) ∧ Below w.heap.size w w' := by
  go_enter Try.func22, Try.ntmps22
  go_wp2_with fail
  go_loopw [3, 4] (fun v3 v4 wr => ∃ i : Nat, i ≤ l.length ∧ v4 = .int .i64 i ∧ (∃ (A2 : Option Addr) (c2 : Nat), v3 = .slice A2 (rowR (l.take i)).length c2 ∧ KRow wr A2 (rowR (l.take i))) ∧ Below w.heap.size w wr) (fun _ v4 _ => l.length - (RowKit.intOf v4).toNat)
  case atStart => exact ⟨0, Nat.zero_le _, rfl, ⟨none, 0, rfl, fun j hj => absurd hj (by simp [rowR])⟩, Below.refl _ _⟩
  case round =>
    obtain ⟨i, hi, rfl, ⟨A2, c2, rfl, hr2⟩, hB⟩ := hrel
    by_cases hlt : i < l.length
    · have ik : (i : Int) < l.length := by omega
      obtain ⟨b, o, he, hz, c0, c1⟩ := (hr.mono hB).get hlt
      have hlen := rowR_len (l.take i)
      rw [List.length_take] at hlen
      have HN := Lib.hid (rowR_next hlt)
      have HP := Lib.hid (r26_Put (rowR (l.take i)) l[i] A2 c2 wr hr2 (by omega))
      have HB := Lib.hid hB
      cases he
      clear hr hr2 hB hlen
      generalize rowR (l.take i) = cur at *
      generalize l[i] = x at *
      go_wp2_with fail
      go_at_call 28
      refine HP.out.mono ?_
      rintro e w1 ⟨⟨A3, c3, rfl, hr3⟩, hb1⟩
      have HR3 := Lib.hid hr3
      have HB1 := Lib.hid (HB.out.trans (hb1.mono HB.out.size))
      clear hr3 hb1 HP HB c0 c1
      rw [← HN.out] at HR3
      have HE := Lib.hid (congrArg List.length HN.out)
      clear HN
      generalize (putR cur x).length = n at *
      go_wp2_with fail
      go_roundw
      case rel => exact ⟨i + 1, by omega, by go_num, ⟨A3, c3, by rw [HE.out], HR3.out⟩, HB1.out⟩
      case measure => simp [RowKit.intOf]; omega
    · have ik : ¬ (i : Int) < l.length := by omega
      have e : i = l.length := by omega
      subst e
      rw [List.take_length] at hr2
      rw [List.take_length]
      have HR := Lib.hid hr2
      have HB := Lib.hid hB
      clear hr hr2 hB
      generalize hn : (rowR l).length = n at *
      have HN := Lib.hid hn
      clear hn
      go_wp2_with fail
      go_ret
      exact ⟨⟨A2, ⟨c2, by rw [HN.out]; rfl⟩, HR.out⟩, HB.out⟩

set_option maxRecDepth 100000 in
set_option maxHeartbeats 4000000 in
theorem r26_Has (l : List Ky) (k : Ky) (A : Option Addr) (ca : Nat) (w : World) (hr : KRow w A l) (hm : l.length * 24 ≤ 140737488355328) :
    Calls Try.prog 18 #[.slice A l.length ca, .agg #[encStr k.n, .int .i64 k.d]] w fun e w' => e = .returned (.bool (l.any fun x => decide (x.cl = k.cl))) ∧ Below w.heap.size w w' := by
  generalize hP : (l.any fun x => decide (x.cl = k.cl)) = R
  have HP := Lib.hid hP
  clear hP
  have HK := Lib.hid (r26_Clean k)
  have k0 : (w.alloc (.cells #[encStr k.n, .int .i64 k.d] 24)).heap[w.heap.size]? = some (.cells #[encStr k.n, .int .i64 k.d] 24) := al_new w _ rfl
  have hb0 : Below w.heap.size w (w.alloc (.cells #[encStr k.n, .int .i64 k.d] 24)) := (Below.refl _ w).alloc (Nat.le_refl _) _
  have q0 : (w.alloc (.cells #[encStr k.n, .int .i64 k.d] 24)).cell? ⟨w.heap.size, 0, none⟩ = some (encStr k.n) := by simp [go_sem]
  have q1 : (w.alloc (.cells #[encStr k.n, .int .i64 k.d] 24)).cell? ⟨w.heap.size, 1, none⟩ = some (.int .i64 k.d) := by simp [go_sem]
  have zb := blk_lt k0
  clear k0
  go_enter Try.func18, Try.ntmps18
  go_wp2_with fail
  generalize w.alloc (.cells #[encStr k.n, .int .i64 k.d] 24) = W0 at *
  go_loopw [5] (fun v5 wr => ∃ i : Nat, i ≤ l.length ∧ v5 = .int .i64 i ∧ ((l.take i).any fun x => decide (x.cl = k.cl)) = false ∧ Below W0.heap.size W0 wr) (fun v5 _ => l.length - (RowKit.intOf v5).toNat)
  case atStart => exact ⟨0, Nat.zero_le _, rfl, rfl, Below.refl _ _⟩
  case round =>
    obtain ⟨i, hi, rfl, hall, hBw⟩ := hrel
    have hB : Below w.heap.size w wr := hb0.trans (hBw.mono hb0.size)
    have b0 := (hBw.cell (p := ⟨w.heap.size, 0, none⟩) zb).trans q0
    have b1 := (hBw.cell (p := ⟨w.heap.size, 1, none⟩) zb).trans q1
    have zw : w.heap.size < wr.heap.size := Nat.lt_of_lt_of_le zb hBw.size
    by_cases hlt : i < l.length
    · have ik : (i : Int) < l.length := by omega
      obtain ⟨b, o, he, hz, c0, c1⟩ := (hr.mono hB).get hlt
      have HX := Lib.hid (r26_Clean l[i])
      have HBW := Lib.hid hBw
      have HBL := Lib.hid hB
      cases he
      by_cases hx : l[i].cl = k.cl
      · have hR : R = true := by rw [← HP.out]; exact List.any_eq_true.2 ⟨l[i], List.getElem_mem _, by simpa using hx⟩
        subst hR
        clear hr hall HP q0 q1 hb0 hB hBw
        generalize l[i] = x at *
        rw [hx] at HX
        clear hx
        generalize k.cl = q at *
        go_wp2_with fail
        refine region_seq (S := fun w' => Below wr.heap.size wr w') rfl (by kernel_rfl) (by kernel_rfl) (by repeat (first | (with_reducible assumption) | (with_reducible exact Below.refl _ _) | (with_reducible refine Below.alloc ?_ (by first | omega | (simp; omega) | (simp; done) | (dsimp only; omega)) _) | (with_reducible refine Below.setCell ?_ (by first | omega | (simp; omega) | (simp; done) | (dsimp only; omega)) _) | (with_reducible refine Below.drew ?_) | (with_reducible refine Below.trans ?_ (Below.mono (by assumption) (by first | omega | (simp; omega) | (simp; done) | (dsimp only; omega)))))) (fun fin hfin => ?_)
        iterate 8
          first
            | (refine SeqL.yes (v := ?_) (A' := ?_) rfl (by rfl) ?_ ?_ ?_
               rotate_left 2
               · intro w' K hS hK
                 obtain ⟨hc, hf⟩ := bcell hS
                 have hz := hS.size
                 go_simp
                 first
                   | exact hK.out _ hS
                   | (go_at_call 27; (with_reducible refine (HX.out _).mono ?_); rintro e w1 ⟨rfl, hb1⟩; exact hK.out _ (hS.trans (hb1.mono hz)))
                   | (go_at_call 27; (with_reducible refine (HK.out _).mono ?_); rintro e w1 ⟨rfl, hb1⟩; exact hK.out _ (hS.trans (hb1.mono hz)))
                   | trace_state
               · simp only [Act.put, List.setIfInBounds_toArray, List.set_cons_zero, List.set_cons_succ]; exact rfl)
            | (refine SeqL.no (A' := ?_) rfl (by rfl) ?_ ?_
               rotate_left
               · simp only [Act.put, List.setIfInBounds_toArray, List.set_cons_zero, List.set_cons_succ]; exact rfl)
        refine SeqL.nil (hfin.out _ ?_)
        clear hfin fin
        intro w1 hS1
        go_wp2_with fail
        go_ret
        exact ⟨rfl, HBL.out.trans (hS1.mono HBL.out.size)⟩
      · have HT := Lib.hid (show ((l.take (i + 1)).any fun x => decide (x.cl = k.cl)) = false by
          rw [List.take_succ_eq_append_getElem hlt, List.any_append, hall]; simpa using hx)
        have hne := key_ne hx
        clear hr hall HP q0 q1 hb0 hB hBw hx
        generalize l[i] = x at *
        generalize x.cl = y at *
        have HK' := HK
        clear HK
        generalize hkq : k.cl = q at *
        have HKQ := Lib.hid hkq
        clear hkq
        rcases hne with e1 | ⟨e1, e2⟩
        · go_wp2_with fail
          refine region_seq (S := fun w' => Below wr.heap.size wr w') rfl (by kernel_rfl) (by kernel_rfl) (by repeat (first | (with_reducible assumption) | (with_reducible exact Below.refl _ _) | (with_reducible refine Below.alloc ?_ (by first | omega | (simp; omega) | (simp; done) | (dsimp only; omega)) _) | (with_reducible refine Below.setCell ?_ (by first | omega | (simp; omega) | (simp; done) | (dsimp only; omega)) _) | (with_reducible refine Below.drew ?_) | (with_reducible refine Below.trans ?_ (Below.mono (by assumption) (by first | omega | (simp; omega) | (simp; done) | (dsimp only; omega)))))) (fun fin hfin => ?_)
          iterate 8
            first
              | (refine SeqL.yes (v := ?_) (A' := ?_) rfl (by rfl) ?_ ?_ ?_
                 rotate_left 2
                 · intro w' K hS hK
                   obtain ⟨hc, hf⟩ := bcell hS
                   have hz := hS.size
                   go_simp
                   first
                     | exact hK.out _ hS
                     | (go_at_call 27; (with_reducible refine (HX.out _).mono ?_); rintro e w1 ⟨rfl, hb1⟩; exact hK.out _ (hS.trans (hb1.mono hz)))
                     | (go_at_call 27; (with_reducible refine (HK'.out _).mono ?_); rintro e w1 ⟨rfl, hb1⟩; exact hK.out _ (hS.trans (hb1.mono hz)))
                     | trace_state
                 · simp only [Act.put, List.setIfInBounds_toArray, List.set_cons_zero, List.set_cons_succ]; exact rfl)
              | (refine SeqL.no (A' := ?_) rfl (by rfl) ?_ ?_
                 rotate_left
                 · simp only [Act.put, List.setIfInBounds_toArray, List.set_cons_zero, List.set_cons_succ]; exact rfl)
          refine SeqL.nil (hfin.out _ ?_)
          clear hfin fin
          intro w1 hS1
          go_wp2_with fail
          go_roundw
          case rel => exact ⟨i + 1, by omega, by go_num, HT.out, HBW.out.trans (hS1.mono HBW.out.size)⟩
          case measure => simp [RowKit.intOf]; omega
        · go_wp2_with fail
          refine region_seq (S := fun w' => Below wr.heap.size wr w') rfl (by kernel_rfl) (by kernel_rfl) (by repeat (first | (with_reducible assumption) | (with_reducible exact Below.refl _ _) | (with_reducible refine Below.alloc ?_ (by first | omega | (simp; omega) | (simp; done) | (dsimp only; omega)) _) | (with_reducible refine Below.setCell ?_ (by first | omega | (simp; omega) | (simp; done) | (dsimp only; omega)) _) | (with_reducible refine Below.drew ?_) | (with_reducible refine Below.trans ?_ (Below.mono (by assumption) (by first | omega | (simp; omega) | (simp; done) | (dsimp only; omega)))))) (fun fin hfin => ?_)
          iterate 8
            first
              | (refine SeqL.yes (v := ?_) (A' := ?_) rfl (by rfl) ?_ ?_ ?_
                 rotate_left 2
                 · intro w' K hS hK
                   obtain ⟨hc, hf⟩ := bcell hS
                   have hz := hS.size
                   go_simp
                   first
                     | exact hK.out _ hS
                     | (go_at_call 27; (with_reducible refine (HX.out _).mono ?_); rintro e w1 ⟨rfl, hb1⟩; exact hK.out _ (hS.trans (hb1.mono hz)))
                     | (go_at_call 27; (with_reducible refine (HK'.out _).mono ?_); rintro e w1 ⟨rfl, hb1⟩; exact hK.out _ (hS.trans (hb1.mono hz)))
                     | trace_state
                 · simp only [Act.put, List.setIfInBounds_toArray, List.set_cons_zero, List.set_cons_succ]; exact rfl)
              | (refine SeqL.no (A' := ?_) rfl (by rfl) ?_ ?_
                 rotate_left
                 · simp only [Act.put, List.setIfInBounds_toArray, List.set_cons_zero, List.set_cons_succ]; exact rfl)
          refine SeqL.nil (hfin.out _ ?_)
          clear hfin fin
          intro w1 hS1
          go_wp2_with fail
          go_roundw
          case rel => exact ⟨i + 1, by omega, by go_num, HT.out, HBW.out.trans (hS1.mono HBW.out.size)⟩
          case measure => simp [RowKit.intOf]; omega
    · have ik : ¬ (i : Int) < l.length := by omega
      have e : i = l.length := by omega
      subst e
      rw [List.take_length, HP.out] at hall
      subst hall
      clear hr HP
      go_wp2_with fail
      go_ret
      exact ⟨rfl, hB⟩

end Go.Proofs.Ytkmpkhbahmehmaa
