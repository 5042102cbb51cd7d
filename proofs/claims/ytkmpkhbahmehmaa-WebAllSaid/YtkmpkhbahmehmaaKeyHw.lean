/- X-PARTIAL The reference's Has at greater rows: layer 26. -/
import Derived.Test.YtkmpkhbahmehmaaKeyX
namespace Go.Proofs.Ytkmpkhbahmehmaa
open Go.RowKit Go.Lib

set_option maxRecDepth 100000 in
set_option maxHeartbeats 4000000 in
theorem r26_HasW (l : List Ky) (k : Ky) (A : Option Addr) (ca : Nat) (w : World) (hr : KRow w A l) (hm : l.length * 24 ≤ 281474976710656) :
    Calls Try.prog 18 #[.slice A l.length ca, .agg #[encStr k.n, .int .i64 k.d]] w fun e w' => e = .returned (.bool (l.any fun x => decide (x.cl = k.cl))) ∧ Below w.heap.size w w' := by
  generalize hP : (l.any fun x => decide (x.cl = k.cl)) = R
  have HP := Lib.hid hP
  clear hP
  have HK := Lib.hid (r26_Clean k)
  have k0 : (w.alloc (.cells #[encStr k.n, .int .i64 k.d] 24)).heap[w.heap.size]? = some (.cells #[encStr k.n, .int .i64 k.d] 24) := al_new w _ rfl
  have hb0 : Below w.heap.size w (w.alloc (.cells #[encStr k.n, .int .i64 k.d] 24)) := (Below.refl _ w).alloc (Nat.le_refl _) _
  have q0 : (w.alloc (.cells #[encStr k.n, .int .i64 k.d] 24)).cell? ⟨w.heap.size, 0, none⟩ = some (encStr k.n) := by simp [go_sem]
  have q1 : (w.alloc (.cells #[encStr k.n, .int .i64 k.d] 24)).cell? ⟨w.heap.size, 1, none⟩ = some (.int .i64 k.d) := by simp [go_sem]
  have zb := blk_lt k0
  clear k0
  go_enter Try.func18, Try.ntmps18
  go_wp2_with fail
  generalize w.alloc (.cells #[encStr k.n, .int .i64 k.d] 24) = W0 at *
  go_loopw [5] (fun v5 wr => ∃ i : Nat, i ≤ l.length ∧ v5 = .int .i64 i ∧ ((l.take i).any fun x => decide (x.cl = k.cl)) = false ∧ Below W0.heap.size W0 wr) (fun v5 _ => l.length - (RowKit.intOf v5).toNat)
  case atStart => exact ⟨0, Nat.zero_le _, rfl, rfl, Below.refl _ _⟩
  case round =>
    obtain ⟨i, hi, rfl, hall, hBw⟩ := hrel
    have hB : Below w.heap.size w wr := hb0.trans (hBw.mono hb0.size)
    have b0 := (hBw.cell (p := ⟨w.heap.size, 0, none⟩) zb).trans q0
    have b1 := (hBw.cell (p := ⟨w.heap.size, 1, none⟩) zb).trans q1
    have zw : w.heap.size < wr.heap.size := Nat.lt_of_lt_of_le zb hBw.size
    by_cases hlt : i < l.length
    · have ik : (i : Int) < l.length := by omega
      obtain ⟨b, o, he, hz, c0, c1⟩ := (hr.mono hB).get hlt
      have HX := Lib.hid (r26_Clean l[i])
      have HBW := Lib.hid hBw
      have HBL := Lib.hid hB
      cases he
      by_cases hx : l[i].cl = k.cl
      · have hR : R = true := by rw [← HP.out]; exact List.any_eq_true.2 ⟨l[i], List.getElem_mem _, by simpa using hx⟩
        subst hR
        clear hr hall HP q0 q1 hb0 hB hBw
        generalize l[i] = x at *
        rw [hx] at HX
        clear hx
        generalize k.cl = q at *
        go_wp2_with fail
        refine region_seq (S := fun w' => Below wr.heap.size wr w') rfl (by kernel_rfl) (by kernel_rfl) (by repeat (first | (with_reducible assumption) | (with_reducible exact Below.refl _ _) | (with_reducible refine Below.alloc ?_ (by first | omega | (simp; omega) | (simp; done) | (dsimp only; omega)) _) | (with_reducible refine Below.setCell ?_ (by first | omega | (simp; omega) | (simp; done) | (dsimp only; omega)) _) | (with_reducible refine Below.drew ?_) | (with_reducible refine Below.trans ?_ (Below.mono (by assumption) (by first | omega | (simp; omega) | (simp; done) | (dsimp only; omega)))))) (fun fin hfin => ?_)
        iterate 8
          first
            | (refine SeqL.yes (v := ?_) (A' := ?_) rfl (by rfl) ?_ ?_ ?_
               rotate_left 2
               · intro w' K hS hK
                 obtain ⟨hc, hf⟩ := bcell hS
                 have hz := hS.size
                 go_simp
                 first
                   | exact hK.out _ hS
                   | (go_at_call 27; (with_reducible refine (HX.out _).mono ?_); rintro e w1 ⟨rfl, hb1⟩; exact hK.out _ (hS.trans (hb1.mono hz)))
                   | (go_at_call 27; (with_reducible refine (HK.out _).mono ?_); rintro e w1 ⟨rfl, hb1⟩; exact hK.out _ (hS.trans (hb1.mono hz)))
                   | trace_state
               · simp only [Act.put, List.setIfInBounds_toArray, List.set_cons_zero, List.set_cons_succ]; exact rfl)
            | (refine SeqL.no (A' := ?_) rfl (by rfl) ?_ ?_
               rotate_left
               · simp only [Act.put, List.setIfInBounds_toArray, List.set_cons_zero, List.set_cons_succ]; exact rfl)
        refine SeqL.nil (hfin.out _ ?_)
        clear hfin fin
        intro w1 hS1
        go_wp2_with fail
        go_ret
        exact ⟨rfl, HBL.out.trans (hS1.mono HBL.out.size)⟩
      · have HT := Lib.hid (show ((l.take (i + 1)).any fun x => decide (x.cl = k.cl)) = false by
          rw [List.take_succ_eq_append_getElem hlt, List.any_append, hall]; simpa using hx)
        have hne := key_ne hx
        clear hr hall HP q0 q1 hb0 hB hBw hx
        generalize l[i] = x at *
        generalize x.cl = y at *
        have HK' := HK
        clear HK
        generalize hkq : k.cl = q at *
        have HKQ := Lib.hid hkq
        clear hkq
        rcases hne with e1 | ⟨e1, e2⟩
        · go_wp2_with fail
          refine region_seq (S := fun w' => Below wr.heap.size wr w') rfl (by kernel_rfl) (by kernel_rfl) (by repeat (first | (with_reducible assumption) | (with_reducible exact Below.refl _ _) | (with_reducible refine Below.alloc ?_ (by first | omega | (simp; omega) | (simp; done) | (dsimp only; omega)) _) | (with_reducible refine Below.setCell ?_ (by first | omega | (simp; omega) | (simp; done) | (dsimp only; omega)) _) | (with_reducible refine Below.drew ?_) | (with_reducible refine Below.trans ?_ (Below.mono (by assumption) (by first | omega | (simp; omega) | (simp; done) | (dsimp only; omega)))))) (fun fin hfin => ?_)
          iterate 8
            first
              | (refine SeqL.yes (v := ?_) (A' := ?_) rfl (by rfl) ?_ ?_ ?_
                 rotate_left 2
                 · intro w' K hS hK
                   obtain ⟨hc, hf⟩ := bcell hS
                   have hz := hS.size
                   go_simp
                   first
                     | exact hK.out _ hS
                     | (go_at_call 27; (with_reducible refine (HX.out _).mono ?_); rintro e w1 ⟨rfl, hb1⟩; exact hK.out _ (hS.trans (hb1.mono hz)))
                     | (go_at_call 27; (with_reducible refine (HK'.out _).mono ?_); rintro e w1 ⟨rfl, hb1⟩; exact hK.out _ (hS.trans (hb1.mono hz)))
                     | trace_state
                 · simp only [Act.put, List.setIfInBounds_toArray, List.set_cons_zero, List.set_cons_succ]; exact rfl)
              | (refine SeqL.no (A' := ?_) rfl (by rfl) ?_ ?_
                 rotate_left
                 · simp only [Act.put, List.setIfInBounds_toArray, List.set_cons_zero, List.set_cons_succ]; exact rfl)
          refine SeqL.nil (hfin.out _ ?_)
          clear hfin fin
          intro w1 hS1
          go_wp2_with fail
          go_roundw
          case rel => exact ⟨i + 1, by omega, by go_num, HT.out, HBW.out.trans (hS1.mono HBW.out.size)⟩
          case measure => simp [RowKit.intOf]; omega
        · go_wp2_with fail
          refine region_seq (S := fun w' => Below wr.heap.size wr w') rfl (by kernel_rfl) (by kernel_rfl) (by repeat (first | (with_reducible assumption) | (with_reducible exact Below.refl _ _) | (with_reducible refine Below.alloc ?_ (by first | omega | (simp; omega) | (simp; done) | (dsimp only; omega)) _) | (with_reducible refine Below.setCell ?_ (by first | omega | (simp; omega) | (simp; done) | (dsimp only; omega)) _) | (with_reducible refine Below.drew ?_) | (with_reducible refine Below.trans ?_ (Below.mono (by assumption) (by first | omega | (simp; omega) | (simp; done) | (dsimp only; omega)))))) (fun fin hfin => ?_)
          iterate 8
            first
              | (refine SeqL.yes (v := ?_) (A' := ?_) rfl (by rfl) ?_ ?_ ?_
                 rotate_left 2
                 · intro w' K hS hK
                   obtain ⟨hc, hf⟩ := bcell hS
                   have hz := hS.size
                   go_simp
                   first
                     | exact hK.out _ hS
                     | (go_at_call 27; (with_reducible refine (HX.out _).mono ?_); rintro e w1 ⟨rfl, hb1⟩; exact hK.out _ (hS.trans (hb1.mono hz)))
                     | (go_at_call 27; (with_reducible refine (HK'.out _).mono ?_); rintro e w1 ⟨rfl, hb1⟩; exact hK.out _ (hS.trans (hb1.mono hz)))
                     | trace_state
                 · simp only [Act.put, List.setIfInBounds_toArray, List.set_cons_zero, List.set_cons_succ]; exact rfl)
              | (refine SeqL.no (A' := ?_) rfl (by rfl) ?_ ?_
                 rotate_left
                 · simp only [Act.put, List.setIfInBounds_toArray, List.set_cons_zero, List.set_cons_succ]; exact rfl)
          refine SeqL.nil (hfin.out _ ?_)
          clear hfin fin
          intro w1 hS1
          go_wp2_with fail
          go_roundw
          case rel => exact ⟨i + 1, by omega, by go_num, HT.out, HBW.out.trans (hS1.mono HBW.out.size)⟩
          case measure => simp [RowKit.intOf]; omega
    · have ik : ¬ (i : Int) < l.length := by omega
      have e : i = l.length := by omega
      subst e
      rw [List.take_length, HP.out] at hall
      subst hall
      clear hr HP
      go_wp2_with fail
      go_ret
      exact ⟨rfl, hB⟩

end Go.Proofs.Ytkmpkhbahmehmaa
