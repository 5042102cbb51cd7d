/- X-PARTIAL Are tokens the same: layer 10. -/
import Derived.Test.YtgaecojdebpcgaaDoorTokM
import Derived.Test.YtgaecojdebpcgaaDoorSeqg
namespace Go.Proofs.YtgaecojdebpcgaaDoor
open Go.RowKit Go.Lib

/-- Two rows of tokens are alike, but for where they stand (and that too, where it is asked). -/
def SameT (b : Bool) (L M : List Tok) : Prop := L.length = M.length ∧ ∀ i, (h1 : i < L.length) → (h2 : i < M.length) → M[i].k = L[i].k ∧ M[i].t = L[i].t ∧ M[i].n = L[i].n ∧ (b = true → M[i].at_ = L[i].at_)
theorem SameT.refl (b : Bool) (L : List Tok) : SameT b L L := ⟨rfl, fun _ _ _ => ⟨rfl, rfl, rfl, fun _ => rfl⟩⟩

set_option maxRecDepth 1000000 in
set_option maxHeartbeats 4000000 in
theorem r10_Same (b : Bool) (L M : List Tok) (hs : SameT b L M) (A B : Option Addr) (ca cb : Nat) (w : World) (hm : L.length ≤ 140737488355328) (hra : TRow w A L) (hrb : TRow w B M) :
    Calls Tryd.prog 8 #[.slice A L.length ca, .slice B M.length cb, .bool b] w fun e w' => e = .returned (.bool true) ∧ Below w.heap.size w w' := by
  obtain ⟨hlen, hs⟩ := hs
  rw [← hlen]
  have HS := Lib.hid hs
  have HLEN := Lib.hid hlen
  clear hs hlen
  go_enter Tryd.func8, Tryd.ntmps8
  go_wp2_with fail
  go_loopw [7] (fun v7 wr => ∃ k : Nat, k ≤ L.length ∧ v7 = .int .i64 k ∧ Below w.heap.size w wr) (fun v7 _ => L.length - (RowKit.intOf v7).toNat)
  case atStart => exact ⟨0, Nat.zero_le _, rfl, Below.refl _ _⟩
  case round =>
    obtain ⟨k, hk, rfl, hB⟩ := hrel
    have HB := Lib.hid hB
    by_cases hlt : k < L.length
    · have ik : (k : Int) < L.length := by omega
      obtain ⟨a, o, he, c0, c1, c2, c3, hz⟩ := (hra.mono hB).cell hlt
      obtain ⟨a', o', he', d0, d1, d2, d3, hz'⟩ := (hrb.mono hB).cell (k := k) (by have := HLEN.out; omega)
      cases he; cases he'
      obtain ⟨e0, e1, e2, e3⟩ := HS.out k hlt (by have := HLEN.out; omega)
      rw [e0] at d0; rw [e1] at d1; rw [e2] at d2
      clear e0 e1 e2 hB hra hrb
      generalize L[k].k = x0 at *
      generalize L[k].t = x1 at *
      generalize L[k].n = x2 at *
      generalize L[k].at_ = x3 at *
      generalize M[k].at_ = y3 at *
      cases b
      · clear e3 d3 c3 y3
        go_wp2_with fail
        refine region_seq (S := fun w' => Below wr.heap.size wr w') rfl (by kernel_rfl) (by kernel_rfl) (by repeat (first | (with_reducible assumption) | (with_reducible exact Below.refl _ _) | (with_reducible refine Below.alloc ?_ (by first | omega | (simp; omega) | (simp; done) | (dsimp only; omega)) _) | (with_reducible refine Below.setCell ?_ (by first | omega | (simp; omega) | (simp; done) | (dsimp only; omega)) _) | (with_reducible refine Below.drew ?_) | (with_reducible refine Below.trans ?_ (Below.mono (by assumption) (by first | omega | (simp; omega) | (simp; done) | (dsimp only; omega)))))) (fun fin hfin => ?_)
        iterate 53
          first
            | (refine SeqL.yes (v := ?_) (A' := ?_) rfl (by rfl) ?_ ?_ ?_
               rotate_left 2
               · intro w' K hS hK
                 obtain ⟨hc, hf⟩ := bcell hS
                 have hz := hS.size
                 go_simp
                 first
                   | exact hK.out _ hS
                   | trace_state
               · simp only [Act.put, List.setIfInBounds_toArray, List.set_cons_zero, List.set_cons_succ]; exact rfl)
            | (refine SeqL.no (A' := ?_) rfl (by rfl) ?_ ?_
               rotate_left
               · simp only [Act.put, List.setIfInBounds_toArray, List.set_cons_zero, List.set_cons_succ]; exact rfl)
        refine SeqL.nil (hfin.out _ ?_)
        clear hfin fin
        intro w1 hS1
        go_wp2_with fail
        go_roundw
        case rel => exact ⟨k + 1, by omega, by go_num, HB.out.trans (hS1.mono HB.out.size)⟩
        case measure => simp [RowKit.intOf]; omega
      · rw [e3 rfl] at d3
        clear e3
        go_wp2_with fail
        refine region_seq (S := fun w' => Below wr.heap.size wr w') rfl (by kernel_rfl) (by kernel_rfl) (by repeat (first | (with_reducible assumption) | (with_reducible exact Below.refl _ _) | (with_reducible refine Below.alloc ?_ (by first | omega | (simp; omega) | (simp; done) | (dsimp only; omega)) _) | (with_reducible refine Below.setCell ?_ (by first | omega | (simp; omega) | (simp; done) | (dsimp only; omega)) _) | (with_reducible refine Below.drew ?_) | (with_reducible refine Below.trans ?_ (Below.mono (by assumption) (by first | omega | (simp; omega) | (simp; done) | (dsimp only; omega)))))) (fun fin hfin => ?_)
        iterate 53
          first
            | (refine SeqL.yes (v := ?_) (A' := ?_) rfl (by rfl) ?_ ?_ ?_
               rotate_left 2
               · intro w' K hS hK
                 obtain ⟨hc, hf⟩ := bcell hS
                 have hz := hS.size
                 go_simp
                 first
                   | exact hK.out _ hS
                   | trace_state
               · simp only [Act.put, List.setIfInBounds_toArray, List.set_cons_zero, List.set_cons_succ]; exact rfl)
            | (refine SeqL.no (A' := ?_) rfl (by rfl) ?_ ?_
               rotate_left
               · simp only [Act.put, List.setIfInBounds_toArray, List.set_cons_zero, List.set_cons_succ]; exact rfl)
        refine SeqL.nil (hfin.out _ ?_)
        clear hfin fin
        intro w1 hS1
        go_wp2_with fail
        go_roundw
        case rel => exact ⟨k + 1, by omega, by go_num, HB.out.trans (hS1.mono HB.out.size)⟩
        case measure => simp [RowKit.intOf]; omega
    · have ik : ¬ (k : Int) < L.length := by omega
      go_wp2_with fail
      go_ret
      exact ⟨rfl, HB.out⟩
end Go.Proofs.YtgaecojdebpcgaaDoor
