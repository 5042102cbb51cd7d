/- The span between the least and the greatest of a row of wide numbers: layer 4. -/
import Derived.Test.YtdphjfppfngcmaaReckB
import Derived.Test.YtdphjfppfngcmaaWRow
import Derived.OwnWalk
namespace Go.Proofs.Ytdphjfppfngcmaa
open Go.RowKit

/-- From the least to the greatest, wrapped round. -/
def betS : List Int → Sp
  | [] => ⟨false, 0, 0⟩
  | x :: r => wrapS (minL r x) (maxL r x)

theorem WRow.tail {w : World} {b o : Nat} {x : Int} {l : List Int} (h : WRow w (some ⟨b, o, none⟩) (x :: l)) : WRow w (some ⟨b, o + 2, none⟩) l := by
  intro i hi
  have := h (i + 1) (by simpa using hi)
  have e : ∀ o j, (⟨b, o, none⟩ : Addr).add j = ⟨b, o + j, none⟩ := by
    intro o j; unfold Addr.add; split
    · next h => subst h; rfl
    · rfl
  rw [e, e] at this ⊢
  rw [show o + 2 + i * 2 = o + (i + 1) * 2 by omega, show o + 2 + (i * 2 + 1) = o + ((i + 1) * 2 + 1) by omega]
  simpa using this

theorem info_wide : (Try.prog.info? 31).map (fun i => (i.zero, i.size, i.bytes)) = some (some (.agg #[.int .i64 0, .int .u64 0]), 2, 16) := by kernel_rfl
/-- Where the rest of a row begins. -/
def tlA (b o c : Nat) : Addr := if c = 1 then ⟨b, o, none⟩ else ⟨b, o + 2, none⟩
theorem run_tail (w : World) (b o n c : Nat) : (Instr.slice 50 (.slice (some ⟨b, o, none⟩) (n + 1) c) (some (.int .i64 1)) none none).run Try.prog w = .ok (.slice (some (tlA b o c)) n (c - 1)) w := by
  obtain ⟨i, hi, _, hz, _⟩ := info_parts info_wide
  have hu : Try.prog.underlying 50 = some (.slice 31) := Try.underlying50
  have e : (⟨b, o, none⟩ : Addr).add 2 = ⟨b, o + 2, none⟩ := rfl
  unfold tlA
  by_cases h : c = 1
  · rw [if_pos h]
    simp [Instr.slice, Instr.sliceBounds, Instr.sliceBound, asIntOf, run_underlying hu, sizeOf, typeInfo, hi, hz, h]
    intro hx; omega
  · rw [if_neg h]
    simp [Instr.slice, Instr.sliceBounds, Instr.sliceBound, asIntOf, run_underlying hu, sizeOf, typeInfo, hi, hz, h, e]
    intro hx; omega
theorem WRow.tlA {w : World} {b o c : Nat} {x : Int} {l : List Int} (h : WRow w (some ⟨b, o, none⟩) (x :: l)) (hc : l.length + 1 ≤ c) : WRow w (some (tlA b o c)) l := by
  unfold Go.Proofs.Ytdphjfppfngcmaa.tlA
  by_cases h1 : c = 1
  · have : l = [] := List.eq_nil_of_length_eq_zero (by omega)
    subst this
    intro i hi
    simp at hi
  · rw [if_neg h1]; exact h.tail

set_option maxRecDepth 100000 in
set_option maxHeartbeats 4000000 in
theorem reckon_between (l : List Int) (A : Option Addr) (c : Nat) (w : World) (hm : l.length ≤ c) (hc : c ≤ 9223372036854775807) (hr : WRow w A l) :
    Calls Try.prog 54 #[.slice A l.length c] w fun e w' => e = .returned (.agg #[.bool (betS l).s, .int .i64 (betS l).lo, .int .i64 (betS l).hi]) ∧ Below w.heap.size w w' := by
  cases l with
  | nil =>
    have E : betS [] = ⟨false, 0, 0⟩ := rfl
    rw [E]
    go_enter Try.func54, Try.ntmps54
    go_wp2
    refine bodyPost_ret (by simp [results, Try.results54, go_sem, *] <;> rfl) rfl ⟨rfl, (by repeat (first | (with_reducible assumption) | (with_reducible exact Below.refl _ _) | (with_reducible refine Below.alloc ?_ (by first | omega | (simp; omega) | (simp; done) | (dsimp only; omega)) _) | (with_reducible refine Below.setCell ?_ (by first | omega | (simp; omega) | (simp; done) | (dsimp only; omega)) _) | (with_reducible refine Below.drew ?_) | (with_reducible refine Below.trans ?_ (Below.mono (by assumption) (by first | omega | (simp; omega) | (simp; done) | (dsimp only; omega))))))⟩
  | cons x r =>
    have E : betS (x :: r) = wrapS (minL r x) (maxL r x) := rfl
    rw [E]
    obtain ⟨b, o, rfl, e0, e1, hb⟩ := hr.cell (k := 0) (by simp)
    have ht := hr.tlA hm
    have ks := fun w => run_tail w b o r.length c
    simp only [Nat.zero_mul, Nat.add_zero, List.getElem_cons_zero] at e0 e1
    have hlen : (x :: r).length = r.length + 1 := rfl
    rw [hlen] at hm ⊢
    have HN : Hid (∀ w', Below w.heap.size w w' → Calls Try.prog 72 #[.agg #[.int .i64 (hiW x), .int .u64 (loW x)], .slice (some (tlA b o c)) r.length (c - 1)] w' fun e w'' => e = .returned (.agg #[.int .i64 (hiW (minL r x)), .int .u64 (loW (minL r x))]) ∧ Below w'.heap.size w' w'') := Lib.hid (fun w' h => wide_min x r _ _ w' (by omega) (ht.mono h))
    have HX : Hid (∀ w', Below w.heap.size w w' → Calls Try.prog 73 #[.agg #[.int .i64 (hiW x), .int .u64 (loW x)], .slice (some (tlA b o c)) r.length (c - 1)] w' fun e w'' => e = .returned (.agg #[.int .i64 (hiW (maxL r x)), .int .u64 (loW (maxL r x))]) ∧ Below w'.heap.size w' w'') := Lib.hid (fun w' h => wide_max x r _ _ w' (by omega) (ht.mono h))
    have HWR := Lib.hid (reckon_wrap (minL r x) (maxL r x))
    generalize wrapS (minL r x) (maxL r x) = s at *
    generalize minL r x = mn at *
    generalize maxL r x = mx at *
    clear hr ht E
    generalize tlA b o c = ta at *
    have k0 : ((r.length : Int) + 1 == 0) = false := by simp; omega
    go_enter Try.func54, Try.ntmps54
    go_upto_region 1 with fail
    generalize hW : (w.alloc (.cells #[.bool false, .int .i64 0, .int .i64 0] 23)) = W
    have q0_0 : W.cell? ⟨w.heap.size, 0, none⟩ = some (.bool false) := by rw [← hW]; simp [go_sem]
    have q0_1 : W.cell? ⟨w.heap.size, 1, none⟩ = some (.int .i64 0) := by rw [← hW]; simp [go_sem]
    have q0_2 : W.cell? ⟨w.heap.size, 2, none⟩ = some (.int .i64 0) := by rw [← hW]; simp [go_sem]
    have f0 : ∀ o, W.frozen? ⟨w.heap.size, o, none⟩ = false := by intro o; rw [← hW]; simp [go_sem]
    have z0 : w.heap.size < W.heap.size := by rw [← hW]; first | (simp; done) | (simp; omega)
    have HW : Below w.heap.size w W := by rw [← hW]; exact (by repeat (first | (with_reducible assumption) | (with_reducible exact Below.refl _ _) | (with_reducible refine Below.alloc ?_ (by first | omega | (simp; omega) | (simp; done) | (dsimp only; omega)) _) | (with_reducible refine Below.setCell ?_ (by first | omega | (simp; omega) | (simp; done) | (dsimp only; omega)) _) | (with_reducible refine Below.drew ?_) | (with_reducible refine Below.trans ?_ (Below.mono (by assumption) (by first | omega | (simp; omega) | (simp; done) | (dsimp only; omega))))))
    clear hW
    have hne : b ≠ w.heap.size := by omega
    replace e0 := (HW.cell (p := ⟨b, o, none⟩) hb).trans e0
    replace e1 := (HW.cell (p := ⟨b, o + 1, none⟩) hb).trans e1
    have zb : b < W.heap.size := Nat.lt_of_lt_of_le hb HW.size
    go_wp2
    refine region_seqg (W := W) [_, _, _, _, _, _, _, _, _, _, _, _, _] [_] rfl (by kernel_rfl) (by kernel_rfl) (by repeat (first | (with_reducible assumption) | (with_reducible exact Below.refl _ _) | (with_reducible refine Below.alloc ?_ (by first | omega | (simp; omega) | (simp; done) | (dsimp only; omega)) _) | (with_reducible refine Below.setCell ?_ (by first | omega | (simp; omega) | (simp; done) | (dsimp only; omega)) _) | (with_reducible refine Below.drew ?_) | (with_reducible refine Below.trans ?_ (Below.mono (by assumption) (by first | omega | (simp; omega) | (simp; done) | (dsimp only; omega)))))) (fun fin hfin => ?_)
    iterate 13
      first
        | (refine SeqG.yes (v := ?_) (A' := ?_) rfl (fun γ => by rfl) ?_ ?_ ?_
           rotate_left 2
           · intro γ w' K hS hK
             obtain ⟨hc, hf⟩ := bcell hS
             have hz := hS.size
             go_simp
             first
               | exact hK.out _ (Below.refl _ _)
               | (go_at_call 72; (with_reducible refine (HN.out _ (HW.trans (hS.mono HW.size))).mono ?_); rintro e w1 ⟨rfl, hb1⟩; exact hK.out _ hb1)
               | (go_at_call 73; (with_reducible refine (HX.out _ (HW.trans (hS.mono HW.size))).mono ?_); rintro e w1 ⟨rfl, hb1⟩; exact hK.out _ hb1)
               | (go_at_call 14; (with_reducible refine (HWR.out _).mono ?_); rintro e w1 ⟨rfl, hb1⟩; exact hK.out _ hb1)
               | trace_state
           · intro γ; simp only [Act.put, List.setIfInBounds_toArray, List.set_cons_zero, List.set_cons_succ]; exact rfl)
        | (refine SeqG.no (A' := ?_) rfl (fun γ => by rfl) ?_ ?_
           rotate_left
           · intro γ; simp only [Act.put, List.setIfInBounds_toArray, List.set_cons_zero, List.set_cons_succ]; exact rfl)
    refine SeqG.nil (hfin.out _ _ ?_)
    clear hfin fin
    intro γ lo hi w1 hB1 hF hD
    clear hD
    obtain ⟨hc1, hf1⟩ := bcell hB1
    have hz := hB1.size
    have z1 : w.heap.size < w1.heap.size := by omega
    refine TailL.cons (fun K hK => ?_)
    go_simp
    refine hK.out _ _ ?_
    clear hK K
    refine TailL.nil ?_
    go_wp2
    refine bodyPost_ret (by simp [results, Try.results54, go_sem, *] <;> rfl) rfl ⟨rfl, (by repeat (first | (with_reducible assumption) | (with_reducible exact Below.refl _ _) | (with_reducible refine Below.alloc ?_ (by first | omega | (simp; omega) | (simp; done) | (dsimp only; omega)) _) | (with_reducible refine Below.setCell ?_ (by first | omega | (simp; omega) | (simp; done) | (dsimp only; omega)) _) | (with_reducible refine Below.drew ?_) | (with_reducible refine Below.trans ?_ (Below.mono (by assumption) (by first | omega | (simp; omega) | (simp; done) | (dsimp only; omega))))))⟩
end Go.Proofs.Ytdphjfppfngcmaa
