/- X-PARTIAL Sets that are made in regions that draw their order; what names.Equal returns: layer 7. -/
import Derived.Test.YtnbpdkcnldeljaaNamN
namespace Go.Proofs.Ytnbpdkcnldeljaa
open Go.RowKit

def gA (g : Nat → Nat) : Option Addr := if g 3 = 0 then none else some ⟨g 0, g 1, none⟩

/-- Where a made set's strings lie. -/
def RSetG (l : List Str) : RT := fun g lo hi w => SRow w (gA g) l ∧ l.length ≤ g 2 ∧ g 2 ≤ 9223372036854775807 ∧ (gA g = none → g 2 = 0) ∧ (∀ a, gA g = some a → lo ≤ a.block ∧ (l ≠ [] → a.block < hi))

theorem RSetG.stable (l : List Str) : Stable (RSetG l) := by
  intro g lo hi w w' h hb
  obtain ⟨h1, h2, h3, h4, h5⟩ := h
  refine ⟨?_, h2, h3, h4, h5⟩
  cases hA : gA g with
  | none => rw [hA] at h1; exact h1
  | some a =>
    rw [hA] at h1
    intro i hi'
    have hne : l ≠ [] := fun e => by rw [e] at hi'; simp at hi'
    have hlt := (h5 a hA).2 hne
    have e : (a.add i).block = a.block := by unfold Addr.add; split <;> rfl
    rw [hb.cell (by rw [e]; exact hlt)]
    exact h1 i hi'

theorem SetV.ghost {b lo : Nat} {w : World} {v : Value} {n : Bool} {l : List Str} (h : SetV b w v n l) (hlo : lo ≤ b) : ∃ g : Nat → Nat, v = .agg #[.bool n, .slice (gA g) l.length (g 2)] ∧ RSetG l g lo w.heap.size w := by
  obtain ⟨A, c, rfl, h1, h2, h3, h4, h5⟩ := h
  cases A with
  | none =>
    refine ⟨fun i => if i = 2 then c else 0, rfl, ?_⟩
    exact ⟨h3, h1, h2, h4, fun a e => by cases e⟩
  | some a =>
    have hs := (h5 a rfl).2
    obtain ⟨blk, off, sp⟩ := a
    dsimp only at hs
    subst hs
    refine ⟨fun i => if i = 0 then blk else if i = 1 then off else if i = 2 then c else 1, rfl, ?_⟩
    refine ⟨h3, h1, h2, h4, fun a e => ?_⟩
    cases e
    refine ⟨Nat.le_trans hlo (h5 _ rfl).1, fun hne => ?_⟩
    have hpos : 0 < l.length := by
      cases l with
      | nil => exact absurd rfl hne
      | cons x l => simp
    obtain ⟨b', o', e', _, hlt⟩ := h3.cell hpos
    cases e'
    exact hlt

set_option maxRecDepth 100000 in
set_option maxHeartbeats 4000000 in
theorem names_Equal (na nb : Bool) (la lb : List Str) (A B : Option Addr) (ca cb : Nat) (w : World) (ha : la.length * 16 ≤ 140737488355328) (hb : lb.length ≤ 9223372036854775807) (hza : A = none → ca = 0) (hra : SRow w A la) (hrb : SRow w B lb) :
    Calls Try.prog 25 #[.agg #[.bool na, .slice A la.length ca], .agg #[.bool nb, .slice B lb.length cb]] w fun e w' => e = .returned (.tuple #[.bool (!(!(na && nb) && (srt (meetL la lb)).length == 0)), .bool ((lenS na la == 1) && (leqS na la nb lb && leqS nb lb na la))]) ∧ Below w.heap.size w w' := by
  have hsm := srt_len_le (meetL la lb)
  have hml := meetL_len la lb
  go_enter Try.func25, Try.ntmps25
  go_upto_region 1 with fail
  generalize hW : ((w.alloc (.cells #[.bool na, .slice A la.length ca] 24)).alloc (.cells #[.bool nb, .slice B lb.length cb] 24)) = W
  have q0_0 : W.cell? ⟨w.heap.size, 0, none⟩ = some (.bool na) := by rw [← hW]; simp [go_sem]
  have q0_1 : W.cell? ⟨w.heap.size, 1, none⟩ = some (.slice A la.length ca) := by rw [← hW]; simp [go_sem]
  have q1_0 : W.cell? ⟨w.heap.size + 1, 0, none⟩ = some (.bool nb) := by rw [← hW]; simp [go_sem]
  have q1_1 : W.cell? ⟨w.heap.size + 1, 1, none⟩ = some (.slice B lb.length cb) := by rw [← hW]; simp [go_sem]
  have z0 : w.heap.size < W.heap.size := by rw [← hW]; first | (simp; done) | (simp; omega)
  have z1 : w.heap.size + 1 < W.heap.size := by rw [← hW]; first | (simp; done) | (simp; omega)
  have HW : Below w.heap.size w W := by rw [← hW]; exact (by repeat (first | (with_reducible assumption) | (with_reducible exact Below.refl _ _) | (with_reducible refine Below.alloc ?_ (by first | omega | (simp; omega) | (simp; done) | (dsimp only; omega)) _) | (with_reducible refine Below.setCell ?_ (by first | omega | (simp; omega) | (simp; done) | (dsimp only; omega)) _) | (with_reducible refine Below.drew ?_) | (with_reducible refine Below.trans ?_ (Below.mono (by assumption) (by first | omega | (simp; omega) | (simp; done) | (dsimp only; omega))))))
  clear hW
  have hraW := hra.mono HW
  have hrbW := hrb.mono HW
  have HM : Hid (∀ w', Below W.heap.size W w' → _) := Lib.hid (fun w' h => names_Meet na nb la lb A B ca cb w' ha hb (hraW.mono h) (hrbW.mono h))
  have HN := Lib.hid (fun w' (g : Nat → Nat) => names_None (na && nb) (srt (meetL la lb)) (gA g) (g 2) w' (by omega))
  have HL : Hid (∀ w', Below W.heap.size W w' → _) := Lib.hid (fun w' h => names_Len na la A ca w' ha hza (hraW.mono h))
  have HS : Hid (∀ w', Below W.heap.size W w' → _) := Lib.hid (fun w' h => names_Same na nb la lb A B ca cb w' (by omega) hb (hraW.mono h) (hrbW.mono h))
  generalize hl : lenS na la = len at *
  generalize hs : (leqS na la nb lb && leqS nb lb na la) = same at *
  generalize hn : (!(na && nb) && (srt (meetL la lb)).length == 0) = nn at *
  cases h1 : len == 1
  all_goals
    refine region_seqg (W := W) [_, _, _, _, _, _, _, _, _, _, _, _, _, _, _] [] rfl (by kernel_rfl) (by kernel_rfl) (by repeat (first | (with_reducible assumption) | (with_reducible exact Below.refl _ _) | (with_reducible refine Below.alloc ?_ (by first | omega | (simp; omega) | (simp; done) | (dsimp only; omega)) _) | (with_reducible refine Below.setCell ?_ (by first | omega | (simp; omega) | (simp; done) | (dsimp only; omega)) _) | (with_reducible refine Below.drew ?_) | (with_reducible refine Below.trans ?_ (Below.mono (by assumption) (by first | omega | (simp; omega) | (simp; done) | (dsimp only; omega)))))) (fun fin hfin => ?_)
    iterate 2
      first
        | (refine SeqG.yes (v := ?_) (A' := ?_) rfl (fun γ => by rfl) ?_ ?_ ?_
           rotate_left 2
           · intro γ w' K hS hK
             obtain ⟨hc, hf⟩ := bcell hS
             have hz := hS.size
             go_simp
             first
               | exact hK.out _ (Below.refl _ _)
               | (go_at_call 9; (with_reducible refine (HN.out _ _).mono ?_); rintro e w1 ⟨rfl, hb1⟩; exact hK.out _ hb1)
               | (go_at_call 11; (with_reducible refine (HL.out w' hS).mono ?_); rintro e w1 ⟨rfl, hb1⟩; exact hK.out _ hb1)
               | (go_at_call 19; (with_reducible refine (HS.out w' hS).mono ?_); rintro e w1 ⟨rfl, hb1⟩; exact hK.out _ hb1)
               | trace_state
           · intro γ; simp only [Act.put, List.setIfInBounds_toArray, List.set_cons_zero, List.set_cons_succ]; exact rfl)
        | (refine SeqG.no (A' := ?_) rfl (fun γ => by rfl) ?_ ?_
           rotate_left
           · intro γ; simp only [Act.put, List.setIfInBounds_toArray, List.set_cons_zero, List.set_cons_succ]; exact rfl)
    refine SeqG.make (k := 2) (A' := ?_) (fun g => .agg #[.bool (na && nb), .slice (gA g) (srt (meetL la lb)).length (g 2)]) (RSetG (srt (meetL la lb))) rfl (fun γ => by rfl) (RSetG.stable _) ?_ ?_ ?_
    rotate_left
    · intro γ w' K hS hF hK
      obtain ⟨hc, hf⟩ := bcell hS
      have hz := hS.size
      go_simp
      (go_at_call 15; refine (HM.out w' hS).mono ?_; rintro e w1 ⟨⟨v, rfl, hset⟩, hb1⟩; obtain ⟨g, rfl, hg⟩ := SetV.ghost hset (by omega) (lo := w'.heap.size); exact hK.out g w1 hb1 hg)
    · intro γ; simp only [Act.put, List.setIfInBounds_toArray, List.set_cons_zero, List.set_cons_succ]; exact rfl
    iterate 12
      first
        | (refine SeqG.yes (v := ?_) (A' := ?_) rfl (fun γ => by rfl) ?_ ?_ ?_
           rotate_left 2
           · intro γ w' K hS hK
             obtain ⟨hc, hf⟩ := bcell hS
             have hz := hS.size
             go_simp
             first
               | exact hK.out _ (Below.refl _ _)
               | (go_at_call 9; (with_reducible refine (HN.out _ _).mono ?_); rintro e w1 ⟨rfl, hb1⟩; exact hK.out _ hb1)
               | (go_at_call 11; (with_reducible refine (HL.out w' hS).mono ?_); rintro e w1 ⟨rfl, hb1⟩; exact hK.out _ hb1)
               | (go_at_call 19; (with_reducible refine (HS.out w' hS).mono ?_); rintro e w1 ⟨rfl, hb1⟩; exact hK.out _ hb1)
               | trace_state
           · intro γ; simp only [Act.put, List.setIfInBounds_toArray, List.set_cons_zero, List.set_cons_succ]; exact rfl)
        | (refine SeqG.no (A' := ?_) rfl (fun γ => by rfl) ?_ ?_
           rotate_left
           · intro γ; simp only [Act.put, List.setIfInBounds_toArray, List.set_cons_zero, List.set_cons_succ]; exact rfl)
    refine SeqG.nil (hfin.out _ _ ?_)
    clear hfin fin
    intro γ lo hi w1 hB1 hF hD
    clear hF hD
    refine TailL.nil ?_
    go_wp2
    go_ret2
    refine ⟨?_, (by repeat (first | (with_reducible assumption) | (with_reducible exact Below.refl _ _) | (with_reducible refine Below.alloc ?_ (by first | omega | (simp; omega) | (simp; done) | (dsimp only; omega)) _) | (with_reducible refine Below.setCell ?_ (by first | omega | (simp; omega) | (simp; done) | (dsimp only; omega)) _) | (with_reducible refine Below.drew ?_) | (with_reducible refine Below.trans ?_ (Below.mono (by assumption) (by first | omega | (simp; omega) | (simp; done) | (dsimp only; omega))))))⟩
    rw [hn, hl, hs, h1]
    rfl

end Go.Proofs.Ytnbpdkcnldeljaa
