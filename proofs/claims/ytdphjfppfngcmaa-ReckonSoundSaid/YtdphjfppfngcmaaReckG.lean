/- What the document's own corners of layer 4 returns. -/
import Derived.Test.YtdphjfppfngcmaaReckE
import Derived.Test.YtdphjfppfngcmaaReckF
import Derived.Test.YtdphjfppfngcmaaAppend
namespace Go.Proofs.Ytdphjfppfngcmaa
open Go.RowKit

/-- What an operator comes to at the ends of two spans, in their order. -/
def cor4 (op x0 x1 y0 y1 : Int) : List Int := [ex4 op x0 y0, ex4 op x0 y1, ex4 op x1 y0, ex4 op x1 y1]
def CorRel (L : List Int) (W : World) (v9 v10 : Value) (wx : World) : Prop :=
  ∃ j : Nat, j ≤ 4 ∧ v10 = .int .i64 j ∧ OwnW wx W.heap.size v9 (L.take j) ∧ Below W.heap.size W wx

set_option maxRecDepth 100000 in
set_option maxHeartbeats 4000000 in
theorem r4_corners (op : Int) (a b : Sp) (ha : I64 a.lo ∧ I64 a.hi) (hb : I64 b.lo ∧ I64 b.hi) (h0 : (op = 8 → b.lo ≠ 0) ∧ (op = 8 → b.hi ≠ 0)) (w : World) :
    Calls Try.prog 31 #[.int .i64 op, .agg #[.bool a.s, .int .i64 a.lo, .int .i64 a.hi], .agg #[.bool b.s, .int .i64 b.lo, .int .i64 b.hi]] w fun e w' => (∃ (A : Option Addr) (c : Nat), e = .returned (.slice A 4 c) ∧ 4 ≤ c ∧ c ≤ 9223372036854775807 ∧ WRow w' A (cor4 op a.lo a.hi b.lo b.hi)) ∧ Below w.heap.size w w' := by
  obtain ⟨i0, gi, gz0, gz1, gz2⟩ := info_parts info_wide
  go_enter Try.func31, Try.ntmps31
  go_upto_region 1 with fail
  generalize hW : ((w.alloc (.cells #[.bool a.s, .int .i64 a.lo, .int .i64 a.hi] 23)).alloc (.cells #[.bool b.s, .int .i64 b.lo, .int .i64 b.hi] 23)) = W
  have q0_0 : W.cell? ⟨w.heap.size, 0, none⟩ = some (.bool a.s) := by rw [← hW]; simp [go_sem]
  have q0_1 : W.cell? ⟨w.heap.size, 1, none⟩ = some (.int .i64 a.lo) := by rw [← hW]; simp [go_sem]
  have q0_2 : W.cell? ⟨w.heap.size, 2, none⟩ = some (.int .i64 a.hi) := by rw [← hW]; simp [go_sem]
  have q1_0 : W.cell? ⟨w.heap.size + 1, 0, none⟩ = some (.bool b.s) := by rw [← hW]; simp [go_sem]
  have q1_1 : W.cell? ⟨w.heap.size + 1, 1, none⟩ = some (.int .i64 b.lo) := by rw [← hW]; simp [go_sem]
  have q1_2 : W.cell? ⟨w.heap.size + 1, 2, none⟩ = some (.int .i64 b.hi) := by rw [← hW]; simp [go_sem]
  have z0 : w.heap.size < W.heap.size := by rw [← hW]; first | (simp; done) | (simp; omega)
  have z1 : w.heap.size + 1 < W.heap.size := by rw [← hW]; first | (simp; done) | (simp; omega)
  have HW : Below w.heap.size w W := by rw [← hW]; exact (by repeat (first | (with_reducible assumption) | (with_reducible exact Below.refl _ _) | (with_reducible refine Below.alloc ?_ (by first | omega | (simp; omega) | (simp; done) | (dsimp only; omega)) _) | (with_reducible refine Below.setCell ?_ (by first | omega | (simp; omega) | (simp; done) | (dsimp only; omega)) _) | (with_reducible refine Below.drew ?_) | (with_reducible refine Below.trans ?_ (Below.mono (by assumption) (by first | omega | (simp; omega) | (simp; done) | (dsimp only; omega))))))
  clear hW
  refine region_seqg (W := W) [_, _, _, _, _, _, _, _, _, _, _, _] [] rfl (by kernel_rfl) (by kernel_rfl) (by repeat (first | (with_reducible assumption) | (with_reducible exact Below.refl _ _) | (with_reducible refine Below.alloc ?_ (by first | omega | (simp; omega) | (simp; done) | (dsimp only; omega)) _) | (with_reducible refine Below.setCell ?_ (by first | omega | (simp; omega) | (simp; done) | (dsimp only; omega)) _) | (with_reducible refine Below.drew ?_) | (with_reducible refine Below.trans ?_ (Below.mono (by assumption) (by first | omega | (simp; omega) | (simp; done) | (dsimp only; omega)))))) (fun fin hfin => ?_)
  iterate 4
    first
      | (refine SeqG.yes (v := ?_) (A' := ?_) rfl (fun γ => by rfl) ?_ ?_ ?_
         rotate_left 2
         · intro γ w' K hS hK
           obtain ⟨hc, hf⟩ := bcell hS
           have hz := hS.size
           go_simp
           first
             | exact hK.out _ (Below.refl _ _)
             | trace_state
         · intro γ; simp only [Act.put, List.setIfInBounds_toArray, List.set_cons_zero, List.set_cons_succ]; exact rfl)
      | (refine SeqG.no (A' := ?_) rfl (fun γ => by rfl) ?_ ?_
         rotate_left
         · intro γ; simp only [Act.put, List.setIfInBounds_toArray, List.set_cons_zero, List.set_cons_succ]; exact rfl)
  refine SeqG.make (k := 4) (A' := ?_) (fun g => .slice (some ⟨g 0, 0, none⟩) 2 2) (RCell #[.int .i64 a.lo, .int .i64 a.hi] 3) rfl (fun γ => by rfl) (RCell.stable _ _) ?_ ?_ ?_
  rotate_left
  · intro γ w' K hS _ hK
    have hm := RCell.made (#[.int .i64 a.lo, .int .i64 a.hi]) (3) w'
    have HK := Lib.hid (hK.out (fun _ => w'.heap.size) (w'.alloc (.cells #[.int .i64 a.lo, .int .i64 a.hi] 3)) ((Below.refl _ _).alloc (Nat.le_refl _) _) hm); clear hK hm
    go_simp
    exact HK.out
  · intro γ; simp only [Act.put, List.setIfInBounds_toArray, List.set_cons_zero, List.set_cons_succ]; exact rfl
  iterate 4
    first
      | (refine SeqG.yes (v := ?_) (A' := ?_) rfl (fun γ => by rfl) ?_ ?_ ?_
         rotate_left 2
         · intro γ w' K hS hK
           obtain ⟨hc, hf⟩ := bcell hS
           have hz := hS.size
           go_simp
           first
             | exact hK.out _ (Below.refl _ _)
             | trace_state
         · intro γ; simp only [Act.put, List.setIfInBounds_toArray, List.set_cons_zero, List.set_cons_succ]; exact rfl)
      | (refine SeqG.no (A' := ?_) rfl (fun γ => by rfl) ?_ ?_
         rotate_left
         · intro γ; simp only [Act.put, List.setIfInBounds_toArray, List.set_cons_zero, List.set_cons_succ]; exact rfl)
  refine SeqG.make (k := 9) (A' := ?_) (fun g => .slice (some ⟨g 0, 0, none⟩) 2 2) (RCell #[.int .i64 b.lo, .int .i64 b.hi] 3) rfl (fun γ => by rfl) (RCell.stable _ _) ?_ ?_ ?_
  rotate_left
  · intro γ w' K hS _ hK
    have hm := RCell.made (#[.int .i64 b.lo, .int .i64 b.hi]) (3) w'
    have HK := Lib.hid (hK.out (fun _ => w'.heap.size) (w'.alloc (.cells #[.int .i64 b.lo, .int .i64 b.hi] 3)) ((Below.refl _ _).alloc (Nat.le_refl _) _) hm); clear hK hm
    go_simp
    exact HK.out
  · intro γ; simp only [Act.put, List.setIfInBounds_toArray, List.set_cons_zero, List.set_cons_succ]; exact rfl
  refine SeqG.hang (k := 10) (A' := ?_) (fun γ => .slice (some ⟨γ 4 0, 0, none⟩) 2 2) rfl (fun γ => by rfl) (fun i _ hn γ g => ?_) (fun γ g => ?_) ?_ ?_ ?_
  rotate_left
  · have hne : 4 ≠ i := fun e => hn (by rw [← e]; exact reachL_spec (of_decide_eq_true (by kernel_rfl)))
    (try dsimp only); rw [updG_ne γ g hne]
  · (try dsimp only); rw [updG_ne γ g (by decide)]
  · intro γ w' K hS _ hK
    go_simp
    exact hK.out _ (Below.refl _ _)
  · intro γ; simp only [Act.put, List.setIfInBounds_toArray, List.set_cons_zero, List.set_cons_succ]; exact rfl
  refine SeqG.hang (k := 11) (A' := ?_) (fun γ => .slice (some ⟨γ 9 0, 0, none⟩) 2 2) rfl (fun γ => by rfl) (fun i _ hn γ g => ?_) (fun γ g => ?_) ?_ ?_ ?_
  rotate_left
  · have hne : 9 ≠ i := fun e => hn (by rw [← e]; exact reachL_spec (of_decide_eq_true (by kernel_rfl)))
    (try dsimp only); rw [updG_ne γ g hne]
  · (try dsimp only); rw [updG_ne γ g (by decide)]
  · intro γ w' K hS _ hK
    go_simp
    exact hK.out _ (Below.refl _ _)
  · intro γ; simp only [Act.put, List.setIfInBounds_toArray, List.set_cons_zero, List.set_cons_succ]; exact rfl
  refine SeqG.nil (hfin.out _ _ ?_)
  clear hfin fin
  intro γ lo hi w1 hB1 hF hD
  replace hF := listF2 hF
  dsimp only at hF
  replace hD := listD2 hD
  dsimp only at hD
  replace hD := hD (by decide)
  obtain ⟨⟨_, _, y7, o7, p7, h7⟩, ⟨_, _, y8, o8, p8, h8⟩⟩ := hF
  generalize γ 4 0 = n1 at *
  generalize γ 9 0 = n2 at *
  have g7 := blk_cell h7
  have g8 := blk_cell h8
  have z7 := blk_lt h7
  have z8 := blk_lt h8
  have q7_0 := g7 0
  have q7_1 := g7 1
  have q8_0 := g8 0
  have q8_1 := g8 1
  simp only [List.getElem?_toArray, List.getElem?_cons_zero, List.getElem?_cons_succ] at q7_0 q7_1 q8_0 q8_1
  have HW1 := HW.trans (hB1.mono HW.size)
  refine TailL.nil ?_
  clear hD h7 h8 g7 g8 o7 p7 o8 p8 y7 y8 hB1 HW
  generalize w1 = W1 at *
  go_wp2
  go_loopw [9, 10] (fun v9 v10 wx => CorRel (cor4 op a.lo a.hi b.lo b.hi) W1 v9 v10 wx) (fun _ vi _ => 4 - (intOf vi).toNat)
  case atStart => exact ⟨0, by omega, rfl, OwnW.nil _ _, (by repeat (first | (with_reducible assumption) | (with_reducible exact Below.refl _ _) | (with_reducible refine Below.alloc ?_ (by first | omega | (simp; omega) | (simp; done) | (dsimp only; omega)) _) | (with_reducible refine Below.setCell ?_ (by first | omega | (simp; omega) | (simp; done) | (dsimp only; omega)) _) | (with_reducible refine Below.drew ?_) | (with_reducible refine Below.trans ?_ (Below.mono (by assumption) (by first | omega | (simp; omega) | (simp; done) | (dsimp only; omega))))))⟩
  case round =>
    obtain ⟨j, hj, rfl, hown, hB⟩ := hrel
    have r7_0 := (hB.cell (p := ⟨n1, 0, none⟩) z7).trans q7_0
    have r7_1 := (hB.cell (p := ⟨n1, 1, none⟩) z7).trans q7_1
    have r8_0 := (hB.cell (p := ⟨n2, 0, none⟩) z8).trans q8_0
    have r8_1 := (hB.cell (p := ⟨n2, 1, none⟩) z8).trans q8_1
    have wz0 : IntKind.i64.wrap 0 = 0 := IntWalk.i64_in _ (by omega)
    have wz1 : IntKind.i64.wrap 1 = 1 := IntWalk.i64_in _ (by omega)
    have y7 := Nat.lt_of_lt_of_le z7 hB.size
    have y8 := Nat.lt_of_lt_of_le z8 hB.size
    by_cases hj4 : j < 4
    · rcases (show j = 0 ∨ j = 1 ∨ j = 2 ∨ j = 3 by omega) with rfl | rfl | rfl | rfl
      · have hE := Lib.hid (r4_exact op a.lo b.lo ha.1 hb.1 (fun e => h0.1 e))
        go_wp2
        refine region_seqg (W := wr) [_, _, _, _, _, _, _, _, _, _, _, _, _, _] [_, _] rfl (by kernel_rfl) (by kernel_rfl) (by repeat (first | (with_reducible assumption) | (with_reducible exact Below.refl _ _) | (with_reducible refine Below.alloc ?_ (by first | omega | (simp; omega) | (simp; done) | (dsimp only; omega)) _) | (with_reducible refine Below.setCell ?_ (by first | omega | (simp; omega) | (simp; done) | (dsimp only; omega)) _) | (with_reducible refine Below.drew ?_) | (with_reducible refine Below.trans ?_ (Below.mono (by assumption) (by first | omega | (simp; omega) | (simp; done) | (dsimp only; omega)))))) (fun fin hfin => ?_)
        iterate 13
          first
            | (refine SeqG.yes (v := ?_) (A' := ?_) rfl (fun γ => by rfl) ?_ ?_ ?_
               rotate_left 2
               · intro γ w' K hS hK
                 obtain ⟨hc, hf⟩ := bcell hS
                 have hz := hS.size
                 go_simp
                 first
                   | exact hK.out _ (Below.refl _ _)
                   | (go_at_call 61; (with_reducible refine (hE.out _).mono ?_); rintro e w1 ⟨rfl, hb1⟩; exact hK.out _ hb1)
                   | trace_state
               · intro γ; simp only [Act.put, List.setIfInBounds_toArray, List.set_cons_zero, List.set_cons_succ]; exact rfl)
            | (refine SeqG.no (A' := ?_) rfl (fun γ => by rfl) ?_ ?_
               rotate_left
               · intro γ; simp only [Act.put, List.setIfInBounds_toArray, List.set_cons_zero, List.set_cons_succ]; exact rfl)
        refine SeqG.make (k := 13) (A' := ?_) (fun g => .slice (some ⟨g 0, 0, none⟩) 1 1) (RCell #[.int .i64 (hiW (ex4 op a.lo b.lo)), .int .u64 (loW (ex4 op a.lo b.lo))] 31) rfl (fun γ => by rfl) (RCell.stable _ _) ?_ ?_ ?_
        rotate_left
        · intro γ w' K hS _ hK
          have hm := RCell.made (#[.int .i64 (hiW (ex4 op a.lo b.lo)), .int .u64 (loW (ex4 op a.lo b.lo))]) (31) w'
          have HK := Lib.hid (hK.out (fun _ => w'.heap.size) (w'.alloc (.cells #[.int .i64 (hiW (ex4 op a.lo b.lo)), .int .u64 (loW (ex4 op a.lo b.lo))] 31)) ((Below.refl _ _).alloc (Nat.le_refl _) _) hm); clear hK hm
          go_simp
          exact HK.out
        · intro γ; simp only [Act.put, List.setIfInBounds_toArray, List.set_cons_zero, List.set_cons_succ]; exact rfl
        refine SeqG.nil (hfin.out _ _ ?_)
        clear hfin fin
        intro γ lo hi w1 hB1 hF hD
        replace hF := listF1 hF
        dsimp only at hF
        clear hD
        obtain ⟨_, _, y7, o7, p7, h7⟩ := hF
        generalize γ 13 0 = b5 at *
        have g7 := blk_cell h7
        have hown3 := hown.mono hB1
        have hsz := hB1.size
        have hsz0 := hB.size
        refine TailL.cons (fun K hK => ?_)
        refine wp_append_own_at _ _ _ 50 rfl W1.heap.size 31 i0 _ 2 16 Try.underlying50 gi gz0 gz1 gz2 rfl (by decide) _ _ _ rfl hown3 ⟨b5, 0, none⟩ 1 1 [.int .i64 (hiW (ex4 op a.lo b.lo)), .int .u64 (loW (ex4 op a.lo b.lo))] rfl rfl ?c1 ?c2 ?c3 ?c4 ?c5 ?_
        case c1 =>
          intro q u hq
          match q, hq with
          | 0, hq => simp at hq; subst hq; exact g7 0
          | 1, hq => simp at hq; subst hq; exact g7 1
          | q + 2, hq => simp at hq
        case c2 => intro u hu; simp at hu; rcases hu with rfl | rfl <;> rfl
        case c3 => show 0 + 1 ≤ maxLen; unfold maxLen; omega
        case c4 => show (0 + 1) * 16 ≤ 140737488355328; omega
        case c5 => omega
        intro v' w' hown' hgrow _
        refine hK.out _ _ ?_
        clear hK K
        have hN : OwnW w' W1.heap.size v' ((cor4 op a.lo a.hi b.lo b.hi).take (0 + 1)) := OwnW.snoc hown'
        have hNB : Below W1.heap.size W1 w' := (hB.trans (hB1.mono hB.size)).grown hgrow (by omega) (fun k e => (hown3.lt k e).1)
        clear hown hown3 hown' hgrow hB hB1 g7 h7 p7 o7 y7 hsz hsz0
        refine TailL.cons (fun K hK => ?_)
        go_simp
        refine hK.out _ _ ?_
        clear hK K
        refine TailL.nil ?_
        go_wp2
        go_roundw
        case rel => exact ⟨0 + 1, by omega, by go_num, hN, hNB⟩
        case measure => simp [intOf]
      · have hE := Lib.hid (r4_exact op a.lo b.hi ha.1 hb.2 (fun e => h0.2 e))
        go_wp2
        refine region_seqg (W := wr) [_, _, _, _, _, _, _, _, _, _, _, _, _, _] [_, _] rfl (by kernel_rfl) (by kernel_rfl) (by repeat (first | (with_reducible assumption) | (with_reducible exact Below.refl _ _) | (with_reducible refine Below.alloc ?_ (by first | omega | (simp; omega) | (simp; done) | (dsimp only; omega)) _) | (with_reducible refine Below.setCell ?_ (by first | omega | (simp; omega) | (simp; done) | (dsimp only; omega)) _) | (with_reducible refine Below.drew ?_) | (with_reducible refine Below.trans ?_ (Below.mono (by assumption) (by first | omega | (simp; omega) | (simp; done) | (dsimp only; omega)))))) (fun fin hfin => ?_)
        iterate 13
          first
            | (refine SeqG.yes (v := ?_) (A' := ?_) rfl (fun γ => by rfl) ?_ ?_ ?_
               rotate_left 2
               · intro γ w' K hS hK
                 obtain ⟨hc, hf⟩ := bcell hS
                 have hz := hS.size
                 go_simp
                 first
                   | exact hK.out _ (Below.refl _ _)
                   | (go_at_call 61; (with_reducible refine (hE.out _).mono ?_); rintro e w1 ⟨rfl, hb1⟩; exact hK.out _ hb1)
                   | trace_state
               · intro γ; simp only [Act.put, List.setIfInBounds_toArray, List.set_cons_zero, List.set_cons_succ]; exact rfl)
            | (refine SeqG.no (A' := ?_) rfl (fun γ => by rfl) ?_ ?_
               rotate_left
               · intro γ; simp only [Act.put, List.setIfInBounds_toArray, List.set_cons_zero, List.set_cons_succ]; exact rfl)
        refine SeqG.make (k := 13) (A' := ?_) (fun g => .slice (some ⟨g 0, 0, none⟩) 1 1) (RCell #[.int .i64 (hiW (ex4 op a.lo b.hi)), .int .u64 (loW (ex4 op a.lo b.hi))] 31) rfl (fun γ => by rfl) (RCell.stable _ _) ?_ ?_ ?_
        rotate_left
        · intro γ w' K hS _ hK
          have hm := RCell.made (#[.int .i64 (hiW (ex4 op a.lo b.hi)), .int .u64 (loW (ex4 op a.lo b.hi))]) (31) w'
          have HK := Lib.hid (hK.out (fun _ => w'.heap.size) (w'.alloc (.cells #[.int .i64 (hiW (ex4 op a.lo b.hi)), .int .u64 (loW (ex4 op a.lo b.hi))] 31)) ((Below.refl _ _).alloc (Nat.le_refl _) _) hm); clear hK hm
          go_simp
          exact HK.out
        · intro γ; simp only [Act.put, List.setIfInBounds_toArray, List.set_cons_zero, List.set_cons_succ]; exact rfl
        refine SeqG.nil (hfin.out _ _ ?_)
        clear hfin fin
        intro γ lo hi w1 hB1 hF hD
        replace hF := listF1 hF
        dsimp only at hF
        clear hD
        obtain ⟨_, _, y7, o7, p7, h7⟩ := hF
        generalize γ 13 0 = b5 at *
        have g7 := blk_cell h7
        have hown3 := hown.mono hB1
        have hsz := hB1.size
        have hsz0 := hB.size
        refine TailL.cons (fun K hK => ?_)
        refine wp_append_own_at _ _ _ 50 rfl W1.heap.size 31 i0 _ 2 16 Try.underlying50 gi gz0 gz1 gz2 rfl (by decide) _ _ _ rfl hown3 ⟨b5, 0, none⟩ 1 1 [.int .i64 (hiW (ex4 op a.lo b.hi)), .int .u64 (loW (ex4 op a.lo b.hi))] rfl rfl ?c1 ?c2 ?c3 ?c4 ?c5 ?_
        case c1 =>
          intro q u hq
          match q, hq with
          | 0, hq => simp at hq; subst hq; exact g7 0
          | 1, hq => simp at hq; subst hq; exact g7 1
          | q + 2, hq => simp at hq
        case c2 => intro u hu; simp at hu; rcases hu with rfl | rfl <;> rfl
        case c3 => show 1 + 1 ≤ maxLen; unfold maxLen; omega
        case c4 => show (1 + 1) * 16 ≤ 140737488355328; omega
        case c5 => omega
        intro v' w' hown' hgrow _
        refine hK.out _ _ ?_
        clear hK K
        have hN : OwnW w' W1.heap.size v' ((cor4 op a.lo a.hi b.lo b.hi).take (1 + 1)) := OwnW.snoc hown'
        have hNB : Below W1.heap.size W1 w' := (hB.trans (hB1.mono hB.size)).grown hgrow (by omega) (fun k e => (hown3.lt k e).1)
        clear hown hown3 hown' hgrow hB hB1 g7 h7 p7 o7 y7 hsz hsz0
        refine TailL.cons (fun K hK => ?_)
        go_simp
        refine hK.out _ _ ?_
        clear hK K
        refine TailL.nil ?_
        go_wp2
        go_roundw
        case rel => exact ⟨1 + 1, by omega, by go_num, hN, hNB⟩
        case measure => simp [intOf]
      · have hE := Lib.hid (r4_exact op a.hi b.lo ha.2 hb.1 (fun e => h0.1 e))
        go_wp2
        refine region_seqg (W := wr) [_, _, _, _, _, _, _, _, _, _, _, _, _, _] [_, _] rfl (by kernel_rfl) (by kernel_rfl) (by repeat (first | (with_reducible assumption) | (with_reducible exact Below.refl _ _) | (with_reducible refine Below.alloc ?_ (by first | omega | (simp; omega) | (simp; done) | (dsimp only; omega)) _) | (with_reducible refine Below.setCell ?_ (by first | omega | (simp; omega) | (simp; done) | (dsimp only; omega)) _) | (with_reducible refine Below.drew ?_) | (with_reducible refine Below.trans ?_ (Below.mono (by assumption) (by first | omega | (simp; omega) | (simp; done) | (dsimp only; omega)))))) (fun fin hfin => ?_)
        iterate 13
          first
            | (refine SeqG.yes (v := ?_) (A' := ?_) rfl (fun γ => by rfl) ?_ ?_ ?_
               rotate_left 2
               · intro γ w' K hS hK
                 obtain ⟨hc, hf⟩ := bcell hS
                 have hz := hS.size
                 go_simp
                 first
                   | exact hK.out _ (Below.refl _ _)
                   | (go_at_call 61; (with_reducible refine (hE.out _).mono ?_); rintro e w1 ⟨rfl, hb1⟩; exact hK.out _ hb1)
                   | trace_state
               · intro γ; simp only [Act.put, List.setIfInBounds_toArray, List.set_cons_zero, List.set_cons_succ]; exact rfl)
            | (refine SeqG.no (A' := ?_) rfl (fun γ => by rfl) ?_ ?_
               rotate_left
               · intro γ; simp only [Act.put, List.setIfInBounds_toArray, List.set_cons_zero, List.set_cons_succ]; exact rfl)
        refine SeqG.make (k := 13) (A' := ?_) (fun g => .slice (some ⟨g 0, 0, none⟩) 1 1) (RCell #[.int .i64 (hiW (ex4 op a.hi b.lo)), .int .u64 (loW (ex4 op a.hi b.lo))] 31) rfl (fun γ => by rfl) (RCell.stable _ _) ?_ ?_ ?_
        rotate_left
        · intro γ w' K hS _ hK
          have hm := RCell.made (#[.int .i64 (hiW (ex4 op a.hi b.lo)), .int .u64 (loW (ex4 op a.hi b.lo))]) (31) w'
          have HK := Lib.hid (hK.out (fun _ => w'.heap.size) (w'.alloc (.cells #[.int .i64 (hiW (ex4 op a.hi b.lo)), .int .u64 (loW (ex4 op a.hi b.lo))] 31)) ((Below.refl _ _).alloc (Nat.le_refl _) _) hm); clear hK hm
          go_simp
          exact HK.out
        · intro γ; simp only [Act.put, List.setIfInBounds_toArray, List.set_cons_zero, List.set_cons_succ]; exact rfl
        refine SeqG.nil (hfin.out _ _ ?_)
        clear hfin fin
        intro γ lo hi w1 hB1 hF hD
        replace hF := listF1 hF
        dsimp only at hF
        clear hD
        obtain ⟨_, _, y7, o7, p7, h7⟩ := hF
        generalize γ 13 0 = b5 at *
        have g7 := blk_cell h7
        have hown3 := hown.mono hB1
        have hsz := hB1.size
        have hsz0 := hB.size
        refine TailL.cons (fun K hK => ?_)
        refine wp_append_own_at _ _ _ 50 rfl W1.heap.size 31 i0 _ 2 16 Try.underlying50 gi gz0 gz1 gz2 rfl (by decide) _ _ _ rfl hown3 ⟨b5, 0, none⟩ 1 1 [.int .i64 (hiW (ex4 op a.hi b.lo)), .int .u64 (loW (ex4 op a.hi b.lo))] rfl rfl ?c1 ?c2 ?c3 ?c4 ?c5 ?_
        case c1 =>
          intro q u hq
          match q, hq with
          | 0, hq => simp at hq; subst hq; exact g7 0
          | 1, hq => simp at hq; subst hq; exact g7 1
          | q + 2, hq => simp at hq
        case c2 => intro u hu; simp at hu; rcases hu with rfl | rfl <;> rfl
        case c3 => show 2 + 1 ≤ maxLen; unfold maxLen; omega
        case c4 => show (2 + 1) * 16 ≤ 140737488355328; omega
        case c5 => omega
        intro v' w' hown' hgrow _
        refine hK.out _ _ ?_
        clear hK K
        have hN : OwnW w' W1.heap.size v' ((cor4 op a.lo a.hi b.lo b.hi).take (2 + 1)) := OwnW.snoc hown'
        have hNB : Below W1.heap.size W1 w' := (hB.trans (hB1.mono hB.size)).grown hgrow (by omega) (fun k e => (hown3.lt k e).1)
        clear hown hown3 hown' hgrow hB hB1 g7 h7 p7 o7 y7 hsz hsz0
        refine TailL.cons (fun K hK => ?_)
        go_simp
        refine hK.out _ _ ?_
        clear hK K
        refine TailL.nil ?_
        go_wp2
        go_roundw
        case rel => exact ⟨2 + 1, by omega, by go_num, hN, hNB⟩
        case measure => simp [intOf]
      · have hE := Lib.hid (r4_exact op a.hi b.hi ha.2 hb.2 (fun e => h0.2 e))
        go_wp2
        refine region_seqg (W := wr) [_, _, _, _, _, _, _, _, _, _, _, _, _, _] [_, _] rfl (by kernel_rfl) (by kernel_rfl) (by repeat (first | (with_reducible assumption) | (with_reducible exact Below.refl _ _) | (with_reducible refine Below.alloc ?_ (by first | omega | (simp; omega) | (simp; done) | (dsimp only; omega)) _) | (with_reducible refine Below.setCell ?_ (by first | omega | (simp; omega) | (simp; done) | (dsimp only; omega)) _) | (with_reducible refine Below.drew ?_) | (with_reducible refine Below.trans ?_ (Below.mono (by assumption) (by first | omega | (simp; omega) | (simp; done) | (dsimp only; omega)))))) (fun fin hfin => ?_)
        iterate 13
          first
            | (refine SeqG.yes (v := ?_) (A' := ?_) rfl (fun γ => by rfl) ?_ ?_ ?_
               rotate_left 2
               · intro γ w' K hS hK
                 obtain ⟨hc, hf⟩ := bcell hS
                 have hz := hS.size
                 go_simp
                 first
                   | exact hK.out _ (Below.refl _ _)
                   | (go_at_call 61; (with_reducible refine (hE.out _).mono ?_); rintro e w1 ⟨rfl, hb1⟩; exact hK.out _ hb1)
                   | trace_state
               · intro γ; simp only [Act.put, List.setIfInBounds_toArray, List.set_cons_zero, List.set_cons_succ]; exact rfl)
            | (refine SeqG.no (A' := ?_) rfl (fun γ => by rfl) ?_ ?_
               rotate_left
               · intro γ; simp only [Act.put, List.setIfInBounds_toArray, List.set_cons_zero, List.set_cons_succ]; exact rfl)
        refine SeqG.make (k := 13) (A' := ?_) (fun g => .slice (some ⟨g 0, 0, none⟩) 1 1) (RCell #[.int .i64 (hiW (ex4 op a.hi b.hi)), .int .u64 (loW (ex4 op a.hi b.hi))] 31) rfl (fun γ => by rfl) (RCell.stable _ _) ?_ ?_ ?_
        rotate_left
        · intro γ w' K hS _ hK
          have hm := RCell.made (#[.int .i64 (hiW (ex4 op a.hi b.hi)), .int .u64 (loW (ex4 op a.hi b.hi))]) (31) w'
          have HK := Lib.hid (hK.out (fun _ => w'.heap.size) (w'.alloc (.cells #[.int .i64 (hiW (ex4 op a.hi b.hi)), .int .u64 (loW (ex4 op a.hi b.hi))] 31)) ((Below.refl _ _).alloc (Nat.le_refl _) _) hm); clear hK hm
          go_simp
          exact HK.out
        · intro γ; simp only [Act.put, List.setIfInBounds_toArray, List.set_cons_zero, List.set_cons_succ]; exact rfl
        refine SeqG.nil (hfin.out _ _ ?_)
        clear hfin fin
        intro γ lo hi w1 hB1 hF hD
        replace hF := listF1 hF
        dsimp only at hF
        clear hD
        obtain ⟨_, _, y7, o7, p7, h7⟩ := hF
        generalize γ 13 0 = b5 at *
        have g7 := blk_cell h7
        have hown3 := hown.mono hB1
        have hsz := hB1.size
        have hsz0 := hB.size
        refine TailL.cons (fun K hK => ?_)
        refine wp_append_own_at _ _ _ 50 rfl W1.heap.size 31 i0 _ 2 16 Try.underlying50 gi gz0 gz1 gz2 rfl (by decide) _ _ _ rfl hown3 ⟨b5, 0, none⟩ 1 1 [.int .i64 (hiW (ex4 op a.hi b.hi)), .int .u64 (loW (ex4 op a.hi b.hi))] rfl rfl ?c1 ?c2 ?c3 ?c4 ?c5 ?_
        case c1 =>
          intro q u hq
          match q, hq with
          | 0, hq => simp at hq; subst hq; exact g7 0
          | 1, hq => simp at hq; subst hq; exact g7 1
          | q + 2, hq => simp at hq
        case c2 => intro u hu; simp at hu; rcases hu with rfl | rfl <;> rfl
        case c3 => show 3 + 1 ≤ maxLen; unfold maxLen; omega
        case c4 => show (3 + 1) * 16 ≤ 140737488355328; omega
        case c5 => omega
        intro v' w' hown' hgrow _
        refine hK.out _ _ ?_
        clear hK K
        have hN : OwnW w' W1.heap.size v' ((cor4 op a.lo a.hi b.lo b.hi).take (3 + 1)) := OwnW.snoc hown'
        have hNB : Below W1.heap.size W1 w' := (hB.trans (hB1.mono hB.size)).grown hgrow (by omega) (fun k e => (hown3.lt k e).1)
        clear hown hown3 hown' hgrow hB hB1 g7 h7 p7 o7 y7 hsz hsz0
        refine TailL.cons (fun K hK => ?_)
        go_simp
        refine hK.out _ _ ?_
        clear hK K
        refine TailL.nil ?_
        go_wp2
        go_roundw
        case rel => exact ⟨3 + 1, by omega, by go_num, hN, hNB⟩
        case measure => simp [intOf]
    · obtain rfl : j = 4 := by omega
      obtain ⟨A, cp, e7, hl1, hl2, hrow⟩ := hown.row
      have hB' := hB.size
      subst e7
      go_wp2
      go_ret
      exact ⟨⟨A, cp, rfl, hl1, hl2, hrow⟩, HW1.trans (hB.mono HW1.size)⟩
end Go.Proofs.Ytdphjfppfngcmaa
