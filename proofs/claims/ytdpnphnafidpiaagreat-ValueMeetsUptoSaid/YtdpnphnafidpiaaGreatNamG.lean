/- What the document's own Put and Clean of layer 7 return. -/
import Derived.Test.YtdpnphnafidpiaaGreatNamF
namespace Go.Proofs.YtdpnphnafidpiaaGreat
open Go.RowKit

theorem put_take (x : Str) (l : List Str) (k : Nat) (h : k < l.length) : (l.take (k + 1)).foldl (putF x) ([], false) = putF x ((l.take k).foldl (putF x) ([], false)) l[k] := by
  rw [take_snoc' l k h, List.foldl_append]; rfl
theorem put_len (x : Str) (l : List Str) : ∀ k, (((l.take k).foldl (putF x) ([], false)).2 = false → ((l.take k).foldl (putF x) ([], false)).1.length ≤ k) ∧ ((l.take k).foldl (putF x) ([], false)).1.length ≤ k + 1 := by
  intro k
  induction k with
  | zero => simp
  | succ k ih =>
    by_cases h : k < l.length
    · rw [put_take x l k h]
      generalize (l.take k).foldl (putF x) ([], false) = r at *
      obtain ⟨q, b⟩ := r
      obtain ⟨h1, h2⟩ := ih
      dsimp only at h1 h2
      unfold putF
      dsimp only
      split
      · next hc =>
        have hb : b = false := by
          rw [Bool.and_eq_true, Bool.not_eq_true'] at hc
          exact hc.1
        have := h1 hb
        refine And.intro (fun h => by simp at h) ?_
        rw [List.length_append]
        split <;> simp <;> omega
      · dsimp only
        refine ⟨fun hb => ?_, ?_⟩
        · have := h1 hb; simp; omega
        · simp; omega
    · have e : l.take (k + 1) = l.take k := by rw [List.take_of_length_le (by omega), List.take_of_length_le (by omega)]
      rw [e]
      exact ⟨fun h => by have := ih.1 h; omega, by have := ih.2; omega⟩

def PutRel (x : Str) (l : List Str) (W : World) (v5 v6 v7 : Value) (wx : World) : Prop :=
  ∃ (k : Nat) (q : List Str) (b : Bool), k ≤ l.length ∧ v7 = .int .i64 k ∧ v6 = .bool b ∧ (l.take k).foldl (putF x) ([], false) = (q, b) ∧ OwnS wx W.heap.size v5 q ∧ Below W.heap.size W wx
theorem srow_one (w : World) (y : Str) : SRow (w.alloc (.cells #[encStr y] 9)) (some ⟨w.heap.size, 0, none⟩) [y] := by
  intro i hi
  have : i = 0 := by simp at hi; omega
  subst this
  simp [Addr.add, go_sem]

set_option maxRecDepth 100000 in
set_option maxHeartbeats 4000000 in
theorem r7_Put (l : List Str) (A : Option Addr) (c : Nat) (x : Str) (w : World) (hl : Strict l) (hm : (l.length + 1) * 16 ≤ 140737488355328) (hr : SRow w A l) :
    Calls Tryz.prog 100 #[.slice A l.length c, encStr x] w fun e w' => (∃ v', e = .returned v' ∧ OwnS w' w.heap.size v' (insS x l)) ∧ Below w.heap.size w w' := by
  go_enter Tryz.func100, Tryz.ntmps100
  go_wp2
  go_loopw [5, 6, 7] (fun v5 v6 v7 wx => PutRel x l w v5 v6 v7 wx) (fun _ _ v7 _ => l.length - (intOf v7).toNat)
  case atStart => exact ⟨0, [], false, by omega, rfl, rfl, rfl, OwnS.nil _ _, Below.refl _ _⟩
  case round =>
    obtain ⟨k, q, b, hk, rfl, rfl, hq, hown, hB⟩ := hrel
    have hln := put_len x l k
    rw [hq] at hln
    dsimp only at hln
    have hBs := hB.size
    by_cases hlt : k < l.length
    · have hst := put_take x l k hlt
      rw [hq] at hst
      obtain ⟨bb, o, rfl, hc, hbl⟩ := hr.cell hlt
      have hcw := (hB.cell (p := ⟨bb, o + k, none⟩) hbl).trans hc
      have hbw : bb < wr.heap.size := by omega
      generalize l[k] = y at *
      have hput : ((!b && (decide (x < y) || x == y)) = true ∧ putF x (q, b) y = (q ++ (if x < y then [x, y] else [y]), true)) ∨ ((!b && (decide (x < y) || x == y)) = false ∧ putF x (q, b) y = (q ++ [y], b)) := by
        unfold putF
        cases h : (!b && (decide (x < y) || x == y))
        · exact Or.inr ⟨rfl, by rw [if_neg (by decide)]⟩
        · exact Or.inl ⟨rfl, by rw [if_pos rfl]⟩
      rw [← bytesLess_eq] at hput
      have hlx : (Op.bytesLess x y = true) ↔ x < y := by rw [bytesLess_eq, decide_eq_true_eq]
      cases b
      · cases h1 : Op.bytesLess x y
        · cases h2 : x == y
          · have hp : putF x (q, false) y = (q ++ [y], false) := by
              rcases hput with ⟨h, _⟩ | ⟨_, h⟩
              · rw [h1, h2] at h; exact absurd h (by decide)
              · exact h
            rw [hp] at hst
            have HS := Lib.hid hst
            clear hput hst hp hq
            go_wp2_with (at_builtin; refine wpList_append_ss rfl _ _ rfl w.heap.size _ q [y] rfl (hown.mono (by repeat (first | (with_reducible assumption) | (with_reducible exact Below.refl _ _) | (with_reducible refine Below.alloc ?_ (by first | omega | (simp; omega) | (simp; done) | (dsimp only; omega)) _) | (with_reducible refine Below.setCell ?_ (by first | omega | (simp; omega) | (simp; done) | (dsimp only; omega)) _) | (with_reducible refine Below.drew ?_) | (with_reducible refine Below.trans ?_ (Below.mono (by assumption) (by first | omega | (simp; omega) | (simp; done) | (dsimp only; omega))))))) (some ⟨wr.heap.size, 0, none⟩) 1 rfl (fun e => by cases e) (srow_one _ _) (by simp; omega) (by simp; omega) ?_)
            intro v' w' hown' hg hb
            have hN : Below w.heap.size w w' := Below.grown (w := wr.alloc (.cells #[encStr y] 9)) (by repeat (first | (with_reducible assumption) | (with_reducible exact Below.refl _ _) | (with_reducible refine Below.alloc ?_ (by first | omega | (simp; omega) | (simp; done) | (dsimp only; omega)) _) | (with_reducible refine Below.setCell ?_ (by first | omega | (simp; omega) | (simp; done) | (dsimp only; omega)) _) | (with_reducible refine Below.drew ?_) | (with_reducible refine Below.trans ?_ (Below.mono (by assumption) (by first | omega | (simp; omega) | (simp; done) | (dsimp only; omega)))))) hg (by simp; omega) (fun j e => (hown.lt j e).1)
            clear hown hg hb hB hc hcw
            go_wp2
            go_roundw
            case rel => exact ⟨k + 1, _, false, by omega, by go_num, rfl, HS.out, hown', hN⟩
            case measure => simp [intOf]; omega
          · have hp : putF x (q, false) y = (q ++ [y], true) := by
              rcases hput with ⟨_, h⟩ | ⟨h, _⟩
              · rw [h, if_neg (fun hh => by rw [hlx.2 hh] at h1; cases h1)]
              · rw [h1, h2] at h; exact absurd h (by decide)
            rw [hp] at hst
            have HS := Lib.hid hst
            clear hput hst hp hq
            go_wp2_with (at_builtin; refine wpList_append_ss rfl _ _ rfl w.heap.size _ q [y] rfl (hown.mono (by repeat (first | (with_reducible assumption) | (with_reducible exact Below.refl _ _) | (with_reducible refine Below.alloc ?_ (by first | omega | (simp; omega) | (simp; done) | (dsimp only; omega)) _) | (with_reducible refine Below.setCell ?_ (by first | omega | (simp; omega) | (simp; done) | (dsimp only; omega)) _) | (with_reducible refine Below.drew ?_) | (with_reducible refine Below.trans ?_ (Below.mono (by assumption) (by first | omega | (simp; omega) | (simp; done) | (dsimp only; omega))))))) (some ⟨wr.heap.size, 0, none⟩) 1 rfl (fun e => by cases e) (srow_one _ _) (by simp; omega) (by simp; omega) ?_)
            intro v' w' hown' hg hb
            have hN : Below w.heap.size w w' := Below.grown (w := wr.alloc (.cells #[encStr y] 9)) (by repeat (first | (with_reducible assumption) | (with_reducible exact Below.refl _ _) | (with_reducible refine Below.alloc ?_ (by first | omega | (simp; omega) | (simp; done) | (dsimp only; omega)) _) | (with_reducible refine Below.setCell ?_ (by first | omega | (simp; omega) | (simp; done) | (dsimp only; omega)) _) | (with_reducible refine Below.drew ?_) | (with_reducible refine Below.trans ?_ (Below.mono (by assumption) (by first | omega | (simp; omega) | (simp; done) | (dsimp only; omega)))))) hg (by simp; omega) (fun j e => (hown.lt j e).1)
            clear hown hg hb hB hc hcw
            go_wp2
            go_roundw
            case rel => exact ⟨k + 1, _, true, by omega, by go_num, rfl, HS.out, hown', hN⟩
            case measure => simp [intOf]; omega
        · have hlk := hln.1 rfl
          have hp : putF x (q, false) y = (q ++ [x] ++ [y], true) := by
            rcases hput with ⟨_, h⟩ | ⟨h, _⟩
            · rw [h, if_pos (hlx.1 h1)]; simp
            · rw [h1] at h; exact absurd h (by cases (x == y) <;> decide)
          rw [hp] at hst
          have HS := Lib.hid hst
          clear hput hst hp hq
          go_wp2_with (at_builtin; refine wpList_append_ss rfl _ _ rfl w.heap.size _ q [x] rfl (hown.mono (by repeat (first | (with_reducible assumption) | (with_reducible exact Below.refl _ _) | (with_reducible refine Below.alloc ?_ (by first | omega | (simp; omega) | (simp; done) | (dsimp only; omega)) _) | (with_reducible refine Below.setCell ?_ (by first | omega | (simp; omega) | (simp; done) | (dsimp only; omega)) _) | (with_reducible refine Below.drew ?_) | (with_reducible refine Below.trans ?_ (Below.mono (by assumption) (by first | omega | (simp; omega) | (simp; done) | (dsimp only; omega))))))) (some ⟨wr.heap.size, 0, none⟩) 1 rfl (fun e => by cases e) (srow_one _ _) (by simp; omega) (by simp; omega) ?_)
          intro v1 w1 hown1 hg1 hb1
          have hN1 : Below w.heap.size w w1 := Below.grown (w := wr.alloc (.cells #[encStr x] 9)) (by repeat (first | (with_reducible assumption) | (with_reducible exact Below.refl _ _) | (with_reducible refine Below.alloc ?_ (by first | omega | (simp; omega) | (simp; done) | (dsimp only; omega)) _) | (with_reducible refine Below.setCell ?_ (by first | omega | (simp; omega) | (simp; done) | (dsimp only; omega)) _) | (with_reducible refine Below.drew ?_) | (with_reducible refine Below.trans ?_ (Below.mono (by assumption) (by first | omega | (simp; omega) | (simp; done) | (dsimp only; omega)))))) hg1 (by simp; omega) (fun j e => (hown.lt j e).1)
          have hw1 := hg1.size
          simp at hw1
          have hcw1 := (hN1.cell (p := ⟨bb, o + k, none⟩) hbl).trans hc
          have hbw1 : bb < w1.heap.size := by omega
          clear hown hg1 hb1 hB hcw
          go_wp2_with (at_builtin; refine wpList_append_ss rfl _ _ rfl w.heap.size _ (q ++ [x]) [y] rfl (hown1.mono (by repeat (first | (with_reducible assumption) | (with_reducible exact Below.refl _ _) | (with_reducible refine Below.alloc ?_ (by first | omega | (simp; omega) | (simp; done) | (dsimp only; omega)) _) | (with_reducible refine Below.setCell ?_ (by first | omega | (simp; omega) | (simp; done) | (dsimp only; omega)) _) | (with_reducible refine Below.drew ?_) | (with_reducible refine Below.trans ?_ (Below.mono (by assumption) (by first | omega | (simp; omega) | (simp; done) | (dsimp only; omega))))))) (some ⟨w1.heap.size, 0, none⟩) 1 rfl (fun e => by cases e) (srow_one _ _) (by simp; omega) (by simp; omega) ?_)
          intro v' w' hown' hg hb
          have hN : Below w.heap.size w w' := Below.grown (w := w1.alloc (.cells #[encStr y] 9)) (by repeat (first | (with_reducible assumption) | (with_reducible exact Below.refl _ _) | (with_reducible refine Below.alloc ?_ (by first | omega | (simp; omega) | (simp; done) | (dsimp only; omega)) _) | (with_reducible refine Below.setCell ?_ (by first | omega | (simp; omega) | (simp; done) | (dsimp only; omega)) _) | (with_reducible refine Below.drew ?_) | (with_reducible refine Below.trans ?_ (Below.mono (by assumption) (by first | omega | (simp; omega) | (simp; done) | (dsimp only; omega)))))) hg (by simp; omega) (fun j e => (hown1.lt j e).1)
          clear hown1 hg hb hN1 hc hcw1
          go_wp2
          go_roundw
          case rel => exact ⟨k + 1, _, true, by omega, by go_num, rfl, HS.out, by rw [List.append_assoc]; exact hown', hN⟩
          case measure => simp [intOf]; omega
      · have hp : putF x (q, true) y = (q ++ [y], true) := by
          rcases hput with ⟨h, _⟩ | ⟨_, h⟩
          · exact absurd h (by simp)
          · exact h
        rw [hp] at hst
        have HS := Lib.hid hst
        clear hput hst hp hq
        go_wp2_with (at_builtin; refine wpList_append_ss rfl _ _ rfl w.heap.size _ q [y] rfl (hown.mono (by repeat (first | (with_reducible assumption) | (with_reducible exact Below.refl _ _) | (with_reducible refine Below.alloc ?_ (by first | omega | (simp; omega) | (simp; done) | (dsimp only; omega)) _) | (with_reducible refine Below.setCell ?_ (by first | omega | (simp; omega) | (simp; done) | (dsimp only; omega)) _) | (with_reducible refine Below.drew ?_) | (with_reducible refine Below.trans ?_ (Below.mono (by assumption) (by first | omega | (simp; omega) | (simp; done) | (dsimp only; omega))))))) (some ⟨wr.heap.size, 0, none⟩) 1 rfl (fun e => by cases e) (srow_one _ _) (by simp; omega) (by simp; omega) ?_)
        intro v' w' hown' hg hb
        have hN : Below w.heap.size w w' := Below.grown (w := wr.alloc (.cells #[encStr y] 9)) (by repeat (first | (with_reducible assumption) | (with_reducible exact Below.refl _ _) | (with_reducible refine Below.alloc ?_ (by first | omega | (simp; omega) | (simp; done) | (dsimp only; omega)) _) | (with_reducible refine Below.setCell ?_ (by first | omega | (simp; omega) | (simp; done) | (dsimp only; omega)) _) | (with_reducible refine Below.drew ?_) | (with_reducible refine Below.trans ?_ (Below.mono (by assumption) (by first | omega | (simp; omega) | (simp; done) | (dsimp only; omega)))))) hg (by simp; omega) (fun j e => (hown.lt j e).1)
        clear hown hg hb hB hc hcw
        go_wp2
        go_roundw
        case rel => exact ⟨k + 1, _, true, by omega, by go_num, rfl, HS.out, hown', hN⟩
        case measure => simp [intOf]; omega
    · obtain rfl : k = l.length := by omega
      have hpe := putF_false x l [] hl
      rw [List.nil_append] at hpe
      rw [List.take_length] at hq
      rw [hq] at hpe
      unfold putE at hpe
      dsimp only at hpe
      cases b
      · have hlk := hln.1 rfl
        rw [if_neg (by decide)] at hpe
        have HP := Lib.hid hpe
        clear hpe hq
        go_wp2_with (at_builtin; refine wpList_append_ss rfl _ _ rfl w.heap.size _ q [x] rfl (hown.mono (by repeat (first | (with_reducible assumption) | (with_reducible exact Below.refl _ _) | (with_reducible refine Below.alloc ?_ (by first | omega | (simp; omega) | (simp; done) | (dsimp only; omega)) _) | (with_reducible refine Below.setCell ?_ (by first | omega | (simp; omega) | (simp; done) | (dsimp only; omega)) _) | (with_reducible refine Below.drew ?_) | (with_reducible refine Below.trans ?_ (Below.mono (by assumption) (by first | omega | (simp; omega) | (simp; done) | (dsimp only; omega))))))) (some ⟨wr.heap.size, 0, none⟩) 1 rfl (fun e => by cases e) (srow_one _ _) (by simp; omega) (by simp; omega) ?_)
        intro v' w' hown' hg hb
        have hN : Below w.heap.size w w' := Below.grown (w := wr.alloc (.cells #[encStr x] 9)) (by repeat (first | (with_reducible assumption) | (with_reducible exact Below.refl _ _) | (with_reducible refine Below.alloc ?_ (by first | omega | (simp; omega) | (simp; done) | (dsimp only; omega)) _) | (with_reducible refine Below.setCell ?_ (by first | omega | (simp; omega) | (simp; done) | (dsimp only; omega)) _) | (with_reducible refine Below.drew ?_) | (with_reducible refine Below.trans ?_ (Below.mono (by assumption) (by first | omega | (simp; omega) | (simp; done) | (dsimp only; omega)))))) hg (by simp; omega) (fun j e => (hown.lt j e).1)
        rw [HP.out] at hown'
        clear hown hg hb hB
        go_wp2
        go_ret
        exact ⟨⟨v', rfl, hown'⟩, hN⟩
      · rw [if_pos rfl] at hpe
        rw [hpe] at hown
        clear hpe hq
        go_wp2
        go_ret
        exact ⟨⟨_, rfl, hown⟩, hB⟩
end Go.Proofs.YtdpnphnafidpiaaGreat
