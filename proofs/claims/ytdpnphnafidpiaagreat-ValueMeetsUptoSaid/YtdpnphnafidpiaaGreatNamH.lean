/- What the document's own Clean of layer 7 returns; sets as values. -/
import Derived.Test.YtdpnphnafidpiaaGreatNamG
namespace Go.Proofs.YtdpnphnafidpiaaGreat
open Go.RowKit

/-- The value v is the set of null, if n, and of the strings l, read in world w; the strings lie in blocks from b on. -/
def SetV (b : Nat) (w : World) (v : Value) (n : Bool) (l : List Str) : Prop := ∃ (A : Option Addr) (c : Nat), v = .agg #[.bool n, .slice A l.length c] ∧ l.length ≤ c ∧ c ≤ 9223372036854775807 ∧ SRow w A l ∧ (A = none → c = 0) ∧ (∀ a, A = some a → b ≤ a.block ∧ a.spot = none)
theorem SetV.mono {b : Nat} {w w' : World} {v : Value} {n : Bool} {l : List Str} (h : SetV b w v n l) (hb : Below w.heap.size w w') : SetV b w' v n l := by
  obtain ⟨A, c, e, h1, h2, h3, h4⟩ := h
  exact ⟨A, c, e, h1, h2, h3.mono hb, h4⟩
theorem SetV.base {b b' : Nat} {w : World} {v : Value} {n : Bool} {l : List Str} (h : SetV b w v n l) (hb : b' ≤ b) : SetV b' w v n l := by
  obtain ⟨A, c, e, h1, h2, h3, h4, h5⟩ := h
  exact ⟨A, c, e, h1, h2, h3, h4, fun a ha => ⟨Nat.le_trans hb (h5 a ha).1, (h5 a ha).2⟩⟩
theorem SRow.setCell {w : World} {A : Option Addr} {l : List Str} (h : SRow w A l) {b o : Nat} (hb : ∀ a, A = some a → a.block ≠ b) (v : Value) : SRow (w.setCell ⟨b, o, none⟩ v) A l := by
  cases A with
  | none => exact h
  | some a =>
    intro i hi
    have e : (a.add i).block = a.block := by unfold Addr.add; split <;> rfl
    rw [World.cell?_setCell_far _ _ _ _ (by rw [e]; exact (hb a rfl).symm)]
    exact h i hi
theorem OwnS.fresh {w : World} {base : Nat} {A : Option Addr} {n c : Nat} {l : List Str} (h : OwnS w base (.slice A n c) l) : ∀ a, A = some a → base ≤ a.block ∧ a.spot = none := fun a e => ⟨(h.lt a.block (by rw [e]; rfl)).1, h.spot a e⟩

theorem srt_take (l : List Str) (k : Nat) (h : k < l.length) : srt (l.take (k + 1)) = insS l[k] (srt (l.take k)) := by rw [take_snoc' l k h, srt_snoc]
def ClnRel (l : List Str) (W : World) (v3 v4 : Value) (wx : World) : Prop :=
  ∃ k : Nat, k ≤ l.length ∧ v4 = .int .i64 k ∧ OwnS wx W.heap.size v3 (srt (l.take k)) ∧ Below W.heap.size W wx

set_option maxRecDepth 100000 in
set_option maxHeartbeats 4000000 in
theorem r7_Clean (n : Bool) (l : List Str) (A : Option Addr) (c : Nat) (w : World) (hm : (l.length + 1) * 16 ≤ 140737488355328) (hr : SRow w A l) :
    Calls Tryz.prog 72 #[.agg #[.bool n, .slice A l.length c]] w fun e w' => (∃ v', e = .returned v' ∧ SetV w.heap.size w' v' n (srt l)) ∧ Below w.heap.size w w' := by
  go_enter Tryz.func72, Tryz.ntmps72
  go_upto_region 1 with fail
  generalize hW : ((w.alloc (.cells #[.bool n, .slice A l.length c] 28)).alloc (.cells #[.bool false, .slice none 0 0] 28)) = W
  have q0_0 : W.cell? ⟨w.heap.size, 0, none⟩ = some (.bool n) := by rw [← hW]; simp [go_sem]
  have q0_1 : W.cell? ⟨w.heap.size, 1, none⟩ = some (.slice A l.length c) := by rw [← hW]; simp [go_sem]
  have q1_0 : W.cell? ⟨w.heap.size + 1, 0, none⟩ = some (.bool false) := by rw [← hW]; simp [go_sem]
  have q1_1 : W.cell? ⟨w.heap.size + 1, 1, none⟩ = some (.slice none 0 0) := by rw [← hW]; simp [go_sem]
  have f0 : ∀ o, W.frozen? ⟨w.heap.size, o, none⟩ = false := by intro o; rw [← hW]; simp [go_sem]
  have f1 : ∀ o, W.frozen? ⟨w.heap.size + 1, o, none⟩ = false := by intro o; rw [← hW]; simp [go_sem]
  have z0 : w.heap.size < W.heap.size := by rw [← hW]; first | (simp; done) | (simp; omega)
  have z1 : w.heap.size + 1 < W.heap.size := by rw [← hW]; first | (simp; done) | (simp; omega)
  have HW : Below w.heap.size w W := by rw [← hW]; exact (by repeat (first | (with_reducible assumption) | (with_reducible exact Below.refl _ _) | (with_reducible refine Below.alloc ?_ (by first | omega | (simp; omega) | (simp; done) | (dsimp only; omega)) _) | (with_reducible refine Below.setCell ?_ (by first | omega | (simp; omega) | (simp; done) | (dsimp only; omega)) _) | (with_reducible refine Below.drew ?_) | (with_reducible refine Below.trans ?_ (Below.mono (by assumption) (by first | omega | (simp; omega) | (simp; done) | (dsimp only; omega))))))
  clear hW
  have hrW := hr.mono HW
  go_wp2
  go_loopw [3, 4] (fun v3 v4 wx => ClnRel l W v3 v4 wx) (fun _ v4 _ => l.length - (intOf v4).toNat)
  case atStart => exact ⟨0, by omega, rfl, OwnS.nil _ _, Below.refl _ _⟩
  case round =>
    obtain ⟨k, hk, rfl, hown, hB⟩ := hrel
    have hrx := hrW.mono hB
    have c0 := (hB.cell (p := ⟨w.heap.size, 0, none⟩) z0).trans q0_0
    have c1 := (hB.cell (p := ⟨w.heap.size, 1, none⟩) z0).trans q0_1
    have hBs := hB.size
    have y0 : w.heap.size < wr.heap.size := by omega
    by_cases hlt : k < l.length
    · obtain ⟨bb, o, rfl, hc, hbl⟩ := hrx.cell hlt
      have hst := srt_take l k hlt
      obtain ⟨A3, c3, rfl, _, _, hr3, _⟩ := hown.row
      have hsl := srt_len_le (l.take k)
      have htl : (l.take k).length = k := by rw [List.length_take]; omega
      have HP := Lib.hid (r7_Put (srt (l.take k)) A3 c3 l[k] wr (strict_srt _) (by omega) hr3)
      have HST := Lib.hid hst
      clear hst hsl htl hown hr3
      generalize l[k] = y at *
      generalize srt (l.take k) = q at *
      generalize q.length = ql at *
      go_wp2_with (go_at_call 100; refine HP.out.mono ?_; rintro e w1 ⟨⟨v', rfl, hown'⟩, hb1⟩)
      go_roundw
      case rel => exact ⟨k + 1, by omega, by go_num, by rw [HST.out]; exact hown'.base hBs, hB.trans (hb1.mono hBs)⟩
      case measure => simp [intOf]; omega
    · obtain rfl : k = l.length := by omega
      rw [List.take_length] at hown
      obtain ⟨A3, c3, rfl, h31, h32, hr3, hz3⟩ := hown.row
      have hne : (Value.slice A3 (srt l).length c3).ownBlock ≠ some (w.heap.size + 1) := fun e => by have := (hown.lt _ e).1; omega
      have hfr : ∀ a, A3 = some a → w.heap.size ≤ a.block ∧ a.spot = none := fun a h => ⟨by have := (hown.fresh a h).1; omega, (hown.fresh a h).2⟩
      have HO := Lib.hid (fun va vb => OwnS.row (ownsRow_setCell_other (a := ⟨w.heap.size + 1, 1, none⟩) (ownsRow_setCell_other (a := ⟨w.heap.size + 1, 0, none⟩) hown hne va) hne vb))
      have HW2 := HW.trans (hB.mono HW.size)
      replace f1 := fun o => (hB.frozen (p := ⟨w.heap.size + 1, o, none⟩) z1).trans (f1 o)
      replace q0_0 := (hB.cell (p := ⟨w.heap.size, 0, none⟩) z0).trans q0_0
      replace q0_1 := (hB.cell (p := ⟨w.heap.size, 1, none⟩) z0).trans q0_1
      replace q1_0 := (hB.cell (p := ⟨w.heap.size + 1, 0, none⟩) z1).trans q1_0
      replace q1_1 := (hB.cell (p := ⟨w.heap.size + 1, 1, none⟩) z1).trans q1_1
      replace z0 := Nat.lt_of_lt_of_le z0 hB.size
      replace z1 := Nat.lt_of_lt_of_le z1 hB.size
      clear c0 c1 hrx hown hB HW f0 hne
      go_wp2
      refine bodyPost_ret (by simp [results, Tryz.results72, go_sem, *] <;> rfl) rfl ⟨⟨_, rfl, ?_⟩, (by repeat (first | (with_reducible assumption) | (with_reducible exact Below.refl _ _) | (with_reducible refine Below.alloc ?_ (by first | omega | (simp; omega) | (simp; done) | (dsimp only; omega)) _) | (with_reducible refine Below.setCell ?_ (by first | omega | (simp; omega) | (simp; done) | (dsimp only; omega)) _) | (with_reducible refine Below.drew ?_) | (with_reducible refine Below.trans ?_ (Below.mono (by assumption) (by first | omega | (simp; omega) | (simp; done) | (dsimp only; omega))))))⟩
      obtain ⟨A', c', e', k1, k2, k3, k4⟩ := HO.out (.bool n) (.slice A3 (srt l).length c3)
      injection e' with e1 e2 e3
      subst e1 e3
      exact ⟨A3, c3, rfl, k1, k2, k3, k4, hfr⟩
end Go.Proofs.YtdpnphnafidpiaaGreat
