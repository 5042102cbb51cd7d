/- What reckon.bounds returns: layer 4. -/
import Derived.Test.YtdphjfppfngcmaaReckD
namespace Go.Proofs.Ytdphjfppfngcmaa
open Go.RowKit

/-- What an operator comes to at the ends of two spans, in their order. -/
def cornL (op : Int) (x0 x1 y0 y1 : Int) : List Int := [exV op x0 y0, exV op x0 y1, exV op x1 y0, exV op x1 y1]

def BndI (L : List Int) (m n1 n2 : Nat) (x0 x1 y0 y1 : Int) (W : World) (v7 v30 : Value) (wx : World) : Prop :=
  ∃ j : Nat, j ≤ 2 ∧ v30 = .int .i64 j ∧ OwnW wx (n1 + 1) v7 (L.take (m + j)) ∧ v7.ownBlock ≠ some n2 ∧ wx.cell? ⟨n1, 0, none⟩ = some (.int .i64 x0) ∧ wx.cell? ⟨n1, 1, none⟩ = some (.int .i64 x1) ∧ wx.cell? ⟨n2, 0, none⟩ = some (.int .i64 y0) ∧ wx.cell? ⟨n2, 1, none⟩ = some (.int .i64 y1) ∧ n2 < wx.heap.size ∧ n1 < n2 ∧ Below W.heap.size W wx

def BndO (L : List Int) (n1 : Nat) (x0 x1 : Int) (W : World) (v7 v20 : Value) (wx : World) : Prop :=
  ∃ k : Nat, k ≤ 2 ∧ v20 = .int .i64 k ∧ OwnW wx (n1 + 1) v7 (L.take (2 * k)) ∧ wx.cell? ⟨n1, 0, none⟩ = some (.int .i64 x0) ∧ wx.cell? ⟨n1, 1, none⟩ = some (.int .i64 x1) ∧ n1 < wx.heap.size ∧ Below W.heap.size W wx

/-- What an append leaves of the rest. -/
theorem grown_cell {w w' : World} {row : Option Nat} (hg : w.grownBy w' row) {n o : Nat} {u : Value} (h : w.cell? ⟨n, o, none⟩ = some u) (hne : row ≠ some n) : w'.cell? ⟨n, o, none⟩ = some u :=
  hg.cell h (fun e => hne e.symm)

theorem OwnW.snoc {w : World} {base : Nat} {v : Value} {l : List Int} {x : Int} (h : w.ownsRow base 31 2 v (l.length + 1) (wcells l ++ [.int .i64 (hiW x), .int .u64 (loW x)])) : OwnW w base v (l ++ [x]) := by
  unfold OwnW
  rw [List.length_append, wcells_append]
  exact h
theorem BndI_next {L : List Int} {m n2 j : Nat} {x0 x1 y0 y1 z : Int} {W wr X w' : World} {v7 v' vi : Value} (hj : j < 2) (hown : OwnW wr (W.heap.size + 1) v7 (L.take (m + j))) (hne : v7.ownBlock ≠ some n2)
    (c0 : wr.cell? ⟨W.heap.size, 0, none⟩ = some (.int .i64 x0)) (c1 : wr.cell? ⟨W.heap.size, 1, none⟩ = some (.int .i64 x1)) (d0 : wr.cell? ⟨n2, 0, none⟩ = some (.int .i64 y0)) (d1 : wr.cell? ⟨n2, 1, none⟩ = some (.int .i64 y1)) (hlt : n2 < wr.heap.size) (hn : W.heap.size < n2) (hB : Below W.heap.size W wr)
    (hX : Below wr.heap.size wr X) (hown' : w'.ownsRow (W.heap.size + 1) 31 2 v' ((L.take (m + j)).length + 1) (wcells (L.take (m + j)) ++ [.int .i64 (hiW z), .int .u64 (loW z)])) (hg : X.grownBy w' v7.ownBlock) {s : Nat} (hblk : v'.ownBlock = v7.ownBlock ∨ v'.ownBlock = some s) (hs : s = X.heap.size)
    (eL : L.take (m + (j + 1)) = L.take (m + j) ++ [z]) (hv : vi = .int .i64 ((j + 1 : Nat) : Int)) : BndI L m W.heap.size n2 x0 x1 y0 y1 W v' vi w' := by
  have hl := hown.lt
  have hXs := hX.size
  have hn1 : v7.ownBlock ≠ some W.heap.size := fun e => by have := (hl _ e).1; omega
  have hBs := hB.size
  refine ⟨j + 1, by omega, hv, by rw [eL]; exact OwnW.snoc hown', ?_, ?_, ?_, ?_, ?_, ?_, hn, ?_⟩
  · rcases hblk with e | e
    · rw [e]; exact hne
    · rw [e]; intro e'
      have : s = n2 := Option.some.inj e'
      omega
  · exact grown_cell hg ((hX.cell (p := ⟨W.heap.size, 0, none⟩) (by dsimp only; omega)).trans c0) hn1
  · exact grown_cell hg ((hX.cell (p := ⟨W.heap.size, 1, none⟩) (by dsimp only; omega)).trans c1) hn1
  · exact grown_cell hg ((hX.cell (p := ⟨n2, 0, none⟩) hlt).trans d0) hne
  · exact grown_cell hg ((hX.cell (p := ⟨n2, 1, none⟩) hlt).trans d1) hne
  · have := hg.size; omega
  · exact (hB.trans (hX.mono hBs)).grown hg (by omega) (fun k e => by have := (hl k e).1; omega)

set_option maxRecDepth 100000 in
set_option maxHeartbeats 4000000 in
theorem reckon_bounds (op : Int) (a b : Sp) (ha : I64 a.lo ∧ I64 a.hi) (hb : I64 b.lo ∧ I64 b.hi) (w : World) :
    Calls Try.prog 26 #[.int .i64 op, .agg #[.bool a.s, .int .i64 a.lo, .int .i64 a.hi], .agg #[.bool b.s, .int .i64 b.lo, .int .i64 b.hi]] w fun e w' => e = .returned (.agg #[.bool (betS (cornL op a.lo a.hi b.lo b.hi)).s, .int .i64 (betS (cornL op a.lo a.hi b.lo b.hi)).lo, .int .i64 (betS (cornL op a.lo a.hi b.lo b.hi)).hi]) ∧ Below w.heap.size w w' := by
  have HE : Hid (∀ x y w, I64 x → I64 y → Calls Try.prog 53 #[.int .i64 op, .int .i64 x, .int .i64 y] w fun e w' => e = .returned (.tuple #[.agg #[.int .i64 (hiW (exV op x y)), .int .u64 (loW (exV op x y))], .bool (exB op)]) ∧ Below w.heap.size w w') := Lib.hid (fun x y w hx hy => wrap_exact op x y hx hy w)
  obtain ⟨i0, gi, gz0, gz1, gz2⟩ := info_parts info_wide
  go_enter Try.func26, Try.ntmps26
  go_upto_region 1 with fail
  generalize hW : (((w.alloc (.cells #[.bool a.s, .int .i64 a.lo, .int .i64 a.hi] 23)).alloc (.cells #[.bool b.s, .int .i64 b.lo, .int .i64 b.hi] 23)).alloc (.cells #[.bool false, .int .i64 0, .int .i64 0] 23)) = W
  have q0_0 : W.cell? ⟨w.heap.size, 0, none⟩ = some (.bool a.s) := by rw [← hW]; simp [go_sem]
  have q0_1 : W.cell? ⟨w.heap.size, 1, none⟩ = some (.int .i64 a.lo) := by rw [← hW]; simp [go_sem]
  have q0_2 : W.cell? ⟨w.heap.size, 2, none⟩ = some (.int .i64 a.hi) := by rw [← hW]; simp [go_sem]
  have q1_0 : W.cell? ⟨w.heap.size + 1, 0, none⟩ = some (.bool b.s) := by rw [← hW]; simp [go_sem]
  have q1_1 : W.cell? ⟨w.heap.size + 1, 1, none⟩ = some (.int .i64 b.lo) := by rw [← hW]; simp [go_sem]
  have q1_2 : W.cell? ⟨w.heap.size + 1, 2, none⟩ = some (.int .i64 b.hi) := by rw [← hW]; simp [go_sem]
  have q2_0 : W.cell? ⟨w.heap.size + 1 + 1, 0, none⟩ = some (.bool false) := by rw [← hW]; simp [go_sem]
  have q2_1 : W.cell? ⟨w.heap.size + 1 + 1, 1, none⟩ = some (.int .i64 0) := by rw [← hW]; simp [go_sem]
  have q2_2 : W.cell? ⟨w.heap.size + 1 + 1, 2, none⟩ = some (.int .i64 0) := by rw [← hW]; simp [go_sem]
  have f0 : ∀ o, W.frozen? ⟨w.heap.size, o, none⟩ = false := by intro o; rw [← hW]; simp [go_sem]
  have f1 : ∀ o, W.frozen? ⟨w.heap.size + 1, o, none⟩ = false := by intro o; rw [← hW]; simp [go_sem]
  have f2 : ∀ o, W.frozen? ⟨w.heap.size + 1 + 1, o, none⟩ = false := by intro o; rw [← hW]; simp [go_sem]
  have z0 : w.heap.size < W.heap.size := by rw [← hW]; first | (simp; done) | (simp; omega)
  have z1 : w.heap.size + 1 < W.heap.size := by rw [← hW]; first | (simp; done) | (simp; omega)
  have z2 : w.heap.size + 1 + 1 < W.heap.size := by rw [← hW]; first | (simp; done) | (simp; omega)
  have HW : Below w.heap.size w W := by rw [← hW]; exact (by repeat (first | (with_reducible assumption) | (with_reducible exact Below.refl _ _) | (with_reducible refine Below.alloc ?_ (by first | omega | (simp; omega) | (simp; done) | (dsimp only; omega)) _) | (with_reducible refine Below.setCell ?_ (by first | omega | (simp; omega) | (simp; done) | (dsimp only; omega)) _) | (with_reducible refine Below.drew ?_) | (with_reducible refine Below.trans ?_ (Below.mono (by assumption) (by first | omega | (simp; omega) | (simp; done) | (dsimp only; omega))))))
  clear hW
  go_wp2
  go_loopw [7, 20] (fun v7 v20 wx => BndO (cornL op a.lo a.hi b.lo b.hi) W.heap.size a.lo a.hi W v7 v20 wx) (fun _ vi _ => 2 - (intOf vi).toNat)
  case atStart =>
    exact ⟨0, by omega, rfl, OwnW.nil _ _, by simp [go_sem], by simp [go_sem], by simp, (by repeat (first | (with_reducible assumption) | (with_reducible exact Below.refl _ _) | (with_reducible refine Below.alloc ?_ (by first | omega | (simp; omega) | (simp; done) | (dsimp only; omega)) _) | (with_reducible refine Below.setCell ?_ (by first | omega | (simp; omega) | (simp; done) | (dsimp only; omega)) _) | (with_reducible refine Below.drew ?_) | (with_reducible refine Below.trans ?_ (Below.mono (by assumption) (by first | omega | (simp; omega) | (simp; done) | (dsimp only; omega))))))⟩
  case round =>
    obtain ⟨k, hk, rfl, hown, c0, c1, hlt, hB⟩ := hrel
    have r1_1 := (hB.cell (p := ⟨w.heap.size + 1, 1, none⟩) z1).trans q1_1
    have r1_2 := (hB.cell (p := ⟨w.heap.size + 1, 2, none⟩) z1).trans q1_2
    by_cases hk2 : k < 2
    · rcases (show k = 0 ∨ k = 1 by omega) with rfl | rfl
      · go_wp2
        go_loopw [7, 30] (fun v7 v30 wx => BndI (cornL op a.lo a.hi b.lo b.hi) 0 W.heap.size wr.heap.size a.lo a.hi b.lo b.hi W v7 v30 wx) (fun _ vi _ => 2 - (intOf vi).toNat)
        case atStart =>
          refine ⟨0, by omega, rfl, hown.mono (by repeat (first | (with_reducible assumption) | (with_reducible exact Below.refl _ _) | (with_reducible refine Below.alloc ?_ (by first | omega | (simp; omega) | (simp; done) | (dsimp only; omega)) _) | (with_reducible refine Below.setCell ?_ (by first | omega | (simp; omega) | (simp; done) | (dsimp only; omega)) _) | (with_reducible refine Below.drew ?_) | (with_reducible refine Below.trans ?_ (Below.mono (by assumption) (by first | omega | (simp; omega) | (simp; done) | (dsimp only; omega)))))), fun e => by have := (hown.lt _ e).2; omega, ?_, ?_, by simp [go_sem], by simp [go_sem], by simp, hlt, (by repeat (first | (with_reducible assumption) | (with_reducible exact Below.refl _ _) | (with_reducible refine Below.alloc ?_ (by first | omega | (simp; omega) | (simp; done) | (dsimp only; omega)) _) | (with_reducible refine Below.setCell ?_ (by first | omega | (simp; omega) | (simp; done) | (dsimp only; omega)) _) | (with_reducible refine Below.drew ?_) | (with_reducible refine Below.trans ?_ (Below.mono (by assumption) (by first | omega | (simp; omega) | (simp; done) | (dsimp only; omega))))))⟩
          · exact ((Below.refl wr.heap.size wr).alloc (Nat.le_refl _) _).cell (p := ⟨W.heap.size, 0, none⟩) hlt |>.trans c0
          · exact ((Below.refl wr.heap.size wr).alloc (Nat.le_refl _) _).cell (p := ⟨W.heap.size, 1, none⟩) hlt |>.trans c1
        case round =>
          clear hown c0 c1 hB r1_1 r1_2
          obtain ⟨j, hj, rfl, hown2, hne, c0, c1, d0, d1, hlt2, hn12, hB⟩ := hrel
          by_cases hj2 : j < 2
          · rcases (show j = 0 ∨ j = 1 by omega) with rfl | rfl
            · have hE := Lib.hid (fun w => HE.out a.lo b.lo w ha.1 hb.1)
              go_wp2_with (first | (go_at_call 53; (with_reducible refine (hE.out _).mono ?_); rintro e w1 ⟨rfl, hb1⟩; obtain ⟨hc1, hf1⟩ := bcell hb1; have hz1 := hb1.size; (try simp at hz1); (try have hy1 := Nat.lt_of_succ_le hz1); (try have hv1 := Nat.lt_of_succ_lt hy1); (try have hw10 : w.heap.size < w1.heap.size := by omega); (try have hw11 : w.heap.size + 1 < w1.heap.size := by omega); (try have hw12 : w.heap.size + 1 + 1 < w1.heap.size := by omega); (try have hw13 : w.heap.size + 1 + 1 + 1 < w1.heap.size := by omega)) | (at_builtin; refine wpList_append_own_at _ rfl _ _ 50 rfl (W.heap.size + 1) 31 i0 _ 2 16 Try.underlying50 gi gz0 gz1 gz2 rfl (by decide) _ _ _ rfl (hown2.mono (by repeat (first | (with_reducible assumption) | (with_reducible exact Below.refl _ _) | (with_reducible refine Below.alloc ?_ (by first | omega | (simp; omega) | (simp; done) | (dsimp only; omega)) _) | (with_reducible refine Below.setCell ?_ (by first | omega | (simp; omega) | (simp; done) | (dsimp only; omega)) _) | (with_reducible refine Below.drew ?_) | (with_reducible refine Below.trans ?_ (Below.mono (by assumption) (by first | omega | (simp; omega) | (simp; done) | (dsimp only; omega))))))) ⟨w1.heap.size + 1, 0, none⟩ 1 1 [.int .i64 (hiW (exV op a.lo b.lo)), .int .u64 (loW (exV op a.lo b.lo))] rfl rfl ?c1 ?c2 ?c3 ?c4 ?c5 ?_))
              case c1 =>
                intro q u hq
                match q, hq with
                | 0, hq => simp at hq; subst hq; simp [Addr.add, go_sem]
                | 1, hq => simp at hq; subst hq; simp [Addr.add, go_sem]
                | q + 2, hq => simp at hq
              case c2 => intro u hu; simp at hu; rcases hu with rfl | rfl <;> rfl
              case c3 => show 0 + 1 ≤ maxLen; unfold maxLen; omega
              case c4 => show (0 + 1) * 16 ≤ 140737488355328; omega
              case c5 => have := hb1.size; have := hB.size; simp; omega
              · intro v' w' hown' hgrow _ hblk
                have HN := Lib.hid (fun vi hv => BndI_next (y0 := b.lo) (y1 := b.hi) (vi := vi) (by omega) hown2 hne c0 c1 d0 d1 hlt2 hn12 hB (by repeat (first | (with_reducible assumption) | (with_reducible exact Below.refl _ _) | (with_reducible refine Below.alloc ?_ (by first | omega | (simp; omega) | (simp; done) | (dsimp only; omega)) _) | (with_reducible refine Below.setCell ?_ (by first | omega | (simp; omega) | (simp; done) | (dsimp only; omega)) _) | (with_reducible refine Below.drew ?_) | (with_reducible refine Below.trans ?_ (Below.mono (by assumption) (by first | omega | (simp; omega) | (simp; done) | (dsimp only; omega)))))) hown' hgrow hblk (by simp) rfl hv)
                clear hown2 hne c0 c1 d0 d1 hB hown' hgrow hblk hb1 hc1 hf1
                go_wp2
                go_roundw
                case rel => exact ⟨_, _, _, _, _, _, _, _, _, _, _, _, _, _, _, _, _, _, _, _, HN.out _ (by go_num), rfl⟩
                case measure => simp [intOf]
            · have hE := Lib.hid (fun w => HE.out a.lo b.hi w ha.1 hb.2)
              go_wp2_with (first | (go_at_call 53; (with_reducible refine (hE.out _).mono ?_); rintro e w1 ⟨rfl, hb1⟩; obtain ⟨hc1, hf1⟩ := bcell hb1; have hz1 := hb1.size; (try simp at hz1); (try have hy1 := Nat.lt_of_succ_le hz1); (try have hv1 := Nat.lt_of_succ_lt hy1); (try have hw10 : w.heap.size < w1.heap.size := by omega); (try have hw11 : w.heap.size + 1 < w1.heap.size := by omega); (try have hw12 : w.heap.size + 1 + 1 < w1.heap.size := by omega); (try have hw13 : w.heap.size + 1 + 1 + 1 < w1.heap.size := by omega)) | (at_builtin; refine wpList_append_own_at _ rfl _ _ 50 rfl (W.heap.size + 1) 31 i0 _ 2 16 Try.underlying50 gi gz0 gz1 gz2 rfl (by decide) _ _ _ rfl (hown2.mono (by repeat (first | (with_reducible assumption) | (with_reducible exact Below.refl _ _) | (with_reducible refine Below.alloc ?_ (by first | omega | (simp; omega) | (simp; done) | (dsimp only; omega)) _) | (with_reducible refine Below.setCell ?_ (by first | omega | (simp; omega) | (simp; done) | (dsimp only; omega)) _) | (with_reducible refine Below.drew ?_) | (with_reducible refine Below.trans ?_ (Below.mono (by assumption) (by first | omega | (simp; omega) | (simp; done) | (dsimp only; omega))))))) ⟨w1.heap.size + 1, 0, none⟩ 1 1 [.int .i64 (hiW (exV op a.lo b.hi)), .int .u64 (loW (exV op a.lo b.hi))] rfl rfl ?c1 ?c2 ?c3 ?c4 ?c5 ?_))
              case c1 =>
                intro q u hq
                match q, hq with
                | 0, hq => simp at hq; subst hq; simp [Addr.add, go_sem]
                | 1, hq => simp at hq; subst hq; simp [Addr.add, go_sem]
                | q + 2, hq => simp at hq
              case c2 => intro u hu; simp at hu; rcases hu with rfl | rfl <;> rfl
              case c3 => show 1 + 1 ≤ maxLen; unfold maxLen; omega
              case c4 => show (1 + 1) * 16 ≤ 140737488355328; omega
              case c5 => have := hb1.size; have := hB.size; simp; omega
              · intro v' w' hown' hgrow _ hblk
                have HN := Lib.hid (fun vi hv => BndI_next (y0 := b.lo) (y1 := b.hi) (vi := vi) (by omega) hown2 hne c0 c1 d0 d1 hlt2 hn12 hB (by repeat (first | (with_reducible assumption) | (with_reducible exact Below.refl _ _) | (with_reducible refine Below.alloc ?_ (by first | omega | (simp; omega) | (simp; done) | (dsimp only; omega)) _) | (with_reducible refine Below.setCell ?_ (by first | omega | (simp; omega) | (simp; done) | (dsimp only; omega)) _) | (with_reducible refine Below.drew ?_) | (with_reducible refine Below.trans ?_ (Below.mono (by assumption) (by first | omega | (simp; omega) | (simp; done) | (dsimp only; omega)))))) hown' hgrow hblk (by simp) rfl hv)
                clear hown2 hne c0 c1 d0 d1 hB hown' hgrow hblk hb1 hc1 hf1
                go_wp2
                go_roundw
                case rel => exact ⟨_, _, _, _, _, _, _, _, _, _, _, _, _, _, _, _, _, _, _, _, HN.out _ (by go_num), rfl⟩
                case measure => simp [intOf]
          · obtain rfl : j = 2 := by omega
            have hlo : W.heap.size < wr.heap.size := by omega
            go_wp2
            go_roundw
            case rel => exact ⟨0 + 1, by omega, by go_num, hown2, c0, c1, hlo, hB⟩
            case measure => simp [intOf]
      · go_wp2
        go_loopw [7, 30] (fun v7 v30 wx => BndI (cornL op a.lo a.hi b.lo b.hi) 2 W.heap.size wr.heap.size a.lo a.hi b.lo b.hi W v7 v30 wx) (fun _ vi _ => 2 - (intOf vi).toNat)
        case atStart =>
          refine ⟨0, by omega, rfl, hown.mono (by repeat (first | (with_reducible assumption) | (with_reducible exact Below.refl _ _) | (with_reducible refine Below.alloc ?_ (by first | omega | (simp; omega) | (simp; done) | (dsimp only; omega)) _) | (with_reducible refine Below.setCell ?_ (by first | omega | (simp; omega) | (simp; done) | (dsimp only; omega)) _) | (with_reducible refine Below.drew ?_) | (with_reducible refine Below.trans ?_ (Below.mono (by assumption) (by first | omega | (simp; omega) | (simp; done) | (dsimp only; omega)))))), fun e => by have := (hown.lt _ e).2; omega, ?_, ?_, by simp [go_sem], by simp [go_sem], by simp, hlt, (by repeat (first | (with_reducible assumption) | (with_reducible exact Below.refl _ _) | (with_reducible refine Below.alloc ?_ (by first | omega | (simp; omega) | (simp; done) | (dsimp only; omega)) _) | (with_reducible refine Below.setCell ?_ (by first | omega | (simp; omega) | (simp; done) | (dsimp only; omega)) _) | (with_reducible refine Below.drew ?_) | (with_reducible refine Below.trans ?_ (Below.mono (by assumption) (by first | omega | (simp; omega) | (simp; done) | (dsimp only; omega))))))⟩
          · exact ((Below.refl wr.heap.size wr).alloc (Nat.le_refl _) _).cell (p := ⟨W.heap.size, 0, none⟩) hlt |>.trans c0
          · exact ((Below.refl wr.heap.size wr).alloc (Nat.le_refl _) _).cell (p := ⟨W.heap.size, 1, none⟩) hlt |>.trans c1
        case round =>
          clear hown c0 c1 hB r1_1 r1_2
          obtain ⟨j, hj, rfl, hown2, hne, c0, c1, d0, d1, hlt2, hn12, hB⟩ := hrel
          by_cases hj2 : j < 2
          · rcases (show j = 0 ∨ j = 1 by omega) with rfl | rfl
            · have hE := Lib.hid (fun w => HE.out a.hi b.lo w ha.2 hb.1)
              go_wp2_with (first | (go_at_call 53; (with_reducible refine (hE.out _).mono ?_); rintro e w1 ⟨rfl, hb1⟩; obtain ⟨hc1, hf1⟩ := bcell hb1; have hz1 := hb1.size; (try simp at hz1); (try have hy1 := Nat.lt_of_succ_le hz1); (try have hv1 := Nat.lt_of_succ_lt hy1); (try have hw10 : w.heap.size < w1.heap.size := by omega); (try have hw11 : w.heap.size + 1 < w1.heap.size := by omega); (try have hw12 : w.heap.size + 1 + 1 < w1.heap.size := by omega); (try have hw13 : w.heap.size + 1 + 1 + 1 < w1.heap.size := by omega)) | (at_builtin; refine wpList_append_own_at _ rfl _ _ 50 rfl (W.heap.size + 1) 31 i0 _ 2 16 Try.underlying50 gi gz0 gz1 gz2 rfl (by decide) _ _ _ rfl (hown2.mono (by repeat (first | (with_reducible assumption) | (with_reducible exact Below.refl _ _) | (with_reducible refine Below.alloc ?_ (by first | omega | (simp; omega) | (simp; done) | (dsimp only; omega)) _) | (with_reducible refine Below.setCell ?_ (by first | omega | (simp; omega) | (simp; done) | (dsimp only; omega)) _) | (with_reducible refine Below.drew ?_) | (with_reducible refine Below.trans ?_ (Below.mono (by assumption) (by first | omega | (simp; omega) | (simp; done) | (dsimp only; omega))))))) ⟨w1.heap.size + 1, 0, none⟩ 1 1 [.int .i64 (hiW (exV op a.hi b.lo)), .int .u64 (loW (exV op a.hi b.lo))] rfl rfl ?c1 ?c2 ?c3 ?c4 ?c5 ?_))
              case c1 =>
                intro q u hq
                match q, hq with
                | 0, hq => simp at hq; subst hq; simp [Addr.add, go_sem]
                | 1, hq => simp at hq; subst hq; simp [Addr.add, go_sem]
                | q + 2, hq => simp at hq
              case c2 => intro u hu; simp at hu; rcases hu with rfl | rfl <;> rfl
              case c3 => show 2 + 1 ≤ maxLen; unfold maxLen; omega
              case c4 => show (2 + 1) * 16 ≤ 140737488355328; omega
              case c5 => have := hb1.size; have := hB.size; simp; omega
              · intro v' w' hown' hgrow _ hblk
                have HN := Lib.hid (fun vi hv => BndI_next (y0 := b.lo) (y1 := b.hi) (vi := vi) (by omega) hown2 hne c0 c1 d0 d1 hlt2 hn12 hB (by repeat (first | (with_reducible assumption) | (with_reducible exact Below.refl _ _) | (with_reducible refine Below.alloc ?_ (by first | omega | (simp; omega) | (simp; done) | (dsimp only; omega)) _) | (with_reducible refine Below.setCell ?_ (by first | omega | (simp; omega) | (simp; done) | (dsimp only; omega)) _) | (with_reducible refine Below.drew ?_) | (with_reducible refine Below.trans ?_ (Below.mono (by assumption) (by first | omega | (simp; omega) | (simp; done) | (dsimp only; omega)))))) hown' hgrow hblk (by simp) rfl hv)
                clear hown2 hne c0 c1 d0 d1 hB hown' hgrow hblk hb1 hc1 hf1
                go_wp2
                go_roundw
                case rel => exact ⟨_, _, _, _, _, _, _, _, _, _, _, _, _, _, _, _, _, _, _, _, HN.out _ (by go_num), rfl⟩
                case measure => simp [intOf]
            · have hE := Lib.hid (fun w => HE.out a.hi b.hi w ha.2 hb.2)
              go_wp2_with (first | (go_at_call 53; (with_reducible refine (hE.out _).mono ?_); rintro e w1 ⟨rfl, hb1⟩; obtain ⟨hc1, hf1⟩ := bcell hb1; have hz1 := hb1.size; (try simp at hz1); (try have hy1 := Nat.lt_of_succ_le hz1); (try have hv1 := Nat.lt_of_succ_lt hy1); (try have hw10 : w.heap.size < w1.heap.size := by omega); (try have hw11 : w.heap.size + 1 < w1.heap.size := by omega); (try have hw12 : w.heap.size + 1 + 1 < w1.heap.size := by omega); (try have hw13 : w.heap.size + 1 + 1 + 1 < w1.heap.size := by omega)) | (at_builtin; refine wpList_append_own_at _ rfl _ _ 50 rfl (W.heap.size + 1) 31 i0 _ 2 16 Try.underlying50 gi gz0 gz1 gz2 rfl (by decide) _ _ _ rfl (hown2.mono (by repeat (first | (with_reducible assumption) | (with_reducible exact Below.refl _ _) | (with_reducible refine Below.alloc ?_ (by first | omega | (simp; omega) | (simp; done) | (dsimp only; omega)) _) | (with_reducible refine Below.setCell ?_ (by first | omega | (simp; omega) | (simp; done) | (dsimp only; omega)) _) | (with_reducible refine Below.drew ?_) | (with_reducible refine Below.trans ?_ (Below.mono (by assumption) (by first | omega | (simp; omega) | (simp; done) | (dsimp only; omega))))))) ⟨w1.heap.size + 1, 0, none⟩ 1 1 [.int .i64 (hiW (exV op a.hi b.hi)), .int .u64 (loW (exV op a.hi b.hi))] rfl rfl ?c1 ?c2 ?c3 ?c4 ?c5 ?_))
              case c1 =>
                intro q u hq
                match q, hq with
                | 0, hq => simp at hq; subst hq; simp [Addr.add, go_sem]
                | 1, hq => simp at hq; subst hq; simp [Addr.add, go_sem]
                | q + 2, hq => simp at hq
              case c2 => intro u hu; simp at hu; rcases hu with rfl | rfl <;> rfl
              case c3 => show 3 + 1 ≤ maxLen; unfold maxLen; omega
              case c4 => show (3 + 1) * 16 ≤ 140737488355328; omega
              case c5 => have := hb1.size; have := hB.size; simp; omega
              · intro v' w' hown' hgrow _ hblk
                have HN := Lib.hid (fun vi hv => BndI_next (y0 := b.lo) (y1 := b.hi) (vi := vi) (by omega) hown2 hne c0 c1 d0 d1 hlt2 hn12 hB (by repeat (first | (with_reducible assumption) | (with_reducible exact Below.refl _ _) | (with_reducible refine Below.alloc ?_ (by first | omega | (simp; omega) | (simp; done) | (dsimp only; omega)) _) | (with_reducible refine Below.setCell ?_ (by first | omega | (simp; omega) | (simp; done) | (dsimp only; omega)) _) | (with_reducible refine Below.drew ?_) | (with_reducible refine Below.trans ?_ (Below.mono (by assumption) (by first | omega | (simp; omega) | (simp; done) | (dsimp only; omega)))))) hown' hgrow hblk (by simp) rfl hv)
                clear hown2 hne c0 c1 d0 d1 hB hown' hgrow hblk hb1 hc1 hf1
                go_wp2
                go_roundw
                case rel => exact ⟨_, _, _, _, _, _, _, _, _, _, _, _, _, _, _, _, _, _, _, _, HN.out _ (by go_num), rfl⟩
                case measure => simp [intOf]
          · obtain rfl : j = 2 := by omega
            have hlo : W.heap.size < wr.heap.size := by omega
            go_wp2
            go_roundw
            case rel => exact ⟨1 + 1, by omega, by go_num, hown2, c0, c1, hlo, hB⟩
            case measure => simp [intOf]
    · obtain rfl : k = 2 := by omega
      obtain ⟨A, cp, e7, hl1, hl2, hrow⟩ := hown.row
      have hbt := reckon_between _ A cp wr hl1 hl2 hrow
      have eT : List.take (2 * 2) (cornL op a.lo a.hi b.lo b.hi) = cornL op a.lo a.hi b.lo b.hi := rfl
      have eN : (cornL op a.lo a.hi b.lo b.hi).length = 4 := rfl
      rw [eT, eN] at hbt e7
      subst e7
      have HBT := Lib.hid hbt
      have f2' : ∀ o, wr.frozen? ⟨w.heap.size + 1 + 1, o, none⟩ = false := fun o => (hB.frozen (p := ⟨w.heap.size + 1 + 1, o, none⟩) z2).trans (f2 o)
      have HW2 := HW.trans (hB.mono HW.size)
      replace q0_0 := (hB.cell (p := ⟨w.heap.size, 0, none⟩) z0).trans q0_0
      replace q0_1 := (hB.cell (p := ⟨w.heap.size, 1, none⟩) z0).trans q0_1
      replace q0_2 := (hB.cell (p := ⟨w.heap.size, 2, none⟩) z0).trans q0_2
      replace q1_0 := (hB.cell (p := ⟨w.heap.size + 1, 0, none⟩) z1).trans q1_0
      replace q1_1 := (hB.cell (p := ⟨w.heap.size + 1, 1, none⟩) z1).trans q1_1
      replace q1_2 := (hB.cell (p := ⟨w.heap.size + 1, 2, none⟩) z1).trans q1_2
      replace q2_0 := (hB.cell (p := ⟨w.heap.size + 1 + 1, 0, none⟩) z2).trans q2_0
      replace q2_1 := (hB.cell (p := ⟨w.heap.size + 1 + 1, 1, none⟩) z2).trans q2_1
      replace q2_2 := (hB.cell (p := ⟨w.heap.size + 1 + 1, 2, none⟩) z2).trans q2_2
      replace z0 := Nat.lt_of_lt_of_le z0 hB.size
      replace z1 := Nat.lt_of_lt_of_le z1 hB.size
      replace z2 := Nat.lt_of_lt_of_le z2 hB.size
      clear hbt hB hown hrow f2 c0 c1 r1_1 r1_2 HE HW f0 f1
      go_wp2_with (go_at_call 54; (with_reducible refine (HBT.out).mono ?_); rintro e w1 ⟨rfl, hb1⟩; obtain ⟨hc1, hf1⟩ := bcell hb1; have hz1 := hb1.size; (try simp at hz1); (try have hy1 := Nat.lt_of_succ_le hz1); (try have hv1 := Nat.lt_of_succ_lt hy1); (try have hw10 : w.heap.size < w1.heap.size := by omega); (try have hw11 : w.heap.size + 1 < w1.heap.size := by omega); (try have hw12 : w.heap.size + 1 + 1 < w1.heap.size := by omega); (try have hw13 : w.heap.size + 1 + 1 + 1 < w1.heap.size := by omega))
      refine bodyPost_ret (by simp [results, Try.results26, go_sem, *] <;> rfl) rfl ⟨rfl, (by repeat (first | (with_reducible assumption) | (with_reducible exact Below.refl _ _) | (with_reducible refine Below.alloc ?_ (by first | omega | (simp; omega) | (simp; done) | (dsimp only; omega)) _) | (with_reducible refine Below.setCell ?_ (by first | omega | (simp; omega) | (simp; done) | (dsimp only; omega)) _) | (with_reducible refine Below.drew ?_) | (with_reducible refine Below.trans ?_ (Below.mono (by assumption) (by first | omega | (simp; omega) | (simp; done) | (dsimp only; omega))))))⟩
end Go.Proofs.Ytdphjfppfngcmaa
