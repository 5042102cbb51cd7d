/- X-PARTIAL order.Read, walked: layer 37. -/
import Derived.Test.YtfammopenanapaaDoorOrdG
namespace Go.Proofs.YtfammopenanapaaDoor
open Go.RowKit Go.Lib

theorem split_ne {w : World} {p g : Nat} {c : Cmd} {r : Str} (hp : CO w p c) (hr : SRow w (some ⟨g, 0, none⟩) (splitB r)) : g ≠ p := by
  intro e
  subst e
  have hl := splitB_len r
  obtain ⟨b, o, hA, h0, -⟩ := hr.cell (k := 0) (by omega)
  cases hA
  have h1 := hp.cell.1
  rw [Nat.zero_add, h1] at h0
  cases h0
theorem argsO_err {k : Nat} {l : List Str} (h : (argsO k l).2 ≠ 0) : (argsO k l).1 = Cmd.none := by
  unfold argsO at *
  repeat' split
  all_goals first | rfl | (exfalso; revert h; simp_all)
def Cmd.v (c : Cmd) : Value := .agg #[.int .i64 c.k, encStr c.f, .int .i64 c.d, encStr c.n, .int .i64 c.m, encStr c.t]

set_option maxRecDepth 1000000 in
set_option maxHeartbeats 8000000 in
theorem order_Read (s : Str) (A : Option Addr) (c : Nat) (w : World) (hm : s.length ≤ 281474976710654) (hN : (splitB (behindB s)).length ≤ 17592186044416) (hr : BRow w A s) (hv : RV w) (ho : OV w) :
    Calls Tryd.prog 7 #[.slice A s.length c] w fun e w' => e = .returned (.tuple #[(readO s).1.v, .int .i64 (readO s).2]) ∧ Below w.heap.size w w' := by
  have k0 : (w.alloc (.cells #[.int .i64 0, .string ⟨#[]⟩, .int .i64 0, .string ⟨#[]⟩, .int .i64 0, .string ⟨#[]⟩] 24)).heap[w.heap.size]? = some (.cells #[.int .i64 0, .string ⟨#[]⟩, .int .i64 0, .string ⟨#[]⟩, .int .i64 0, .string ⟨#[]⟩] 24) := al_new w _ rfl
  have hb0 : Below w.heap.size w (w.alloc (.cells #[.int .i64 0, .string ⟨#[]⟩, .int .i64 0, .string ⟨#[]⟩, .int .i64 0, .string ⟨#[]⟩] 24)) := (Below.refl _ w).alloc (Nat.le_refl _) _
  have hv0 := hv.mono hb0
  have ho0 := ho.mono hb0
  have hcv := conv_bytes (hr.mono hb0) c
  have HC := Lib.hid (fun w' => strings_CutB s w' (by omega))
  have HK := Lib.hid (fun w' ho' => order_kindOf (aheadB s) w' ho')
  have hbl := behindB_len s
  have hR : readO s = if kindO (aheadB s) = 0 ∨ blankB s = false then (Cmd.none, 3) else if kindO (aheadB s) ≤ 2 then (⟨kindO (aheadB s), [], 0, [], 0, behindB s⟩, 0) else argsO (kindO (aheadB s)) (splitB (behindB s)) := rfl
  have hk := kindO_le (aheadB s)
  clear hv ho hr
  generalize readO s = R at *
  generalize kindO (aheadB s) = k at *
  generalize aheadB s = a at *
  generalize behindB s = b at *
  generalize blankB s = bl at *
  by_cases h0 : k = 0 ∨ bl = false
  · rw [if_pos h0] at hR
    subst hR
    by_cases hk0 : k = 0
    · subst hk0
      go_enter Tryd.func7, Tryd.ntmps7
      go_wp2_with fail
      go_at_call 13
      refine (HC.out _).mono ?_
      rintro e w1 ⟨rfl, hb1⟩
      have k1 := (hb1.block w.heap.size (blk_lt k0)).trans k0
      have hc1 := hb0.trans (hb1.mono hb0.size)
      have ho1 := ho0.mono hb1
      have hv1 := hv0.mono hb1
      have n1 := blk_lt k1
      clear hb1 k0 hb0 HC ho0 hv0 hcv
      go_wp2_with fail
      go_at_call 14
      refine (HK.out _ ho1).mono ?_
      rintro e w2 ⟨rfl, hw⟩
      obtain rfl : w1 = w2 := hw.symm
      clear HK ho1
      have g1 := blk_cell k1
      have f1 := blk_free k1
      go_wp2_with fail
      refine bodyPost_ret (by simp [results, Tryd.results7, go_sem, *] <;> rfl) rfl ⟨rfl, (by repeat (first | (with_reducible assumption) | (with_reducible exact Below.refl _ _) | (with_reducible refine Below.alloc ?_ (by first | omega | (simp; omega) | (simp; done) | (dsimp only; omega)) _) | (with_reducible refine Below.setCell ?_ (by first | omega | (simp; omega) | (simp; done) | (dsimp only; omega)) _) | (with_reducible refine Below.drew ?_) | (with_reducible refine Below.trans ?_ (Below.mono (by assumption) (by first | omega | (simp; omega) | (simp; done) | (dsimp only; omega))))))⟩
    · have hb : bl = false := by rcases h0 with h | h; exact absurd h hk0; exact h
      subst hb
      have hk1 : ((k : Int) == 0) = false := by simp; omega
      go_enter Tryd.func7, Tryd.ntmps7
      go_wp2_with fail
      go_at_call 13
      refine (HC.out _).mono ?_
      rintro e w1 ⟨rfl, hb1⟩
      have k1 := (hb1.block w.heap.size (blk_lt k0)).trans k0
      have hc1 := hb0.trans (hb1.mono hb0.size)
      have ho1 := ho0.mono hb1
      have hv1 := hv0.mono hb1
      have n1 := blk_lt k1
      clear hb1 k0 hb0 HC ho0 hv0 hcv
      go_wp2_with fail
      go_at_call 14
      refine (HK.out _ ho1).mono ?_
      rintro e w2 ⟨rfl, hw⟩
      obtain rfl : w1 = w2 := hw.symm
      clear HK ho1
      have g1 := blk_cell k1
      have f1 := blk_free k1
      go_wp2_with fail
      refine bodyPost_ret (by simp [results, Tryd.results7, go_sem, *] <;> rfl) rfl ⟨rfl, (by repeat (first | (with_reducible assumption) | (with_reducible exact Below.refl _ _) | (with_reducible refine Below.alloc ?_ (by first | omega | (simp; omega) | (simp; done) | (dsimp only; omega)) _) | (with_reducible refine Below.setCell ?_ (by first | omega | (simp; omega) | (simp; done) | (dsimp only; omega)) _) | (with_reducible refine Below.drew ?_) | (with_reducible refine Below.trans ?_ (Below.mono (by assumption) (by first | omega | (simp; omega) | (simp; done) | (dsimp only; omega))))))⟩
  · rw [if_neg h0] at hR
    have hk0 : k ≠ 0 := fun h => h0 (Or.inl h)
    have hb : bl = true := by cases bl with | false => exact absurd (Or.inr rfl) h0 | true => rfl
    subst hb
    have hk1 : ((k : Int) == 0) = false := by simp; omega
    by_cases h2 : k ≤ 2
    · rw [if_pos h2] at hR
      subst hR
      have h12 : k = 1 ∨ k = 2 := by omega
      clear h0 h2 hk0 hk1 hk
      rcases h12 with rfl | rfl
      all_goals
        go_enter Tryd.func7, Tryd.ntmps7
        go_wp2_with fail
        go_at_call 13
        refine (HC.out _).mono ?_
        rintro e w1 ⟨rfl, hb1⟩
        have k1 := (hb1.block w.heap.size (blk_lt k0)).trans k0
        have hc1 := hb0.trans (hb1.mono hb0.size)
        have ho1 := ho0.mono hb1
        have hv1 := hv0.mono hb1
        have n1 := blk_lt k1
        clear hb1 k0 hb0 HC ho0 hv0 hcv
        go_wp2_with fail
        go_at_call 14
        refine (HK.out _ ho1).mono ?_
        rintro e w2 ⟨rfl, hw⟩
        obtain rfl : w1 = w2 := hw.symm
        clear HK ho1
        have g1 := blk_cell k1
        have f1 := blk_free k1
        go_wp2_with fail
        refine bodyPost_ret (by simp [results, Tryd.results7, go_sem, *] <;> rfl) rfl ⟨rfl, (by repeat (first | (with_reducible assumption) | (with_reducible exact Below.refl _ _) | (with_reducible refine Below.alloc ?_ (by first | omega | (simp; omega) | (simp; done) | (dsimp only; omega)) _) | (with_reducible refine Below.setCell ?_ (by first | omega | (simp; omega) | (simp; done) | (dsimp only; omega)) _) | (with_reducible refine Below.drew ?_) | (with_reducible refine Below.trans ?_ (Below.mono (by assumption) (by first | omega | (simp; omega) | (simp; done) | (dsimp only; omega))))))⟩
    · rw [if_neg h2] at hR
      have h3 : 3 ≤ k ∧ k < 10 := by omega
      have hk2 : ((k : Int) == 1) = false := by simp; omega
      have hk3 : ((k : Int) == 2) = false := by simp; omega
      obtain ⟨⟨R1, R2⟩, hRR⟩ : ∃ R, argsO k (splitB b) = R := ⟨_, rfl⟩
      have hno : R2 ≠ 0 → R1 = Cmd.none := fun h => by have := argsO_err (k := k) (l := splitB b); rw [hRR] at this; exact this h
      rw [hRR] at hR
      subst hR
      go_enter Tryd.func7, Tryd.ntmps7
      go_wp2_with fail
      go_at_call 13
      refine (HC.out _).mono ?_
      rintro e w1 ⟨rfl, hb1⟩
      have k1 := (hb1.block w.heap.size (blk_lt k0)).trans k0
      have hc1 := hb0.trans (hb1.mono hb0.size)
      have ho1 := ho0.mono hb1
      have hv1 := hv0.mono hb1
      have n1 := blk_lt k1
      clear hb1 k0 hb0 HC ho0 hv0 hcv
      go_wp2_with fail
      go_at_call 14
      refine (HK.out _ ho1).mono ?_
      rintro e w2 ⟨rfl, hw⟩
      obtain rfl : w1 = w2 := hw.symm
      clear HK ho1
      have hp : CO (w1.alloc (.cells #[.int .i64 k, .string ⟨#[]⟩, .int .i64 0, .string ⟨#[]⟩, .int .i64 0, .string ⟨#[]⟩] 24)) w1.heap.size ⟨k, [], 0, [], 0, []⟩ := al_new w1 _ rfl
      have hbp : Below w.heap.size w (w1.alloc (.cells #[.int .i64 k, .string ⟨#[]⟩, .int .i64 0, .string ⟨#[]⟩, .int .i64 0, .string ⟨#[]⟩] 24)) := hc1.alloc hc1.size _
      have hvp := hv1.mono ((Below.refl _ w1).alloc (Nat.le_refl _) (.cells #[.int .i64 k, .string ⟨#[]⟩, .int .i64 0, .string ⟨#[]⟩, .int .i64 0, .string ⟨#[]⟩] 24))
      have kp := (al_old w1 (.cells #[.int .i64 k, .string ⟨#[]⟩, .int .i64 0, .string ⟨#[]⟩, .int .i64 0, .string ⟨#[]⟩] 24) n1).trans k1
      go_wp2_with fail
      refine (strings_SplitB b _ (by omega) hN).mono ?_
      rintro e w3 ⟨⟨g, c3, rfl, hr3⟩, hb3⟩
      have hp3 := hp.mono hb3
      have k3 := (hb3.block w.heap.size (blk_lt kp)).trans kp
      have hv3 := hvp.mono hb3
      have hc3 := hbp.trans (hb3.mono hbp.size)
      have HA' := order_arguments k h3 b w1.heap.size g c3 w3 hp3 (split_ne hp3 hr3) hr3 (by omega) hv3
      rw [hRR] at HA'
      have HA := Lib.hid HA'
      clear HA' hRR
      clear hp hbp hvp kp hb3 hv3 hr3 hv1 k1 hc1 hN
      generalize w1.heap.size = p at *
      generalize splitB b = L at *
      go_wp2_with fail
      refine HA.out.mono ?_
      rintro e w4 ⟨rfl, hco, hb4⟩
      have k4 := (hb4.block w.heap.size n1).trans k3
      have hc4 := hc3.trans (hb4.mono (Nat.le_of_lt n1))
      have g4 := blk_cell k4
      have f4 := blk_free k4
      clear HA hb4 k3 hc3 k4
      by_cases he : R2 = 0
      · subst he
        have co := hco rfl
        obtain ⟨a0, a1, a2, a3, a4, a5⟩ := co.cell
        clear hco co
        go_wp2_with fail
        refine bodyPost_ret (by simp [results, Tryd.results7, go_sem, *] <;> rfl) rfl ⟨rfl, (by repeat (first | (with_reducible assumption) | (with_reducible exact Below.refl _ _) | (with_reducible refine Below.alloc ?_ (by first | omega | (simp; omega) | (simp; done) | (dsimp only; omega)) _) | (with_reducible refine Below.setCell ?_ (by first | omega | (simp; omega) | (simp; done) | (dsimp only; omega)) _) | (with_reducible refine Below.drew ?_) | (with_reducible refine Below.trans ?_ (Below.mono (by assumption) (by first | omega | (simp; omega) | (simp; done) | (dsimp only; omega))))))⟩
      · have he' : (R2 != 0) = true := by simpa using he
        have hno' := hno he
        subst hno'
        clear hco hno
        go_wp2_with fail
        refine bodyPost_ret (by simp [results, Tryd.results7, go_sem, *] <;> rfl) rfl ⟨rfl, (by repeat (first | (with_reducible assumption) | (with_reducible exact Below.refl _ _) | (with_reducible refine Below.alloc ?_ (by first | omega | (simp; omega) | (simp; done) | (dsimp only; omega)) _) | (with_reducible refine Below.setCell ?_ (by first | omega | (simp; omega) | (simp; done) | (dsimp only; omega)) _) | (with_reducible refine Below.drew ?_) | (with_reducible refine Below.trans ?_ (Below.mono (by assumption) (by first | omega | (simp; omega) | (simp; done) | (dsimp only; omega))))))⟩
end Go.Proofs.YtfammopenanapaaDoor
