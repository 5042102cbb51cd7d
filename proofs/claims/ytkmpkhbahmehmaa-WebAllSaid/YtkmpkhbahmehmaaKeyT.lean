/- X-PARTIAL slices.Compact over any row of keys: layer 26. -/
import Derived.Test.YtkmpkhbahmehmaaKeyS
namespace Go.Proofs.Ytkmpkhbahmehmaa
open Go.RowKit Go.Lib

theorem own_get {w : World} {base n cap g : Nat} {C : List Ky} (h : w.ownsRow base 24 2 (.slice (some ⟨g, 0, none⟩) n cap) n (kcells C)) (hC : C.length = n) {p : Nat} (hp : p < C.length) :
    w.cell? ⟨g, p * 2, none⟩ = some (encStr C[p].n) ∧ w.cell? ⟨g, p * 2 + 1, none⟩ = some (.int .i64 C[p].d) := by
  obtain ⟨g0, g1⟩ := kcells_get C p hp
  exact ⟨by rw [h.cellAt _ (by omega), g0], by rw [h.cellAt _ (by omega), g1]⟩
theorem own_store {w : World} {base n cap g : Nat} {C : List Ky} (h : w.ownsRow base 24 2 (.slice (some ⟨g, 0, none⟩) n cap) n (kcells C)) {p : Nat} (hp : p < C.length) (x : Ky) :
    ((w.setCell ⟨g, p * 2, none⟩ (encStr x.n)).setCell ⟨g, p * 2 + 1, none⟩ (.int .i64 x.d)).ownsRow base 24 2 (.slice (some ⟨g, 0, none⟩) n cap) n (kcells (C.set p x)) ∧
      w.grownBy ((w.setCell ⟨g, p * 2, none⟩ (encStr x.n)).setCell ⟨g, p * 2 + 1, none⟩ (.int .i64 x.d)) (some g) := by
  have h1 := h.stored (p * 2) (encStr x.n)
  have h2 := h1.1.stored (p * 2 + 1) (.int .i64 x.d)
  rw [kcells_set C p x hp] at h2
  exact ⟨h2.1, grown_trans h1.2 h2.2⟩
theorem key_ne {a b : Ky} (h : ¬ a = b) : (a.n == b.n) = false ∨ (a.n == b.n) = true ∧ (a.d == b.d) = false := by
  cases h1 : a.n == b.n
  · exact Or.inl rfl
  · refine Or.inr ⟨rfl, ?_⟩
    rw [beq_eq_false_iff_ne]
    exact fun e => h (Ky.ext (by simpa using h1) e)

set_option maxRecDepth 100000 in
set_option maxHeartbeats 8000000 in
theorem key_compact (l : List Ky) (g cap base : Nat) (w : World) (hm : l.length ≤ 140737488355328) (hcp : l.length ≤ cap) (hown : w.ownsRow base 24 2 (.slice (some ⟨g, 0, none⟩) l.length cap) l.length (kcells l)) :
    Calls Try.prog 38 #[.slice (some ⟨g, 0, none⟩) l.length cap] w fun e w' => e = .returned (.slice (some ⟨g, 0, none⟩) (ddK l).length cap) ∧
      w'.ownsRow base 24 2 (.slice (some ⟨g, 0, none⟩) (ddK l).length cap) (ddK l).length (kcells (ddK l)) ∧ w.grownBy w' (some g) := by
  by_cases h2 : l.length < 2
  · have hd : ddK l = l := by
      match l, h2 with
      | [], _ => rfl
      | [x], _ => rfl
      | x :: y :: r, h => simp at h; omega
    rw [hd]
    have i2 : (l.length : Int) < 2 := by omega
    go_enter Try.func38, Try.ntmps38
    go_wp2_with fail
    go_ret
    exact ⟨rfl, hown, grown_refl _ _⟩
  · have i2 : ¬ (l.length : Int) < 2 := by omega
    generalize hDL : ddK l = DL
    have HDL := Lib.hid hDL
    clear hDL
    go_enter Try.func38, Try.ntmps38
    go_wp2_with fail
    go_loopw [3] (fun v3 wr => ∃ k : Nat, k + 1 ≤ l.length ∧ v3 = .int .i64 ((k : Int) + 1) ∧ ddK (l.take (k + 1)) = l.take (k + 1) ∧ wr.ownsRow base 24 2 (.slice (some ⟨g, 0, none⟩) l.length cap) l.length (kcells l) ∧ w.grownBy wr (some g)) (fun v3 _ => l.length - (RowKit.intOf v3).toNat)
    case atStart => exact ⟨0, by omega, rfl, ddK_one (by omega), hown, grown_refl _ _⟩
    case round =>
      obtain ⟨k, hk, rfl, hdd, hown2, hgr⟩ := hrel
      by_cases hlt : k + 1 < l.length
      · have ik : (k : Int) + 1 < l.length := by omega
        obtain ⟨c0, c1⟩ := own_get hown2 rfl (p := k) (by omega)
        obtain ⟨c2, c3⟩ := own_get hown2 rfl (p := k + 1) hlt
        have HOW := Lib.hid hown2
        have HNX := Lib.hid (ddK_next hlt)
        have HDD := Lib.hid hdd
        clear hown hown2 hdd
        by_cases he : l[k + 1] = l[k]
        · have HEQ := Lib.hid he
          rw [he] at c2 c3
          generalize l[k] = x at *
          go_wp2_with fail
          go_region
          go_wp2_with fail
          have hst : ddK (l.take (k + 2)) = l.take (k + 1) := by rw [HNX.out, if_pos he, HDD.out]
          have HW0 := Lib.hid (grown_drew hgr)
          clear c0 c1 c2 c3 HNX HDD HEQ he hgr
          go_loopw [3, 5] (fun v3 v5 wx => ∃ (j c : Nat) (C : List Ky), v5 = .int .i64 ((j : Int) + 1) ∧ v3 = .int .i64 (c : Int) ∧ j + 1 ≤ l.length - (k + 1) ∧ c ≤ k + 1 + j ∧ C.length = l.length ∧ C.take c = ddK (l.take (k + 1 + j + 1)) ∧ (∀ p, k + 1 + j ≤ p → C[p]? = l[p]?) ∧
            wx.ownsRow base 24 2 (.slice (some ⟨g, 0, none⟩) l.length cap) l.length (kcells C) ∧ w.grownBy wx (some g)) (fun _ v5 _ => l.length - (RowKit.intOf v5).toNat)
          case atStart => exact ⟨0, k + 1, l, rfl, rfl, by omega, by omega, rfl, hst.symm, fun _ _ => rfl, own_drew HOW.out, HW0.out⟩
          case round =>
            obtain ⟨j, c, C, rfl, rfl, hj, hc, hCl, hCt, hCd, hownC, hgrC⟩ := hrel
            by_cases hlj : j + 1 < l.length - (k + 1)
            · have hp1 : k + 1 + j < C.length := by omega
              have hp2 : k + 2 + j < C.length := by omega
              have ij : (j : Int) + 1 < ((l.length - (k + 1) : Nat) : Int) := by omega
              obtain ⟨a0, a1⟩ := own_get hownC hCl hp1
              obtain ⟨a2, a3⟩ := own_get hownC hCl hp2
              have hl1 : k + 1 + j < l.length := by omega
              have hl2 : k + 1 + j + 1 < l.length := by omega
              have hC1 : C[k + 1 + j] = l[k + 1 + j] := by
                have := hCd (k + 1 + j) (Nat.le_refl _)
                rw [List.getElem?_eq_getElem hp1, List.getElem?_eq_getElem hl1] at this
                exact Option.some.inj this
              have hC2 : C[k + 2 + j] = l[k + 1 + j + 1] := by
                have := hCd (k + 1 + j + 1) (by omega)
                rw [show k + 1 + j + 1 = k + 2 + j by omega, List.getElem?_eq_getElem hp2, List.getElem?_eq_getElem (by omega)] at this
                have e := Option.some.inj this
                rw [e]
                congr 1
                omega
              rw [hC1] at a0 a1
              rw [hC2] at a2 a3
              rw [show (k + 1 + j) * 2 = (k + 1) * 2 + j * 2 by omega] at a0 a1
              rw [show (k + 2 + j) * 2 = (k + 1) * 2 + (j + 1) * 2 by omega] at a2 a3
              have HNX := Lib.hid (ddK_next hl2)
              have HCT := Lib.hid hCt
              have HCD := Lib.hid hCd
              have HOC := Lib.hid hownC
              have HCL := Lib.hid hCl
              have hcC : c < C.length := by omega
              clear hCt hCd hC1 hC2
              by_cases he : l[k + 1 + j + 1] = l[k + 1 + j]
              · have HT := Lib.hid (show C.take c = ddK (l.take (k + 1 + (j + 1) + 1)) by rw [HCT.out, show k + 1 + (j + 1) + 1 = k + 1 + j + 2 by omega, HNX.out, if_pos he])
                rw [he] at a2 a3
                clear HNX HCT he hownC hCl
                generalize l[k + 1 + j] = y at *
                go_wp2_with fail
                go_region
                go_wp2_with fail
                go_roundw
                case rel => exact ⟨j + 1, c, C, by go_num, rfl, by omega, by omega, HCL.out, HT.out, fun p hp => HCD.out p (by omega), own_drew HOC.out, grown_drew hgrC⟩
                case measure => simp [RowKit.intOf]; omega
              · have hne := key_ne he
                have HT := Lib.hid (show ∀ y, y = l[k + 1 + j + 1] → (C.set c y).take (c + 1) = ddK (l.take (k + 1 + (j + 1) + 1)) from fun y hy => by
                  rw [show k + 1 + (j + 1) + 1 = k + 1 + j + 2 by omega, HNX.out, if_neg he, ← HCT.out, ← hy]
                  rw [List.take_succ_eq_append_getElem (by rw [List.length_set]; exact hcC), List.take_set_of_le (Nat.le_refl _), List.getElem_set_self])
                obtain ⟨b0, b1⟩ := own_get hownC hCl hcC
                have f0 := hownC.frozenAt (c * 2)
                have f1 := hownC.frozenAt (c * 2 + 1)
                have icl : (c : Int) < l.length := by omega
                have HST := Lib.hid (fun y => own_store (own_drew HOC.out) hcC y)
                have hcp : c ≤ k + 1 + j := hc
                clear HNX HCT he hownC hCl
                generalize hy1 : l[k + 1 + j] = y1 at *
                generalize hy2 : l[k + 1 + j + 1] = y2 at *
                clear hy1 hy2
                generalize C[c] = zz at *
                rcases hne with e1 | ⟨e1, e2⟩
                · go_wp2_with fail
                  go_region
                  go_wp2_with fail
                  go_roundw
                  case rel => exact ⟨j + 1, c + 1, C.set c y2, by go_num, by go_num, by omega, by omega, by rw [List.length_set]; exact HCL.out, HT.out _ rfl, fun p hp => by rw [List.getElem?_set_ne (by omega)]; exact HCD.out p (by omega), (HST.out y2).1, grown_trans (grown_drew hgrC) (HST.out y2).2⟩
                  case measure => simp [RowKit.intOf]; omega
                · go_wp2_with fail
                  go_region
                  go_wp2_with fail
                  go_roundw
                  case rel => exact ⟨j + 1, c + 1, C.set c y2, by go_num, by go_num, by omega, by omega, by rw [List.length_set]; exact HCL.out, HT.out _ rfl, fun p hp => by rw [List.getElem?_set_ne (by omega)]; exact HCD.out p (by omega), (HST.out y2).1, grown_trans (grown_drew hgrC) (HST.out y2).2⟩
                  case measure => simp [RowKit.intOf]; omega
            · have ij : ¬ (j : Int) + 1 < ((l.length - (k + 1) : Nat) : Int) := by omega
              have hlast : k + 1 + j + 1 = l.length := by omega
              have hcl : c < l.length := by omega
              have hcn : C.take c = DL := by rw [hCt, hlast, List.take_length]; exact HDL.out
              have hDlen : DL.length = c := by rw [← hcn, List.length_take, hCl]; omega
              have hcr := run_clear_keys wr g (c * 2) (l.length - c) (cap - c) (by omega) (fun q hq => by
                rw [hownC.cellAt _ (by omega)]
                have : c * 2 + q < (kcells C).length := by rw [kcells_len, hCl]; omega
                rw [List.getElem?_eq_getElem this]; rfl) (fun q hq => hownC.frozenAt _)
              obtain ⟨ys, o1, o2⟩ := own_sets (kcells (List.replicate (l.length - c) ⟨[], 0⟩)) (c * 2) wr (kcells C) hownC
              have hfin := own_prefix o1 (n' := c) (by omega)
              rw [o2, kcells_take, hcn] at hfin
              have HFIN := Lib.hid hfin
              have HGR := Lib.hid (grown_trans hgrC (grownBy_sets g (kcells (List.replicate (l.length - c) ⟨[], 0⟩)) (c * 2) wr))
              have ic1 : (0 : Int) ≤ c := by omega
              have ic2 : (c : Int) ≤ l.length := by omega
              have ic3 : (c : Int) ≤ cap := by omega
              have HDLEN := Lib.hid hDlen
              clear hfin o1 o2 hgrC hcn hDlen hownC hCt hCd hCl
              go_wp2_with (simp only [hcr])
              go_ret
              exact ⟨by rw [HDLEN.out]; rfl, by rw [HDLEN.out]; exact HFIN.out, HGR.out⟩
        · have hne := key_ne he
          have HT := Lib.hid (show ddK (l.take (k + 1 + 1)) = l.take (k + 1 + 1) by
            rw [show k + 1 + 1 = k + 2 by omega, HNX.out, if_neg he, HDD.out, ← List.take_succ_eq_append_getElem hlt])
          clear he HNX HDD
          generalize l[k] = x at *
          generalize l[k + 1] = y at *
          rcases hne with e1 | ⟨e1, e2⟩
          · go_wp2_with fail
            go_region
            go_wp2_with fail
            go_roundw
            case rel => exact ⟨k + 1, by omega, by go_num, HT.out, own_drew HOW.out, grown_drew hgr⟩
            case measure => simp [RowKit.intOf]; omega
          · go_wp2_with fail
            go_region
            go_wp2_with fail
            go_roundw
            case rel => exact ⟨k + 1, by omega, by go_num, HT.out, own_drew HOW.out, grown_drew hgr⟩
            case measure => simp [RowKit.intOf]; omega
      · have ik : ¬ (k : Int) + 1 < l.length := by omega
        have HF : DL = l := by
          rw [← HDL.out]
          rw [show k + 1 = l.length by omega, List.take_length] at hdd
          exact hdd
        subst HF
        go_wp2_with fail
        go_ret
        exact ⟨rfl, hown2, hgr⟩
end Go.Proofs.Ytkmpkhbahmehmaa
