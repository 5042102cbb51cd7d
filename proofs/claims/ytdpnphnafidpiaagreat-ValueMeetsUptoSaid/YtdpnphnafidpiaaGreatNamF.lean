/- What names.row returns: layer 7: the walk. -/
import Derived.Test.YtdpnphnafidpiaaGreatNamE
import Derived.BigCall
import Derived.Deep.AppendLies
namespace Go.Proofs.YtdpnphnafidpiaaGreat
open Go.RowKit

theorem SRow.take {w : World} {A : Option Addr} {l : List Str} (h : SRow w A l) (n : Nat) : SRow w A (l.take n) := by
  cases A with
  | none =>
    have : l.map encStr = [] := h
    have : l = [] := by simpa using this
    subst this
    show ([].take n).map encStr = []
    simp
  | some a =>
    intro i hi
    have hi' : i < (l.map encStr).length := by simp at hi; simp; omega
    have := h i hi'
    rw [this]
    simp
/-- The world behind k rounds of the loop. -/
def RowRel (base B : Nat) (v : Value) (ms : List Str) (W : World) (v4 v15 : Value) (wx : World) : Prop :=
  ∃ (k : Nat) (q : List Str), k ≤ ms.length ∧ v15 = .int .i64 k ∧ v4 = .int .i64 (dd (ms.take k)).length ∧ OwnS wx base v q ∧ RowQ ms q k ∧ B < wx.heap.size ∧ wx.cell? ⟨B, 0, none⟩ = some v ∧ Below base W wx

set_option maxRecDepth 100000 in
set_option maxHeartbeats 4000000 in
theorem names_row (l : List Str) (A : Option Addr) (c : Nat) (w : World) (hm : l.length * 16 ≤ 140737488355328) (hz : A = none → c = 0) (hr : SRow w A l) :
    Calls Tryz.prog 99 #[.slice A l.length c] w fun e w' => (∃ A', e = .returned (.slice A' (srt l).length (srt l).length) ∧ SRow w' A' (srt l) ∧ (A' = none → (srt l).length = 0) ∧ (∀ a, A' = some a → w.heap.size ≤ a.block ∧ a.spot = none)) ∧ Below w.heap.size w w' := by
  have hmf : ∀ (fn : Fn) (first cap : Array Value) (w : World), (Instr.makeFunc fn first cap).run Tryz.prog w = .ok (.func fn first cap) w := fun _ _ _ _ => rfl
  go_enter Tryz.func99, Tryz.ntmps99
  go_upto_region 1 with fail
  go_wp2_with (at_builtin; refine wpList_append_ss rfl _ _ rfl w.heap.size (.slice none 0 0) [] l rfl (OwnS.nil _ _) A c rfl hz hr (by simpa using hm) (Nat.le_refl _) ?_)
  intro v1 w1 hown1 hg1 hb1
  have hBw : Below w.heap.size w w1 := (Below.refl _ _).grown hg1 (Nat.le_refl _) (fun k e => by cases e)
  obtain ⟨A1, c1, e1, hc1, hc2, hr1, hz1⟩ := hown1.row
  have hlt1 := hown1.lt
  subst e1
  go_upto_region 2 with fail
  generalize hV : (w1.alloc (.cells #[.slice A1 l.length c1] 26)) = V
  have p0_0 : V.cell? ⟨w1.heap.size, 0, none⟩ = some (.slice A1 l.length c1) := by rw [← hV]; simp [go_sem]
  have fp0 : ∀ o, V.frozen? ⟨w1.heap.size, o, none⟩ = false := by intro o; rw [← hV]; simp [go_sem]
  have zp0 : w1.heap.size < V.heap.size := by rw [← hV]; first | (simp; done) | (simp; omega)
  have HV : Below w1.heap.size w1 V := by rw [← hV]; exact (by repeat (first | (with_reducible assumption) | (with_reducible exact Below.refl _ _) | (with_reducible refine Below.alloc ?_ (by first | omega | (simp; omega) | (simp; done) | (dsimp only; omega)) _) | (with_reducible refine Below.setCell ?_ (by first | omega | (simp; omega) | (simp; done) | (dsimp only; omega)) _) | (with_reducible refine Below.drew ?_) | (with_reducible refine Below.trans ?_ (Below.mono (by assumption) (by first | omega | (simp; omega) | (simp; done) | (dsimp only; omega))))))
  clear hV
  have hneB : (Value.slice A1 l.length c1).ownBlock ≠ some w1.heap.size := fun e => by have := (hlt1 _ e).2; omega
  have HS := Lib.hid (row_sort w.heap.size (.slice A1 l.length c1) l w1.heap.size V (hown1.mono HV) p0_0 zp0 hneB (by omega))
  have hBV : Below w.heap.size w V := hBw.trans (HV.mono hBw.size)
  generalize hB : w1.heap.size = B at *
  have hBw1 : w.heap.size ≤ B := by rw [← hB]; exact hBw.size
  have hrel0 : OwnS V w.heap.size (.slice A1 l.length c1) l := hown1.mono (by rw [hB]; exact HV)
  clear hown1 hr1 hr hg1 hb1 HV
  generalize hms : (l.mergeSort fun x y => decide (x ≤ y)) = ms at *
  have hml : ms.length = l.length := by rw [← hms]; simp
  have hsrt : srt l = dd ms := by rw [← hms]; exact (dd_sort l).symm
  clear hms
  go_wp2_with (go_at_call 108; refine HS.out.mono ?_; rintro e w3 ⟨rfl, hown3, hg3⟩; have pB := (World.cell?_of_block (w := V) (a := ⟨B, 0, none⟩) (hg3.block B zp0 (fun e => hneB e.symm))).trans p0_0)
  have hB3 : Below w.heap.size w w3 := hBV.grown hg3 hBV.size (fun k e => (hrel0.lt k e).1)
  have hs3 : w.heap.size ≤ B := hBw1
  have hzB : B < w3.heap.size := Nat.lt_of_lt_of_le zp0 hg3.size
  clear HS hrel0 p0_0 fp0 zp0 hBV hg3
  go_loopw [4, 6, 15] (fun v4 _ v15 wx => RowRel w.heap.size B (.slice A1 l.length c1) ms w3 v4 v15 wx) (fun _ _ v15 _ => ms.length - (intOf v15).toNat)
  case atStart => exact ⟨0, ms, by omega, rfl, rfl, hown3, RowQ.start ms, hzB, pB, Below.refl _ _⟩
  case round =>
    clear hown3 pB hzB
    obtain ⟨k, q, hk, rfl, rfl, hown, hq, hzB, pB, hBx⟩ := hrel
    have hql := hq.1
    have hml2 := dd_take_len ms k
    by_cases hlt : k < l.length
    · obtain ⟨g, cap, eg, hg1, hg2⟩ := hown.form (by omega)
      injection eg with e1 e2 e3
      subst e1 e3
      clear e2
      have hgB : g ≠ B := fun e => hneB (by rw [e]; rfl)
      obtain ⟨hkq, ekq⟩ := hq.get (k := k) (by omega)
      have ck := hown.at hkq
      rw [ekq] at ck
      have fg := fun o => (hown.free o).1
      have hddk := dd_take ms k (by omega)
      have hput := hq.put (k := k) (by omega)
      have hskip := hq.skip (k := k) (by omega)
      have hset := hown.set (dd (ms.take k)).length ms[k]
      have hlast := fun m h => hq.last (k := k) (m := m) (by omega) h
      have hBg : ¬ B = g := fun e => hgB e.symm
      generalize hx : ms[k]'(by omega) = x at *
      rcases Nat.eq_zero_or_pos (dd (ms.take k)).length with hm0 | hmp
      · have hnil : dd (ms.take k) = [] := List.eq_nil_of_length_eq_zero hm0
        have hdd : dd (ms.take (k + 1)) = dd (ms.take k) ++ [x] := by rw [hddk, hnil]; rfl
        have HP := Lib.hid (hput hdd)
        have HD := Lib.hid (show (dd (ms.take (k + 1))).length = 0 + 1 by rw [hdd, hnil]; rfl)
        rw [hm0] at hset HP ⊢
        have HS := Lib.hid hset
        have c0 := hown.at (k := 0) (by omega)
        generalize q[0]'(by omega) = y0 at *
        clear hput hskip hset hlast hddk hdd hnil hm0
        go_wp2
        go_roundw
        case rel => exact ⟨k + 1, _, by omega, by go_num, by rw [HD.out] <;> first | rfl | go_num, HS.out, HP.out, by simpa using hzB, by simp [go_sem, pB], (by repeat (first | (with_reducible assumption) | (with_reducible exact Below.refl _ _) | (with_reducible refine Below.alloc ?_ (by first | omega | (simp; omega) | (simp; done) | (dsimp only; omega)) _) | (with_reducible refine Below.setCell ?_ (by first | omega | (simp; omega) | (simp; done) | (dsimp only; omega)) _) | (with_reducible refine Below.drew ?_) | (with_reducible refine Below.trans ?_ (Below.mono (by assumption) (by first | omega | (simp; omega) | (simp; done) | (dsimp only; omega))))))⟩
        case measure => simp [intOf]; omega
      · obtain ⟨m, hm⟩ : ∃ m, (dd (ms.take k)).length = m + 1 := ⟨(dd (ms.take k)).length - 1, by omega⟩
        obtain ⟨hmq, hl⟩ := hlast m hm
        have cm := hown.at hmq
        have cm1 := hown.at (k := m + 1) (by omega)
        generalize q[m + 1]'(by omega) = y1 at *
        have w1 : IntKind.i64.wrap ((m : Int) + 1 - 1) = m := by rw [show (m : Int) + 1 - 1 = m by omega]; exact IntWalk.i64_in _ (by omega)
        have kz : ((m : Int) + 1 == 0) = false := by simp; omega
        have hmk : m + 1 ≤ k := by omega
        have hI : (m : Int) + 1 < (l.length : Int) := by omega
        have hI0 : 0 ≤ (m : Int) + 1 := by omega
        rw [hm]
        cases hxy : q[m] == x
        · have hne : q[m] ≠ x := by simpa using hxy
          have hdd : dd (ms.take (k + 1)) = dd (ms.take k) ++ [x] := by rw [hddk]; unfold ddF; rw [if_neg (by rw [hl]; exact fun e => hne (Option.some.inj e))]
          have HP := Lib.hid (hput hdd)
          have HD := Lib.hid (show (dd (ms.take (k + 1))).length = m + 1 + 1 by rw [hdd, List.length_append, hm]; rfl)
          rw [hm] at hset HP
          have HS := Lib.hid hset
          clear hput hskip hset hlast hddk hdd hl hm hne
          generalize q[m]'hmq = ym at *
          go_wp2
          go_roundw
          case rel => exact ⟨k + 1, _, by omega, by go_num, by rw [HD.out] <;> first | rfl | go_num, HS.out, HP.out, by simpa using hzB, by simp [go_sem, pB], (by repeat (first | (with_reducible assumption) | (with_reducible exact Below.refl _ _) | (with_reducible refine Below.alloc ?_ (by first | omega | (simp; omega) | (simp; done) | (dsimp only; omega)) _) | (with_reducible refine Below.setCell ?_ (by first | omega | (simp; omega) | (simp; done) | (dsimp only; omega)) _) | (with_reducible refine Below.drew ?_) | (with_reducible refine Below.trans ?_ (Below.mono (by assumption) (by first | omega | (simp; omega) | (simp; done) | (dsimp only; omega))))))⟩
          case measure => simp [intOf]; omega
        · have heq : q[m] = x := by simpa using hxy
          have hdd : dd (ms.take (k + 1)) = dd (ms.take k) := by rw [hddk]; unfold ddF; rw [if_pos (by rw [hl, heq])]
          have HP := Lib.hid (hskip hdd)
          have HD := Lib.hid (show (dd (ms.take (k + 1))).length = m + 1 by rw [hdd, hm])
          clear hput hskip hset hlast hddk hdd hl hm heq
          generalize q[m]'hmq = ym at *
          go_wp2
          go_roundw
          case rel => exact ⟨k + 1, q, by omega, by go_num, by rw [HD.out] <;> first | rfl | go_num, hown, HP.out, hzB, pB, hBx⟩
          case measure => simp [intOf]; omega
    · obtain rfl : k = ms.length := by omega
      have hdl : dd (ms.take ms.length) = srt l := by rw [List.take_length]; exact hsrt.symm
      have hsl := srt_len_le l
      have hq1 := hq.2.1
      rw [hdl] at hq1 ⊢
      generalize hn : (srt l).length = n at *
      obtain ⟨A', c', e', _, _, hrq, _⟩ := hown.row
      injection e' with e1 e2 e3
      subst e1
      have hres := hrq.take n
      rw [hq1] at hres
      have hzn : A1 = none → n = 0 := fun h => by have := hz1 h; omega
      have hfr : ∀ a, A1 = some a → w.heap.size ≤ a.block ∧ a.spot = none := fun a h => ⟨(hown.lt a.block (by rw [h]; rfl)).1, hown.spot a h⟩
      clear e2 e3 hrq hq1 hown hq
      go_wp2
      go_ret
      rw [hn]
      exact ⟨⟨A1, rfl, hres, hzn, hfr⟩, hB3.trans hBx⟩
end Go.Proofs.YtdpnphnafidpiaaGreat
