/- X-PARTIAL What names.Without, Only and Equal return: layer 7. -/
import Derived.Test.YtnbpdkcnldeljaaNamM
namespace Go.Proofs.Ytnbpdkcnldeljaa
open Go.RowKit

set_option maxHeartbeats 2000000 in
theorem names_Without (n null : Bool) (l : List Str) (A : Option Addr) (c : Nat) (w : World) (hm : l.length * 16 ≤ 140737488355328) (hz : A = none → c = 0) (hr : SRow w A l) :
    Calls Try.prog 26 #[.agg #[.bool n, .slice A l.length c], .bool null] w fun e w' => (∃ v', e = .returned v' ∧ SetV (w.heap.size + 2) w' v' (n && !null) (srt l)) ∧ Below w.heap.size w w' := by
  cases n
  · go_enter Try.func26, Try.ntmps26
    go_upto_region 1 with fail
    generalize hW : ((w.alloc (.cells #[.bool false, .slice A l.length c] 24)).alloc (.cells #[.bool false, .slice none 0 0] 24)) = W
    have q0_0 : W.cell? ⟨w.heap.size, 0, none⟩ = some (.bool false) := by rw [← hW]; simp [go_sem]
    have q0_1 : W.cell? ⟨w.heap.size, 1, none⟩ = some (.slice A l.length c) := by rw [← hW]; simp [go_sem]
    have q1_0 : W.cell? ⟨w.heap.size + 1, 0, none⟩ = some (.bool false) := by rw [← hW]; simp [go_sem]
    have q1_1 : W.cell? ⟨w.heap.size + 1, 1, none⟩ = some (.slice none 0 0) := by rw [← hW]; simp [go_sem]
    have f0 : ∀ o, W.frozen? ⟨w.heap.size, o, none⟩ = false := by intro o; rw [← hW]; simp [go_sem]
    have f1 : ∀ o, W.frozen? ⟨w.heap.size + 1, o, none⟩ = false := by intro o; rw [← hW]; simp [go_sem]
    have z0 : w.heap.size < W.heap.size := by rw [← hW]; first | (simp; done) | (simp; omega)
    have z1 : w.heap.size + 1 < W.heap.size := by rw [← hW]; first | (simp; done) | (simp; omega)
    have HW : Below w.heap.size w W := by rw [← hW]; exact (by repeat (first | (with_reducible assumption) | (with_reducible exact Below.refl _ _) | (with_reducible refine Below.alloc ?_ (by first | omega | (simp; omega) | (simp; done) | (dsimp only; omega)) _) | (with_reducible refine Below.setCell ?_ (by first | omega | (simp; omega) | (simp; done) | (dsimp only; omega)) _) | (with_reducible refine Below.drew ?_) | (with_reducible refine Below.trans ?_ (Below.mono (by assumption) (by first | omega | (simp; omega) | (simp; done) | (dsimp only; omega))))))
    clear hW
    have HO := Lib.hid (names_Of false l A c W hm hz (hr.mono HW))
    go_wp2_with fail
    go_at_call 22
    refine HO.out.mono ?_
    rintro e w3 ⟨⟨v3, rfl, ⟨A3, c3, rfl, j1, j2, j3, j4, j5⟩⟩, hb3⟩
    obtain ⟨hc3, hf3⟩ := bcell hb3
    go_wp2
    have HW3 := HW.trans (hb3.mono HW.size)
    refine bodyPost_ret (by simp [results, Try.results26, go_sem, *] <;> rfl) rfl ⟨⟨_, rfl, ?_⟩, (by repeat (first | (with_reducible assumption) | (with_reducible exact Below.refl _ _) | (with_reducible refine Below.alloc ?_ (by first | omega | (simp; omega) | (simp; done) | (dsimp only; omega)) _) | (with_reducible refine Below.setCell ?_ (by first | omega | (simp; omega) | (simp; done) | (dsimp only; omega)) _) | (with_reducible refine Below.drew ?_) | (with_reducible refine Below.trans ?_ (Below.mono (by assumption) (by first | omega | (simp; omega) | (simp; done) | (dsimp only; omega))))))⟩
    exact SetV.store j1 j2 j3 j4 (fun a e => ⟨by have := (j5 a e).1; omega, (j5 a e).2⟩) (by omega) _ _
  · go_enter Try.func26, Try.ntmps26
    go_upto_region 1 with fail
    generalize hW : ((w.alloc (.cells #[.bool true, .slice A l.length c] 24)).alloc (.cells #[.bool false, .slice none 0 0] 24)) = W
    have q0_0 : W.cell? ⟨w.heap.size, 0, none⟩ = some (.bool true) := by rw [← hW]; simp [go_sem]
    have q0_1 : W.cell? ⟨w.heap.size, 1, none⟩ = some (.slice A l.length c) := by rw [← hW]; simp [go_sem]
    have q1_0 : W.cell? ⟨w.heap.size + 1, 0, none⟩ = some (.bool false) := by rw [← hW]; simp [go_sem]
    have q1_1 : W.cell? ⟨w.heap.size + 1, 1, none⟩ = some (.slice none 0 0) := by rw [← hW]; simp [go_sem]
    have f0 : ∀ o, W.frozen? ⟨w.heap.size, o, none⟩ = false := by intro o; rw [← hW]; simp [go_sem]
    have f1 : ∀ o, W.frozen? ⟨w.heap.size + 1, o, none⟩ = false := by intro o; rw [← hW]; simp [go_sem]
    have z0 : w.heap.size < W.heap.size := by rw [← hW]; first | (simp; done) | (simp; omega)
    have z1 : w.heap.size + 1 < W.heap.size := by rw [← hW]; first | (simp; done) | (simp; omega)
    have HW : Below w.heap.size w W := by rw [← hW]; exact (by repeat (first | (with_reducible assumption) | (with_reducible exact Below.refl _ _) | (with_reducible refine Below.alloc ?_ (by first | omega | (simp; omega) | (simp; done) | (dsimp only; omega)) _) | (with_reducible refine Below.setCell ?_ (by first | omega | (simp; omega) | (simp; done) | (dsimp only; omega)) _) | (with_reducible refine Below.drew ?_) | (with_reducible refine Below.trans ?_ (Below.mono (by assumption) (by first | omega | (simp; omega) | (simp; done) | (dsimp only; omega))))))
    clear hW
    have HO := Lib.hid (names_Of (!null) l A c W hm hz (hr.mono HW))
    go_wp2_with fail
    go_at_call 22
    refine HO.out.mono ?_
    rintro e w3 ⟨⟨v3, rfl, ⟨A3, c3, rfl, j1, j2, j3, j4, j5⟩⟩, hb3⟩
    obtain ⟨hc3, hf3⟩ := bcell hb3
    go_wp2
    have HW3 := HW.trans (hb3.mono HW.size)
    refine bodyPost_ret (by simp [results, Try.results26, go_sem, *] <;> rfl) rfl ⟨⟨_, rfl, ?_⟩, (by repeat (first | (with_reducible assumption) | (with_reducible exact Below.refl _ _) | (with_reducible refine Below.alloc ?_ (by first | omega | (simp; omega) | (simp; done) | (dsimp only; omega)) _) | (with_reducible refine Below.setCell ?_ (by first | omega | (simp; omega) | (simp; done) | (dsimp only; omega)) _) | (with_reducible refine Below.drew ?_) | (with_reducible refine Below.trans ?_ (Below.mono (by assumption) (by first | omega | (simp; omega) | (simp; done) | (dsimp only; omega))))))⟩
    exact SetV.store j1 j2 j3 j4 (fun a e => ⟨by have := (j5 a e).1; omega, (j5 a e).2⟩) (by omega) _ _

def onlyS (n : Bool) (l : List Str) : Str × Bool :=
  match srt l with
  | [x] => if n then ([], false) else (x, true)
  | _ => ([], false)

theorem only_no {n : Bool} {l : List Str} (h : (srt l).length ≠ 1 ∨ n = true) : onlyS n l = ([], false) := by
  unfold onlyS
  split
  · next x hx =>
    rcases h with h | h
    · rw [hx] at h; exact absurd rfl h
    · rw [h]; rfl
  · rfl

theorem only_yes {l : List Str} (h : (srt l).length = 1) : onlyS false l = ((srt l)[0], true) := by
  unfold onlyS
  split
  · next x hx => simp [hx]
  · next hn =>
    exfalso
    match hs : srt l, h with
    | [x], _ => exact hn x hs

set_option maxHeartbeats 2000000 in
theorem names_Only (n : Bool) (l : List Str) (A : Option Addr) (c : Nat) (w : World) (hm : l.length * 16 ≤ 140737488355328) (hz : A = none → c = 0) (hr : SRow w A l) :
    Calls Try.prog 24 #[.agg #[.bool n, .slice A l.length c]] w fun e w' => e = .returned (.tuple #[encStr (onlyS n l).1, .bool (onlyS n l).2]) ∧ Below w.heap.size w w' := by
  have hsl := srt_len_le l
  by_cases h1 : (srt l).length = 1
  · have hk : (((srt l).length : Int) == 1) = true := by rw [h1]; rfl
    cases n
    · have E := only_yes h1
      have HE := Lib.hid E
      clear E
      generalize onlyS false l = r at *
      go_enter Try.func24, Try.ntmps24
      go_upto_region 1 with fail
      generalize hW : (w.alloc (.cells #[.bool false, .slice A l.length c] 24)) = W
      have q0_0 : W.cell? ⟨w.heap.size, 0, none⟩ = some (.bool false) := by rw [← hW]; simp [go_sem]
      have q0_1 : W.cell? ⟨w.heap.size, 1, none⟩ = some (.slice A l.length c) := by rw [← hW]; simp [go_sem]
      have z0 : w.heap.size < W.heap.size := by rw [← hW]; first | (simp; done) | (simp; omega)
      have HW : Below w.heap.size w W := by rw [← hW]; exact (by repeat (first | (with_reducible assumption) | (with_reducible exact Below.refl _ _) | (with_reducible refine Below.alloc ?_ (by first | omega | (simp; omega) | (simp; done) | (dsimp only; omega)) _) | (with_reducible refine Below.setCell ?_ (by first | omega | (simp; omega) | (simp; done) | (dsimp only; omega)) _) | (with_reducible refine Below.drew ?_) | (with_reducible refine Below.trans ?_ (Below.mono (by assumption) (by first | omega | (simp; omega) | (simp; done) | (dsimp only; omega))))))
      clear hW
      have HR := Lib.hid (names_row l A c W hm hz (hr.mono HW))
      go_wp2_with fail
      go_at_call 29
      refine HR.out.mono ?_
      rintro e w1 ⟨⟨A1, rfl, er1, ez1, ef1⟩, hb1⟩
      obtain ⟨b, o, rfl, hc, hbl⟩ := er1.cell (k := 0) (by omega)
      obtain ⟨hc1, hf1⟩ := bcell hb1
      rw [Nat.add_zero] at hc
      generalize (srt l)[0]'(by omega) = x at *
      rw [h1]
      go_wp2
      go_ret2
      exact ⟨by rw [HE.out]; rfl, (by repeat (first | (with_reducible assumption) | (with_reducible exact Below.refl _ _) | (with_reducible refine Below.alloc ?_ (by first | omega | (simp; omega) | (simp; done) | (dsimp only; omega)) _) | (with_reducible refine Below.setCell ?_ (by first | omega | (simp; omega) | (simp; done) | (dsimp only; omega)) _) | (with_reducible refine Below.drew ?_) | (with_reducible refine Below.trans ?_ (Below.mono (by assumption) (by first | omega | (simp; omega) | (simp; done) | (dsimp only; omega))))))⟩
    · have E := only_no (n := true) (l := l) (Or.inr rfl)
      have HE := Lib.hid E
      clear E
      generalize onlyS true l = r at *
      go_enter Try.func24, Try.ntmps24
      go_upto_region 1 with fail
      generalize hW : (w.alloc (.cells #[.bool true, .slice A l.length c] 24)) = W
      have q0_0 : W.cell? ⟨w.heap.size, 0, none⟩ = some (.bool true) := by rw [← hW]; simp [go_sem]
      have q0_1 : W.cell? ⟨w.heap.size, 1, none⟩ = some (.slice A l.length c) := by rw [← hW]; simp [go_sem]
      have z0 : w.heap.size < W.heap.size := by rw [← hW]; first | (simp; done) | (simp; omega)
      have HW : Below w.heap.size w W := by rw [← hW]; exact (by repeat (first | (with_reducible assumption) | (with_reducible exact Below.refl _ _) | (with_reducible refine Below.alloc ?_ (by first | omega | (simp; omega) | (simp; done) | (dsimp only; omega)) _) | (with_reducible refine Below.setCell ?_ (by first | omega | (simp; omega) | (simp; done) | (dsimp only; omega)) _) | (with_reducible refine Below.drew ?_) | (with_reducible refine Below.trans ?_ (Below.mono (by assumption) (by first | omega | (simp; omega) | (simp; done) | (dsimp only; omega))))))
      clear hW
      have HR := Lib.hid (names_row l A c W hm hz (hr.mono HW))
      go_wp2_with fail
      go_at_call 29
      refine HR.out.mono ?_
      rintro e w1 ⟨⟨A1, rfl, er1, ez1, ef1⟩, hb1⟩
      obtain ⟨hc1, hf1⟩ := bcell hb1
      rw [h1]
      go_wp2
      go_ret2
      exact ⟨by rw [HE.out]; rfl, (by repeat (first | (with_reducible assumption) | (with_reducible exact Below.refl _ _) | (with_reducible refine Below.alloc ?_ (by first | omega | (simp; omega) | (simp; done) | (dsimp only; omega)) _) | (with_reducible refine Below.setCell ?_ (by first | omega | (simp; omega) | (simp; done) | (dsimp only; omega)) _) | (with_reducible refine Below.drew ?_) | (with_reducible refine Below.trans ?_ (Below.mono (by assumption) (by first | omega | (simp; omega) | (simp; done) | (dsimp only; omega))))))⟩
  · have hk : (((srt l).length : Int) == 1) = false := by rw [beq_eq_false_iff_ne]; omega
    have E := only_no (n := n) (l := l) (Or.inl h1)
    have HE := Lib.hid E
    clear E
    generalize onlyS n l = r at *
    go_enter Try.func24, Try.ntmps24
    go_upto_region 1 with fail
    generalize hW : (w.alloc (.cells #[.bool n, .slice A l.length c] 24)) = W
    have q0_0 : W.cell? ⟨w.heap.size, 0, none⟩ = some (.bool n) := by rw [← hW]; simp [go_sem]
    have q0_1 : W.cell? ⟨w.heap.size, 1, none⟩ = some (.slice A l.length c) := by rw [← hW]; simp [go_sem]
    have z0 : w.heap.size < W.heap.size := by rw [← hW]; first | (simp; done) | (simp; omega)
    have HW : Below w.heap.size w W := by rw [← hW]; exact (by repeat (first | (with_reducible assumption) | (with_reducible exact Below.refl _ _) | (with_reducible refine Below.alloc ?_ (by first | omega | (simp; omega) | (simp; done) | (dsimp only; omega)) _) | (with_reducible refine Below.setCell ?_ (by first | omega | (simp; omega) | (simp; done) | (dsimp only; omega)) _) | (with_reducible refine Below.drew ?_) | (with_reducible refine Below.trans ?_ (Below.mono (by assumption) (by first | omega | (simp; omega) | (simp; done) | (dsimp only; omega))))))
    clear hW
    have HR := Lib.hid (names_row l A c W hm hz (hr.mono HW))
    go_wp2_with fail
    go_at_call 29
    refine HR.out.mono ?_
    rintro e w1 ⟨⟨A1, rfl, er1, ez1, ef1⟩, hb1⟩
    obtain ⟨hc1, hf1⟩ := bcell hb1
    generalize (srt l).length = sl at *
    go_wp2
    go_ret2
    exact ⟨by rw [HE.out]; rfl, (by repeat (first | (with_reducible assumption) | (with_reducible exact Below.refl _ _) | (with_reducible refine Below.alloc ?_ (by first | omega | (simp; omega) | (simp; done) | (dsimp only; omega)) _) | (with_reducible refine Below.setCell ?_ (by first | omega | (simp; omega) | (simp; done) | (dsimp only; omega)) _) | (with_reducible refine Below.drew ?_) | (with_reducible refine Below.trans ?_ (Below.mono (by assumption) (by first | omega | (simp; omega) | (simp; done) | (dsimp only; omega))))))⟩

end Go.Proofs.Ytnbpdkcnldeljaa
