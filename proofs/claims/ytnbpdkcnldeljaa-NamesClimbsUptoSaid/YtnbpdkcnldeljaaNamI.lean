/- X-PARTIAL What small functions of layer 7 return. -/
import Derived.Test.YtnbpdkcnldeljaaNamH
namespace Go.Proofs.Ytnbpdkcnldeljaa
open Go.RowKit

theorem SetV.store {b m : Nat} {w : World} {A : Option Addr} {c : Nat} {n : Bool} {l : List Str} (h1 : l.length ≤ c) (h2 : c ≤ 9223372036854775807) (h3 : SRow w A l) (h4 : A = none → c = 0) (h5 : ∀ a, A = some a → b ≤ a.block ∧ a.spot = none) (hm : m < b) (u v : Value) :
    SetV b ((w.setCell ⟨m, 0, none⟩ u).setCell ⟨m, 1, none⟩ v) (.agg #[.bool n, .slice A l.length c]) n l :=
  ⟨A, c, rfl, h1, h2, (h3.setCell (fun a e => by have := (h5 a e).1; omega) u).setCell (fun a e => by have := (h5 a e).1; omega) v, h4, h5⟩

set_option maxHeartbeats 2000000 in
theorem names_Of (n : Bool) (l : List Str) (A : Option Addr) (c : Nat) (w : World) (hm : l.length * 16 ≤ 140737488355328) (hz : A = none → c = 0) (hr : SRow w A l) :
    Calls Try.prog 22 #[.bool n, .slice A l.length c] w fun e w' => (∃ v', e = .returned v' ∧ SetV (w.heap.size + 1) w' v' n (srt l)) ∧ Below w.heap.size w w' := by
  have hsl := srt_len_le l
  go_enter Try.func22, Try.ntmps22
  go_upto_region 1 with fail
  generalize hW : (w.alloc (.cells #[.bool false, .slice none 0 0] 24)) = W
  have q0_0 : W.cell? ⟨w.heap.size, 0, none⟩ = some (.bool false) := by rw [← hW]; simp [go_sem]
  have q0_1 : W.cell? ⟨w.heap.size, 1, none⟩ = some (.slice none 0 0) := by rw [← hW]; simp [go_sem]
  have f0 : ∀ o, W.frozen? ⟨w.heap.size, o, none⟩ = false := by intro o; rw [← hW]; simp [go_sem]
  have z0 : w.heap.size < W.heap.size := by rw [← hW]; first | (simp; done) | (simp; omega)
  have HW : Below w.heap.size w W := by rw [← hW]; exact (by repeat (first | (with_reducible assumption) | (with_reducible exact Below.refl _ _) | (with_reducible refine Below.alloc ?_ (by first | omega | (simp; omega) | (simp; done) | (dsimp only; omega)) _) | (with_reducible refine Below.setCell ?_ (by first | omega | (simp; omega) | (simp; done) | (dsimp only; omega)) _) | (with_reducible refine Below.drew ?_) | (with_reducible refine Below.trans ?_ (Below.mono (by assumption) (by first | omega | (simp; omega) | (simp; done) | (dsimp only; omega))))))
  clear hW
  have HR := Lib.hid (names_row l A c W hm hz (hr.mono HW))
  go_wp2_with (go_at_call 29; (with_reducible refine (HR.out).mono ?_); rintro e w1 ⟨⟨A1, rfl, er1, ez1, ef1⟩, hb1⟩; obtain ⟨hc1, hf1⟩ := bcell hb1; have hz1 := hb1.size; (try simp at hz1); (try have hy1 := Nat.lt_of_succ_le hz1); (try have hv1 := Nat.lt_of_succ_lt hy1); (try have hw10 : w.heap.size < w1.heap.size := by omega); (try have hw11 : w.heap.size + 1 < w1.heap.size := by omega); (try have hw12 : w.heap.size + 1 + 1 < w1.heap.size := by omega); (try have hw13 : w.heap.size + 1 + 1 + 1 < w1.heap.size := by omega))
  refine bodyPost_ret (by simp [results, Try.results22, go_sem, *] <;> rfl) rfl ⟨⟨_, rfl, ?_⟩, (by repeat (first | (with_reducible assumption) | (with_reducible exact Below.refl _ _) | (with_reducible refine Below.alloc ?_ (by first | omega | (simp; omega) | (simp; done) | (dsimp only; omega)) _) | (with_reducible refine Below.setCell ?_ (by first | omega | (simp; omega) | (simp; done) | (dsimp only; omega)) _) | (with_reducible refine Below.drew ?_) | (with_reducible refine Below.trans ?_ (Below.mono (by assumption) (by first | omega | (simp; omega) | (simp; done) | (dsimp only; omega))))))⟩
  exact SetV.store (Nat.le_refl _) (by omega) er1 ez1 (fun a e => ⟨by have := (ef1 a e).1; omega, (ef1 a e).2⟩) (by omega) _ _

set_option maxHeartbeats 2000000 in
theorem names_Clean (n : Bool) (l : List Str) (A : Option Addr) (c : Nat) (w : World) (hm : l.length * 16 ≤ 140737488355328) (hz : A = none → c = 0) (hr : SRow w A l) :
    Calls Try.prog 21 #[.agg #[.bool n, .slice A l.length c]] w fun e w' => (∃ v', e = .returned v' ∧ SetV (w.heap.size + 2) w' v' n (srt l)) ∧ Below w.heap.size w w' := by
  go_enter Try.func21, Try.ntmps21
  go_upto_region 1 with fail
  generalize hW : ((w.alloc (.cells #[.bool n, .slice A l.length c] 24)).alloc (.cells #[.bool false, .slice none 0 0] 24)) = W
  have q0_0 : W.cell? ⟨w.heap.size, 0, none⟩ = some (.bool n) := by rw [← hW]; simp [go_sem]
  have q0_1 : W.cell? ⟨w.heap.size, 1, none⟩ = some (.slice A l.length c) := by rw [← hW]; simp [go_sem]
  have q1_0 : W.cell? ⟨w.heap.size + 1, 0, none⟩ = some (.bool false) := by rw [← hW]; simp [go_sem]
  have q1_1 : W.cell? ⟨w.heap.size + 1, 1, none⟩ = some (.slice none 0 0) := by rw [← hW]; simp [go_sem]
  have f0 : ∀ o, W.frozen? ⟨w.heap.size, o, none⟩ = false := by intro o; rw [← hW]; simp [go_sem]
  have f1 : ∀ o, W.frozen? ⟨w.heap.size + 1, o, none⟩ = false := by intro o; rw [← hW]; simp [go_sem]
  have z0 : w.heap.size < W.heap.size := by rw [← hW]; first | (simp; done) | (simp; omega)
  have z1 : w.heap.size + 1 < W.heap.size := by rw [← hW]; first | (simp; done) | (simp; omega)
  have HW : Below w.heap.size w W := by rw [← hW]; exact (by repeat (first | (with_reducible assumption) | (with_reducible exact Below.refl _ _) | (with_reducible refine Below.alloc ?_ (by first | omega | (simp; omega) | (simp; done) | (dsimp only; omega)) _) | (with_reducible refine Below.setCell ?_ (by first | omega | (simp; omega) | (simp; done) | (dsimp only; omega)) _) | (with_reducible refine Below.drew ?_) | (with_reducible refine Below.trans ?_ (Below.mono (by assumption) (by first | omega | (simp; omega) | (simp; done) | (dsimp only; omega))))))
  clear hW
  have HR := Lib.hid (names_Of n l A c W hm hz (hr.mono HW))
  go_wp2_with (go_at_call 22; refine HR.out.mono ?_; rintro e w1 ⟨⟨v1, rfl, ⟨A1, c1, rfl, k1, k2, k3, k4, k5⟩⟩, hb1⟩; obtain ⟨hc1, hf1⟩ := bcell hb1; have hz1 := hb1.size; (try simp at hz1); (try have hy1 := Nat.lt_of_succ_le hz1); (try have hv1 := Nat.lt_of_succ_lt hy1); (try have hw10 : w.heap.size < w1.heap.size := by omega); (try have hw11 : w.heap.size + 1 < w1.heap.size := by omega); (try have hw12 : w.heap.size + 1 + 1 < w1.heap.size := by omega); (try have hw13 : w.heap.size + 1 + 1 + 1 < w1.heap.size := by omega))
  refine bodyPost_ret (by simp [results, Try.results21, go_sem, *] <;> rfl) rfl ⟨⟨_, rfl, ?_⟩, (by repeat (first | (with_reducible assumption) | (with_reducible exact Below.refl _ _) | (with_reducible refine Below.alloc ?_ (by first | omega | (simp; omega) | (simp; done) | (dsimp only; omega)) _) | (with_reducible refine Below.setCell ?_ (by first | omega | (simp; omega) | (simp; done) | (dsimp only; omega)) _) | (with_reducible refine Below.drew ?_) | (with_reducible refine Below.trans ?_ (Below.mono (by assumption) (by first | omega | (simp; omega) | (simp; done) | (dsimp only; omega))))))⟩
  exact SetV.store k1 k2 k3 k4 (fun a e => ⟨by have := (k5 a e).1; omega, (k5 a e).2⟩) (by omega) _ _

set_option maxHeartbeats 2000000 in
theorem names_None (n : Bool) (l : List Str) (A : Option Addr) (c : Nat) (w : World) (_hm : l.length ≤ 9223372036854775807) :
    Calls Try.prog 9 #[.agg #[.bool n, .slice A l.length c]] w fun e w' => e = .returned (.bool (!n && l.length == 0)) ∧ Below w.heap.size w w' := by
  cases n <;> cases h : l.length == 0
  all_goals
    have h' : ((l.length : Int) == 0) = (l.length == 0) := by rw [Bool.eq_iff_iff]; simp
    rw [h] at h'
    go_enter Try.func9, Try.ntmps9
    go_wp2
    go_ret
    exact ⟨rfl, (by repeat (first | (with_reducible assumption) | (with_reducible exact Below.refl _ _) | (with_reducible refine Below.alloc ?_ (by first | omega | (simp; omega) | (simp; done) | (dsimp only; omega)) _) | (with_reducible refine Below.setCell ?_ (by first | omega | (simp; omega) | (simp; done) | (dsimp only; omega)) _) | (with_reducible refine Below.drew ?_) | (with_reducible refine Below.trans ?_ (Below.mono (by assumption) (by first | omega | (simp; omega) | (simp; done) | (dsimp only; omega))))))⟩

set_option maxHeartbeats 2000000 in
theorem names_Has (n : Bool) (l : List Str) (A : Option Addr) (c : Nat) (x : Str) (w : World) (hm : l.length ≤ 9223372036854775807) (hr : SRow w A l) :
    Calls Try.prog 7 #[.agg #[.bool n, .slice A l.length c], encStr x] w fun e w' => e = .returned (.bool (if x == [] then n else hasL l x)) ∧ Below w.heap.size w w' := by
  cases hx : x == []
  · go_enter Try.func7, Try.ntmps7
    go_upto_region 1 with fail
    generalize hW : (w.alloc (.cells #[.bool n, .slice A l.length c] 24)) = W
    have q0_0 : W.cell? ⟨w.heap.size, 0, none⟩ = some (.bool n) := by rw [← hW]; simp [go_sem]
    have q0_1 : W.cell? ⟨w.heap.size, 1, none⟩ = some (.slice A l.length c) := by rw [← hW]; simp [go_sem]
    have z0 : w.heap.size < W.heap.size := by rw [← hW]; first | (simp; done) | (simp; omega)
    have HW : Below w.heap.size w W := by rw [← hW]; exact (by repeat (first | (with_reducible assumption) | (with_reducible exact Below.refl _ _) | (with_reducible refine Below.alloc ?_ (by first | omega | (simp; omega) | (simp; done) | (dsimp only; omega)) _) | (with_reducible refine Below.setCell ?_ (by first | omega | (simp; omega) | (simp; done) | (dsimp only; omega)) _) | (with_reducible refine Below.drew ?_) | (with_reducible refine Below.trans ?_ (Below.mono (by assumption) (by first | omega | (simp; omega) | (simp; done) | (dsimp only; omega))))))
    clear hW
    have HL := Lib.hid (fun w' h => names_listed n l A c x w' hm (hr.mono h))
    go_wp2_with (go_at_call 27; (with_reducible refine (HL.out _ HW).mono ?_); rintro e w1 ⟨rfl, hb1⟩; obtain ⟨hc1, hf1⟩ := bcell hb1; have hz1 := hb1.size; (try simp at hz1); (try have hy1 := Nat.lt_of_succ_le hz1); (try have hv1 := Nat.lt_of_succ_lt hy1); (try have hw10 : w.heap.size < w1.heap.size := by omega); (try have hw11 : w.heap.size + 1 < w1.heap.size := by omega); (try have hw12 : w.heap.size + 1 + 1 < w1.heap.size := by omega); (try have hw13 : w.heap.size + 1 + 1 + 1 < w1.heap.size := by omega))
    go_ret
    exact ⟨rfl, (by repeat (first | (with_reducible assumption) | (with_reducible exact Below.refl _ _) | (with_reducible refine Below.alloc ?_ (by first | omega | (simp; omega) | (simp; done) | (dsimp only; omega)) _) | (with_reducible refine Below.setCell ?_ (by first | omega | (simp; omega) | (simp; done) | (dsimp only; omega)) _) | (with_reducible refine Below.drew ?_) | (with_reducible refine Below.trans ?_ (Below.mono (by assumption) (by first | omega | (simp; omega) | (simp; done) | (dsimp only; omega))))))⟩
  · go_enter Try.func7, Try.ntmps7
    go_wp2
    go_ret
    exact ⟨rfl, (by repeat (first | (with_reducible assumption) | (with_reducible exact Below.refl _ _) | (with_reducible refine Below.alloc ?_ (by first | omega | (simp; omega) | (simp; done) | (dsimp only; omega)) _) | (with_reducible refine Below.setCell ?_ (by first | omega | (simp; omega) | (simp; done) | (dsimp only; omega)) _) | (with_reducible refine Below.drew ?_) | (with_reducible refine Below.trans ?_ (Below.mono (by assumption) (by first | omega | (simp; omega) | (simp; done) | (dsimp only; omega))))))⟩

set_option maxHeartbeats 2000000 in
theorem r7_Has (n : Bool) (l : List Str) (A : Option Addr) (c : Nat) (x : Str) (w : World) (hm : l.length ≤ 9223372036854775807) (hr : SRow w A l) :
    Calls Try.prog 8 #[.agg #[.bool n, .slice A l.length c], encStr x] w fun e w' => e = .returned (.bool (if x == [] then n else hasL l x)) ∧ Below w.heap.size w w' := by
  cases hx : x == []
  · go_enter Try.func8, Try.ntmps8
    go_upto_region 1 with fail
    generalize hW : (w.alloc (.cells #[.bool n, .slice A l.length c] 24)) = W
    have q0_0 : W.cell? ⟨w.heap.size, 0, none⟩ = some (.bool n) := by rw [← hW]; simp [go_sem]
    have q0_1 : W.cell? ⟨w.heap.size, 1, none⟩ = some (.slice A l.length c) := by rw [← hW]; simp [go_sem]
    have z0 : w.heap.size < W.heap.size := by rw [← hW]; first | (simp; done) | (simp; omega)
    have HW : Below w.heap.size w W := by rw [← hW]; exact (by repeat (first | (with_reducible assumption) | (with_reducible exact Below.refl _ _) | (with_reducible refine Below.alloc ?_ (by first | omega | (simp; omega) | (simp; done) | (dsimp only; omega)) _) | (with_reducible refine Below.setCell ?_ (by first | omega | (simp; omega) | (simp; done) | (dsimp only; omega)) _) | (with_reducible refine Below.drew ?_) | (with_reducible refine Below.trans ?_ (Below.mono (by assumption) (by first | omega | (simp; omega) | (simp; done) | (dsimp only; omega))))))
    clear hW
    have HL := Lib.hid (r7_In l A c x W hm (hr.mono HW))
    go_wp2_with (go_at_call 28; refine HL.out.mono ?_; rintro e w1 ⟨rfl, rfl⟩)
    go_ret
    exact ⟨rfl, (by repeat (first | (with_reducible assumption) | (with_reducible exact Below.refl _ _) | (with_reducible refine Below.alloc ?_ (by first | omega | (simp; omega) | (simp; done) | (dsimp only; omega)) _) | (with_reducible refine Below.setCell ?_ (by first | omega | (simp; omega) | (simp; done) | (dsimp only; omega)) _) | (with_reducible refine Below.drew ?_) | (with_reducible refine Below.trans ?_ (Below.mono (by assumption) (by first | omega | (simp; omega) | (simp; done) | (dsimp only; omega))))))⟩
  · go_enter Try.func8, Try.ntmps8
    go_wp2
    go_ret
    exact ⟨rfl, (by repeat (first | (with_reducible assumption) | (with_reducible exact Below.refl _ _) | (with_reducible refine Below.alloc ?_ (by first | omega | (simp; omega) | (simp; done) | (dsimp only; omega)) _) | (with_reducible refine Below.setCell ?_ (by first | omega | (simp; omega) | (simp; done) | (dsimp only; omega)) _) | (with_reducible refine Below.drew ?_) | (with_reducible refine Below.trans ?_ (Below.mono (by assumption) (by first | omega | (simp; omega) | (simp; done) | (dsimp only; omega))))))⟩

def lenS (n : Bool) (l : List Str) : Int := (srt l).length + (if n then 1 else 0)

set_option maxHeartbeats 2000000 in
theorem names_Len (n : Bool) (l : List Str) (A : Option Addr) (c : Nat) (w : World) (hm : l.length * 16 ≤ 140737488355328) (hz : A = none → c = 0) (hr : SRow w A l) :
    Calls Try.prog 11 #[.agg #[.bool n, .slice A l.length c]] w fun e w' => e = .returned (.int .i64 (lenS n l)) ∧ Below w.heap.size w w' := by
  have hsl := srt_len_le l
  have E : lenS n l = (srt l).length + (if n then 1 else 0) := rfl
  have HE := Lib.hid E
  clear E
  generalize lenS n l = r at *
  cases n
  · go_enter Try.func11, Try.ntmps11
    go_upto_region 1 with fail
    generalize hW : (w.alloc (.cells #[.bool false, .slice A l.length c] 24)) = W
    have q0_0 : W.cell? ⟨w.heap.size, 0, none⟩ = some (.bool false) := by rw [← hW]; simp [go_sem]
    have q0_1 : W.cell? ⟨w.heap.size, 1, none⟩ = some (.slice A l.length c) := by rw [← hW]; simp [go_sem]
    have z0 : w.heap.size < W.heap.size := by rw [← hW]; first | (simp; done) | (simp; omega)
    have HW : Below w.heap.size w W := by rw [← hW]; exact (by repeat (first | (with_reducible assumption) | (with_reducible exact Below.refl _ _) | (with_reducible refine Below.alloc ?_ (by first | omega | (simp; omega) | (simp; done) | (dsimp only; omega)) _) | (with_reducible refine Below.setCell ?_ (by first | omega | (simp; omega) | (simp; done) | (dsimp only; omega)) _) | (with_reducible refine Below.drew ?_) | (with_reducible refine Below.trans ?_ (Below.mono (by assumption) (by first | omega | (simp; omega) | (simp; done) | (dsimp only; omega))))))
    clear hW
    have HR := Lib.hid (names_row l A c W hm hz (hr.mono HW))
    generalize (srt l).length = sl at *
    go_wp2_with (go_at_call 29; (with_reducible refine (HR.out).mono ?_); rintro e w1 ⟨⟨A1, rfl, er1, ez1, ef1⟩, hb1⟩; obtain ⟨hc1, hf1⟩ := bcell hb1; have hz1 := hb1.size; (try simp at hz1); (try have hy1 := Nat.lt_of_succ_le hz1); (try have hv1 := Nat.lt_of_succ_lt hy1); (try have hw10 : w.heap.size < w1.heap.size := by omega); (try have hw11 : w.heap.size + 1 < w1.heap.size := by omega); (try have hw12 : w.heap.size + 1 + 1 < w1.heap.size := by omega); (try have hw13 : w.heap.size + 1 + 1 + 1 < w1.heap.size := by omega))
    go_ret
    exact ⟨ret_int (by rw [HE.out]; simp <;> go_num), (by repeat (first | (with_reducible assumption) | (with_reducible exact Below.refl _ _) | (with_reducible refine Below.alloc ?_ (by first | omega | (simp; omega) | (simp; done) | (dsimp only; omega)) _) | (with_reducible refine Below.setCell ?_ (by first | omega | (simp; omega) | (simp; done) | (dsimp only; omega)) _) | (with_reducible refine Below.drew ?_) | (with_reducible refine Below.trans ?_ (Below.mono (by assumption) (by first | omega | (simp; omega) | (simp; done) | (dsimp only; omega))))))⟩
  · go_enter Try.func11, Try.ntmps11
    go_upto_region 1 with fail
    generalize hW : (w.alloc (.cells #[.bool true, .slice A l.length c] 24)) = W
    have q0_0 : W.cell? ⟨w.heap.size, 0, none⟩ = some (.bool true) := by rw [← hW]; simp [go_sem]
    have q0_1 : W.cell? ⟨w.heap.size, 1, none⟩ = some (.slice A l.length c) := by rw [← hW]; simp [go_sem]
    have z0 : w.heap.size < W.heap.size := by rw [← hW]; first | (simp; done) | (simp; omega)
    have HW : Below w.heap.size w W := by rw [← hW]; exact (by repeat (first | (with_reducible assumption) | (with_reducible exact Below.refl _ _) | (with_reducible refine Below.alloc ?_ (by first | omega | (simp; omega) | (simp; done) | (dsimp only; omega)) _) | (with_reducible refine Below.setCell ?_ (by first | omega | (simp; omega) | (simp; done) | (dsimp only; omega)) _) | (with_reducible refine Below.drew ?_) | (with_reducible refine Below.trans ?_ (Below.mono (by assumption) (by first | omega | (simp; omega) | (simp; done) | (dsimp only; omega))))))
    clear hW
    have HR := Lib.hid (names_row l A c W hm hz (hr.mono HW))
    generalize (srt l).length = sl at *
    go_wp2_with (go_at_call 29; (with_reducible refine (HR.out).mono ?_); rintro e w1 ⟨⟨A1, rfl, er1, ez1, ef1⟩, hb1⟩; obtain ⟨hc1, hf1⟩ := bcell hb1; have hz1 := hb1.size; (try simp at hz1); (try have hy1 := Nat.lt_of_succ_le hz1); (try have hv1 := Nat.lt_of_succ_lt hy1); (try have hw10 : w.heap.size < w1.heap.size := by omega); (try have hw11 : w.heap.size + 1 < w1.heap.size := by omega); (try have hw12 : w.heap.size + 1 + 1 < w1.heap.size := by omega); (try have hw13 : w.heap.size + 1 + 1 + 1 < w1.heap.size := by omega))
    go_ret
    exact ⟨ret_int (by rw [HE.out]; simp <;> go_num), (by repeat (first | (with_reducible assumption) | (with_reducible exact Below.refl _ _) | (with_reducible refine Below.alloc ?_ (by first | omega | (simp; omega) | (simp; done) | (dsimp only; omega)) _) | (with_reducible refine Below.setCell ?_ (by first | omega | (simp; omega) | (simp; done) | (dsimp only; omega)) _) | (with_reducible refine Below.drew ?_) | (with_reducible refine Below.trans ?_ (Below.mono (by assumption) (by first | omega | (simp; omega) | (simp; done) | (dsimp only; omega))))))⟩

end Go.Proofs.Ytnbpdkcnldeljaa
