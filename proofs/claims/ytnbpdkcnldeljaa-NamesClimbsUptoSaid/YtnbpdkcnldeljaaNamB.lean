/- X-PARTIAL Slices of strings that read as lists; looking a string up in one: layer 7. -/
import Derived.Test.YtnbpdkcnldeljaaRow
import Derived.Test.YtnbpdkcnldeljaaNamA
import Derived.Test.YtnbpdkcnldeljaaKit
import Derived.Test.YtnbpdkcnldeljaaSeqg
import Derived.Sort.EncStr
import Derived.Sort.Walk0
import Derived.LoopTactic
import Derived.Test.YtnbpdkcnldeljaaRows
import Derived.Deep.RegionHeld3
import Derived.StillTactics
import Derived.Laws.Pointers
import Derived.Laws.Strings
import Derived.Laws.Cover1
import Derived.Deep.DeepCutAuto
import Derived.RegionTactic
import Derived.ChangeAlike
import Derived.IntWalk
namespace Go.Proofs.Ytnbpdkcnldeljaa
open Go.RowKit


/-- A slice of strings. -/
def SRow (w : World) (A : Option Addr) (l : List Str) : Prop := Row w A (l.map encStr)

theorem SRow.cell {w : World} {A : Option Addr} {l : List Str} (h : SRow w A l) {k : Nat} (hk : k < l.length) :
    ∃ b o : Nat, A = some ⟨b, o, none⟩ ∧ w.cell? ⟨b, o + k, none⟩ = some (encStr l[k]) ∧ b < w.heap.size := by
  obtain ⟨b, o, e, h1, h2⟩ := Row.cell h (k := k) (by simpa using hk)
  exact ⟨b, o, e, by have := h1 k (by simpa using hk); simpa using this, h2⟩

theorem SRow.mono {w w' : World} {A : Option Addr} {l : List Str} (h : SRow w A l) (hb : Below w.heap.size w w') : SRow w' A l := Row.mono h hb

def hasL (l : List Str) (x : Str) : Bool := l.any (· == x)

theorem hasL_take (l : List Str) (x : Str) (k : Nat) (h : k < l.length) : hasL (l.take (k + 1)) x = (hasL (l.take k) x || (l[k] == x)) := by
  unfold hasL
  rw [take_snoc' l k h, List.any_append]
  simp

theorem hasL_hit {l : List Str} {x : Str} {k : Nat} (h : k < l.length) (he : (l[k] == x) = true) : hasL l x = true := by
  unfold hasL
  rw [List.any_eq_true]
  exact ⟨l[k], List.getElem_mem h, he⟩

theorem hasL_iff (l : List Str) (x : Str) : hasL l x = true ↔ x ∈ l := by
  unfold hasL
  rw [List.any_eq_true]
  constructor
  · rintro ⟨y, hy, h⟩; rw [beq_iff_eq] at h; subst h; exact hy
  · intro h; exact ⟨x, h, by simp⟩

def LisRel (l : List Str) (x : Str) (i : Value) : Prop := ∃ k : Nat, k ≤ l.length ∧ i = .int .i64 k ∧ hasL (l.take k) x = false

set_option maxHeartbeats 1000000 in
theorem names_listed (s : Bool) (l : List Str) (A : Option Addr) (c : Nat) (x : Str) (w : World) (hm : l.length ≤ 9223372036854775807) (hr : SRow w A l) :
    Calls Try.prog 27 #[.agg #[.bool s, .slice A l.length c], encStr x] w fun e w' => e = .returned (.bool (hasL l x)) ∧ Below w.heap.size w w' := by
  go_enter Try.func27, Try.ntmps27
  go_upto_region 1 with fail
  generalize hW : (w.alloc (.cells #[.bool s, .slice A l.length c] 24)) = W
  have q0_0 : W.cell? ⟨w.heap.size, 0, none⟩ = some (.bool s) := by rw [← hW]; simp [go_sem]
  have q0_1 : W.cell? ⟨w.heap.size, 1, none⟩ = some (.slice A l.length c) := by rw [← hW]; simp [go_sem]
  have z0 : w.heap.size < W.heap.size := by rw [← hW]; first | (simp; done) | (simp; omega)
  have HW : Below w.heap.size w W := by rw [← hW]; exact (by repeat (first | (with_reducible assumption) | (with_reducible exact Below.refl _ _) | (with_reducible refine Below.alloc ?_ (by first | omega | (simp; omega) | (simp; done) | (dsimp only; omega)) _) | (with_reducible refine Below.setCell ?_ (by first | omega | (simp; omega) | (simp; done) | (dsimp only; omega)) _) | (with_reducible refine Below.drew ?_) | (with_reducible refine Below.trans ?_ (Below.mono (by assumption) (by first | omega | (simp; omega) | (simp; done) | (dsimp only; omega))))))
  clear hW
  have hrW := hr.mono HW
  go_wp2
  go_loop [6, 10] (fun _ i => LisRel l x i) (fun _ i => l.length - (intOf i).toNat)
  case atStart => exact ⟨0, Nat.zero_le _, rfl, rfl⟩
  case round =>
    obtain ⟨k, hk, rfl, hno⟩ := hrel
    by_cases hlt : k < l.length
    · obtain ⟨b, o, rfl, hc, _⟩ := hrW.cell hlt
      have hs := hasL_take l x k hlt
      rw [hno, Bool.false_or] at hs
      cases h1 : l[k] == x
      · rw [h1] at hs
        have HS := Lib.hid hs
        clear hs
        generalize l[k] = y at *
        go_wp2
        go_round
        case rel => exact ⟨k + 1, by omega, by go_num, HS.out⟩
        case measure => simp [intOf]; omega
      · have HT := Lib.hid (hasL_hit hlt h1)
        clear hs
        generalize l[k] = y at *
        go_wp2
        go_ret
        exact ⟨ret_bool HT.out.symm, HW⟩
    · have HT := Lib.hid (show hasL l x = false by rw [← hno, List.take_of_length_le (by omega)])
      go_wp2
      go_ret
      exact ⟨ret_bool HT.out.symm, HW⟩

set_option maxHeartbeats 1000000 in
theorem r7_In (l : List Str) (A : Option Addr) (c : Nat) (x : Str) (w : World) (hm : l.length ≤ 9223372036854775807) (hr : SRow w A l) :
    Calls Try.prog 28 #[.slice A l.length c, encStr x] w fun e w' => e = .returned (.bool (hasL l x)) ∧ w = w' := by
  go_enter Try.func28, Try.ntmps28
  go_wp2
  go_loop [5] (fun i => LisRel l x i) (fun i => l.length - (intOf i).toNat)
  case atStart => exact ⟨0, Nat.zero_le _, rfl, rfl⟩
  case round =>
    obtain ⟨k, hk, rfl, hno⟩ := hrel
    by_cases hlt : k < l.length
    · obtain ⟨b, o, rfl, hc, _⟩ := hr.cell hlt
      have hs := hasL_take l x k hlt
      rw [hno, Bool.false_or] at hs
      cases h1 : l[k] == x
      · rw [h1] at hs
        have HS := Lib.hid hs
        clear hs
        generalize l[k] = y at *
        go_wp2
        go_round
        case rel => exact ⟨k + 1, by omega, by go_num, HS.out⟩
        case measure => simp [intOf]; omega
      · have HT := Lib.hid (hasL_hit hlt h1)
        clear hs
        generalize l[k] = y at *
        go_wp2
        go_ret
        exact ⟨ret_bool HT.out.symm, rfl⟩
    · have HT := Lib.hid (show hasL l x = false by rw [← hno, List.take_of_length_le (by omega)])
      go_wp2
      go_ret
      exact ⟨ret_bool HT.out.symm, rfl⟩

end Go.Proofs.Ytnbpdkcnldeljaa
