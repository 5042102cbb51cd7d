/- X-PARTIAL Words, letters, digits, names: layer 10. Made by gentok.py. -/
import Derived.Test.YtfammopenanapaaDoorTokC
import Derived.Test.YtfammopenanapaaDoorNamB
import Derived.Test.YtfammopenanapaaDoorAlloc
namespace Go.Proofs.YtfammopenanapaaDoor
open Go.RowKit Go.Lib

theorem kind_is2 (r : Int) : (kindOf r == 2) = ((decide (97 ≤ r) && decide (r ≤ 122)) || (decide (65 ≤ r) && decide (r ≤ 90)) || (r == 95)) := by
  rw [Bool.eq_iff_iff]
  simp only [Bool.or_eq_true, Bool.and_eq_true, decide_eq_true_eq, beq_iff_eq]
  unfold kindOf
  by_cases hA : r = 32 ∨ r = 9 ∨ r = 10 ∨ r = 13
  · rw [if_pos hA]; omega
  · rw [if_neg hA]
    by_cases hB : 97 ≤ r ∧ r ≤ 122 ∨ 65 ≤ r ∧ r ≤ 90 ∨ r = 95
    · rw [if_pos hB]; omega
    · rw [if_neg hB]
      split
      · omega
      · split <;> omega

theorem kind_is3 (r : Int) : (kindOf r == 3) = (decide (48 ≤ r) && decide (r ≤ 57)) := by
  rw [Bool.eq_iff_iff]
  simp only [Bool.and_eq_true, decide_eq_true_eq, beq_iff_eq]
  unfold kindOf
  by_cases hA : r = 32 ∨ r = 9 ∨ r = 10 ∨ r = 13
  · rw [if_pos hA]; omega
  · rw [if_neg hA]
    by_cases hB : 97 ≤ r ∧ r ≤ 122 ∨ 65 ≤ r ∧ r ≤ 90 ∨ r = 95
    · rw [if_pos hB]; omega
    · rw [if_neg hB]
      by_cases hC : 48 ≤ r ∧ r ≤ 57
      · rw [if_pos hC]; omega
      · rw [if_neg hC]
        split <;> omega

theorem kind_is1 (r : Int) : (kindOf r == 1) = ((r == 32) || (r == 9) || (r == 10) || (r == 13)) := by
  rw [Bool.eq_iff_iff]
  simp only [Bool.or_eq_true, beq_iff_eq, or_assoc]
  unfold kindOf
  by_cases hA : r = 32 ∨ r = 9 ∨ r = 10 ∨ r = 13
  · rw [if_pos hA]; simp [hA]
  · rw [if_neg hA]
    refine ⟨fun h => ?_, fun h => absurd h hA⟩
    split at h
    · omega
    · split at h
      · omega
      · split at h <;> omega

theorem r10_letter (r : Int) (w : World) :
    Calls Tryd.prog 27 #[.int .u8 r] w fun e w' => e = .returned (.bool (kindOf r == 2)) ∧ w = w' := by
  rw [kind_is2]
  generalize h1 : decide (97 ≤ r) = c1
  generalize h2 : decide (r ≤ 122) = c2
  generalize h3 : decide (65 ≤ r) = c3
  generalize h4 : decide (r ≤ 90) = c4
  generalize h5 : (r == 95) = c5
  cases c1
  · cases c3
    · cases c5
      · go_enter Tryd.func27, Tryd.ntmps27
        go_wp2
        go_ret
        exact ⟨rfl, rfl⟩
      · go_enter Tryd.func27, Tryd.ntmps27
        go_wp2
        go_ret
        exact ⟨rfl, rfl⟩
    · cases c4
      · cases c5
        · go_enter Tryd.func27, Tryd.ntmps27
          go_wp2
          go_ret
          exact ⟨rfl, rfl⟩
        · go_enter Tryd.func27, Tryd.ntmps27
          go_wp2
          go_ret
          exact ⟨rfl, rfl⟩
      · go_enter Tryd.func27, Tryd.ntmps27
        go_wp2
        go_ret
        exact ⟨rfl, rfl⟩
  · cases c2
    · cases c3
      · cases c5
        · go_enter Tryd.func27, Tryd.ntmps27
          go_wp2
          go_ret
          exact ⟨rfl, rfl⟩
        · go_enter Tryd.func27, Tryd.ntmps27
          go_wp2
          go_ret
          exact ⟨rfl, rfl⟩
      · cases c4
        · cases c5
          · go_enter Tryd.func27, Tryd.ntmps27
            go_wp2
            go_ret
            exact ⟨rfl, rfl⟩
          · go_enter Tryd.func27, Tryd.ntmps27
            go_wp2
            go_ret
            exact ⟨rfl, rfl⟩
        · go_enter Tryd.func27, Tryd.ntmps27
          go_wp2
          go_ret
          exact ⟨rfl, rfl⟩
    · go_enter Tryd.func27, Tryd.ntmps27
      go_wp2
      go_ret
      exact ⟨rfl, rfl⟩

theorem r10_digit (r : Int) (w : World) :
    Calls Tryd.prog 25 #[.int .u8 r] w fun e w' => e = .returned (.bool (kindOf r == 3)) ∧ w = w' := by
  rw [kind_is3]
  generalize h1 : decide (48 ≤ r) = c1
  generalize h2 : decide (r ≤ 57) = c2
  cases c1
  · go_enter Tryd.func25, Tryd.ntmps25
    go_wp2
    go_ret
    exact ⟨rfl, rfl⟩
  · cases c2
    · go_enter Tryd.func25, Tryd.ntmps25
      go_wp2
      go_ret
      exact ⟨rfl, rfl⟩
    · go_enter Tryd.func25, Tryd.ntmps25
      go_wp2
      go_ret
      exact ⟨rfl, rfl⟩

def words : List Str := [[97, 115, 115, 101, 114, 116], [101, 108, 115, 101], [105, 102], [105, 110, 112, 117, 116], [105, 110, 116], [110, 117, 108, 108], [114, 101, 116, 117, 114, 110], [119, 104, 105, 108, 101]]
def isWord (l : Str) : Bool := hasL words l
theorem isWord_is (l : Str) : isWord l = (l == [105, 110, 116] || l == [105, 102] || l == [101, 108, 115, 101] || l == [119, 104, 105, 108, 101] || l == [114, 101, 116, 117, 114, 110] || l == [97, 115, 115, 101, 114, 116] || l == [105, 110, 112, 117, 116] || l == [110, 117, 108, 108]) := by
  unfold isWord hasL words
  simp only [List.any_cons, List.any_nil, Bool.or_false]
  rw [Bool.eq_iff_iff]
  simp only [Bool.or_eq_true, beq_iff_eq, or_assoc]
  constructor
  · rintro (h | h | h | h | h | h | h | h) <;> (subst h; decide)
  · rintro (h | h | h | h | h | h | h | h) <;> (subst h; decide)

theorem token_Word (l : Str) (w : World) :
    Calls Tryd.prog 48 #[encStr l] w fun e w' => e = .returned (.bool (isWord l)) ∧ w = w' := by
  rw [isWord_is]
  generalize h1 : (l == [105, 110, 116]) = c1
  generalize h2 : (l == [105, 102]) = c2
  generalize h3 : (l == [101, 108, 115, 101]) = c3
  generalize h4 : (l == [119, 104, 105, 108, 101]) = c4
  generalize h5 : (l == [114, 101, 116, 117, 114, 110]) = c5
  generalize h6 : (l == [97, 115, 115, 101, 114, 116]) = c6
  generalize h7 : (l == [105, 110, 112, 117, 116]) = c7
  generalize h8 : (l == [110, 117, 108, 108]) = c8
  cases c1
  · cases c2
    · cases c3
      · cases c4
        · cases c5
          · cases c6
            · cases c7
              · cases c8
                · go_enter Tryd.func48, Tryd.ntmps48
                  go_wp2
                  go_ret
                  exact ⟨rfl, rfl⟩
                · go_enter Tryd.func48, Tryd.ntmps48
                  go_wp2
                  go_ret
                  exact ⟨rfl, rfl⟩
              · go_enter Tryd.func48, Tryd.ntmps48
                go_wp2
                go_ret
                exact ⟨rfl, rfl⟩
            · go_enter Tryd.func48, Tryd.ntmps48
              go_wp2
              go_ret
              exact ⟨rfl, rfl⟩
          · go_enter Tryd.func48, Tryd.ntmps48
            go_wp2
            go_ret
            exact ⟨rfl, rfl⟩
        · go_enter Tryd.func48, Tryd.ntmps48
          go_wp2
          go_ret
          exact ⟨rfl, rfl⟩
      · go_enter Tryd.func48, Tryd.ntmps48
        go_wp2
        go_ret
        exact ⟨rfl, rfl⟩
    · go_enter Tryd.func48, Tryd.ntmps48
      go_wp2
      go_ret
      exact ⟨rfl, rfl⟩
  · go_enter Tryd.func48, Tryd.ntmps48
    go_wp2
    go_ret
    exact ⟨rfl, rfl⟩

set_option maxHeartbeats 1000000 in
theorem r10_in (l : List Str) (A : Option Addr) (c : Nat) (x : Str) (w : World) (hm : l.length ≤ 9223372036854775807) (hr : SRow w A l) :
    Calls Tryd.prog 35 #[.slice A l.length c, encStr x] w fun e w' => e = .returned (.bool (hasL l x)) ∧ w = w' := by
  go_enter Tryd.func35, Tryd.ntmps35
  go_wp2
  go_loop [5] (fun i => LisRel l x i) (fun i => l.length - (RowKit.intOf i).toNat)
  case atStart => exact ⟨0, Nat.zero_le _, rfl, rfl⟩
  case round =>
    obtain ⟨k, hk, rfl, hno⟩ := hrel
    by_cases hlt : k < l.length
    · obtain ⟨b, o, rfl, hc, _⟩ := hr.cell hlt
      have hs := hasL_take l x k hlt
      rw [hno, Bool.false_or] at hs
      cases h1 : l[k] == x
      · rw [h1] at hs
        have HS := Lib.hid hs
        clear hs
        generalize l[k] = y at *
        go_wp2
        go_round
        case rel => exact ⟨k + 1, by omega, by go_num, HS.out⟩
        case measure => simp [RowKit.intOf]; omega
      · have HT := Lib.hid (hasL_hit hlt h1)
        clear hs
        generalize l[k] = y at *
        go_wp2
        go_ret
        exact ⟨ret_bool HT.out.symm, rfl⟩
    · have HT := Lib.hid (show hasL l x = false by rw [← hno, List.take_of_length_le (by omega)])
      go_wp2
      go_ret
      exact ⟨ret_bool HT.out.symm, rfl⟩

theorem row_new (w : World) (L : List Value) (t : TypeId) : Row (w.alloc (.cells L.toArray t)) (some ⟨w.heap.size, 0, none⟩) L := by
  intro i hi
  have e := blk_cell (al_new w (.cells L.toArray t) rfl) i
  have ea : (⟨w.heap.size, 0, none⟩ : Addr).add i = ⟨w.heap.size, i, none⟩ := by
    unfold Addr.add
    split
    · simp_all
    · simp
  rw [ea, e]
  simp [hi]

set_option maxHeartbeats 1000000 in
theorem r10_Word (l : Str) (w : World) :
    Calls Tryd.prog 26 #[encStr l] w fun e w' => e = .returned (.bool (isWord l)) ∧ Below w.heap.size w w' := by
  have HB := Lib.hid (r10_in words)
  go_enter Tryd.func26, Tryd.ntmps26
  go_upto_region 1 with fail
  go_wp2_with fail
  go_at_call 35
  refine (HB.out (some ⟨w.heap.size, 0, none⟩) 8 l _ (by decide) (row_new w (words.map encStr) _)).mono ?_
  rintro e w1 ⟨rfl, rfl⟩
  go_wp2
  go_ret
  exact ⟨rfl, (by repeat (first | (with_reducible assumption) | (with_reducible exact Below.refl _ _) | (with_reducible refine Below.alloc ?_ (by first | omega | (simp; omega) | (simp; done) | (dsimp only; omega)) _) | (with_reducible refine Below.setCell ?_ (by first | omega | (simp; omega) | (simp; done) | (dsimp only; omega)) _) | (with_reducible refine Below.drew ?_) | (with_reducible refine Below.trans ?_ (Below.mono (by assumption) (by first | omega | (simp; omega) | (simp; done) | (dsimp only; omega))))))⟩

def alnum (c : UInt8) : Bool := kB c == 2 || kB c == 3
def isName : Str → Bool
  | [] => false
  | x :: l => decide ((x :: l).length ≤ 20) && !isWord (x :: l) && (kB x == 2) && (x :: l).all alnum

theorem pre_is (l : Str) : pre 2 3 l = l.takeWhile alnum := rfl
theorem takeWhile_id {p : UInt8 → Bool} : ∀ l : Str, (l.takeWhile p == l) = l.all p
  | [] => rfl
  | x :: l => by
    rw [List.takeWhile_cons, List.all_cons]
    cases p x
    · simp
    · rw [if_pos rfl, Bool.true_and, ← takeWhile_id l]
      simp

set_option maxHeartbeats 1000000 in
theorem token_Name (l : Str) (w : World) :
    Calls Tryd.prog 37 #[encStr l] w fun e w' => e = .returned (.bool (isName l)) ∧ Below w.heap.size w w' := by
  have HW := Lib.hid (token_Word l)
  cases l with
  | nil =>
    go_enter Tryd.func37, Tryd.ntmps37
    go_wp2_with fail
    go_ret
    exact ⟨rfl, Below.refl _ _⟩
  | cons x l =>
    have HP := Lib.hid (token_prefix (x :: l) 2 3 · (by decide) (by decide))
    have hx := x.toNat_lt
    have HK : ∀ w', Calls Tryd.prog 49 #[.int .i32 (x.toNat : Int)] w' fun e w'' => e = .returned (.int .i64 (kB x)) ∧ Below w'.heap.size w' w'' := fun w' => token_kind (x.toNat : Int) w' (by omega) (by omega)
    have HKK := Lib.hid HK
    clear HK
    have hN : isName (x :: l) = (decide (l.length + 1 ≤ 20) && !isWord (x :: l) && (kB x == 2) && (pre 2 3 (x :: l) == x :: l)) := by
      rw [pre_is, takeWhile_id]; rfl
    have w32 : wrap32 (x.toNat : Int) = x.toNat := by unfold wrap32; omega
    rw [hN]
    clear hN
    generalize isWord (x :: l) = iw at *
    generalize pre 2 3 (x :: l) = q at *
    generalize kB x = k at *
    by_cases h20 : l.length ≤ 19
    · rw [show decide (l.length + 1 ≤ 20) = true from decide_eq_true (by omega)]
      cases iw
      · cases h2 : k == 2
        · go_enter Tryd.func37, Tryd.ntmps37
          go_wp2_with (go_at_call 48; refine (HW.out _).mono ?_; rintro e w1 ⟨rfl, rfl⟩)
          change Calls Tryd.prog 49 #[.int .i32 (wrap32 (x.toNat : Int))] w _
          rw [w32]
          refine (HKK.out w).mono ?_
          rintro e w2 ⟨rfl, hb⟩
          go_wp2_with fail
          go_ret
          exact ⟨rfl, hb⟩
        · generalize hg : (q == x :: l) = g
          go_enter Tryd.func37, Tryd.ntmps37
          go_wp2_with (go_at_call 48; refine (HW.out _).mono ?_; rintro e w1 ⟨rfl, rfl⟩)
          change Calls Tryd.prog 49 #[.int .i32 (wrap32 (x.toNat : Int))] w _
          rw [w32]
          refine (HKK.out w).mono ?_
          rintro e w2 ⟨rfl, hb⟩
          go_wp2_with fail
          go_at_call 50
          refine (HP.out w2).mono ?_
          rintro e w3 ⟨rfl, hb3⟩
          go_wp2_with fail
          go_ret
          exact ⟨rfl, hb.trans (hb3.mono hb.size)⟩
      · go_enter Tryd.func37, Tryd.ntmps37
        go_wp2_with (go_at_call 48; refine (HW.out _).mono ?_; rintro e w1 ⟨rfl, rfl⟩)
        go_ret
        exact ⟨rfl, Below.refl _ _⟩
    · rw [show decide (l.length + 1 ≤ 20) = false from decide_eq_false (by omega)]
      go_enter Tryd.func37, Tryd.ntmps37
      go_wp2_with fail
      go_ret
      exact ⟨rfl, Below.refl _ _⟩
end Go.Proofs.YtfammopenanapaaDoor
