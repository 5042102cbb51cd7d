/- X-PARTIAL strings.Cut at a dot: layer 26. -/
import Derived.Test.YtfammopenanapaaDoorKeyB
import Derived.Test.YtfammopenanapaaDoorKeyC
namespace Go.Proofs.YtfammopenanapaaDoor
open Go.RowKit Go.Lib

set_option maxRecDepth 1000000 in
set_option maxHeartbeats 4000000 in
theorem slite_Index (s : Str) (w : World) :
    Calls Tryd.prog 36 #[encStr s, encStr [46]] w fun e w' => e = .returned (.int .i64 (Lib.indexByte s 46)) ∧ w' = w := by
  by_cases h : s = [46]
  · subst h
    go_enter Tryd.func36, Tryd.ntmps36
    go_wp2_with fail
    go_ret
    exact ⟨rfl, rfl⟩
  · have hb : (([46] : Str) == s) = false := by simpa using fun e : [46] = s => h e.symm
    have H := Lib.hid (slite_IndexByte ⟨s.toArray⟩ 46 w)
    clear h
    go_enter Tryd.func36, Tryd.ntmps36
    go_wp2_with fail
    go_at_call 44
    refine H.out.mono ?_
    rintro e w1 ⟨rfl, rfl⟩
    go_wp2_with fail
    go_ret
    exact ⟨rfl, rfl⟩

/-- What stands behind the first dot. -/
def behind (s : Str) : Str := s.drop ((ahead s).length + 1)
def dotted (s : Str) : Bool := !decide ((ahead s).length = s.length)

set_option maxRecDepth 1000000 in
set_option maxHeartbeats 4000000 in
theorem slite_Cut (s : Str) (w : World) (hm : s.length ≤ 9223372036854775807) :
    Calls Tryd.prog 28 #[encStr s, encStr [46]] w fun e w' => e = .returned (.tuple #[encStr (ahead s), encStr (behind s), .bool (dotted s)]) ∧ Below w.heap.size w w' := by
  have H := slite_Index s w
  rw [dot_is] at H
  have hle := ahead_len s
  by_cases h : (ahead s).length = s.length
  · rw [if_pos h] at H
    have e1 : ahead s = s := by rw [← ahead_take, h, List.take_length]
    have e2 : behind s = [] := by unfold behind; rw [h]; exact List.drop_eq_nil_of_le (by omega)
    have e3 : dotted s = false := by unfold dotted; rw [decide_eq_true h]; rfl
    rw [e1, e2, e3]
    have HH := Lib.hid H
    clear H h e1 e2 e3 hle
    go_enter Tryd.func28, Tryd.ntmps28
    go_wp2_with fail
    go_at_call 36
    refine HH.out.mono ?_
    rintro e w1 ⟨rfl, rfl⟩
    go_wp2_with fail
    go_ret3
    exact ⟨rfl, (by repeat (first | (with_reducible assumption) | (with_reducible exact Below.refl _ _) | (with_reducible refine Below.alloc ?_ (by first | omega | (simp; omega) | (simp; done) | (dsimp only; omega)) _) | (with_reducible refine Below.setCell ?_ (by first | omega | (simp; omega) | (simp; done) | (dsimp only; omega)) _) | (with_reducible refine Below.drew ?_) | (with_reducible refine Below.trans ?_ (Below.mono (by assumption) (by first | omega | (simp; omega) | (simp; done) | (dsimp only; omega))))))⟩
  · rw [if_neg h] at H
    have e3 : dotted s = true := by unfold dotted; rw [decide_eq_false h]; rfl
    have hlt : (ahead s).length < s.length := by omega
    have ex1 : (⟨s.toArray⟩ : ByteArray).extract 0 (ahead s).length = ⟨(ahead s).toArray⟩ := by
      rw [ByteArray.extract_mk, Nat.sub_zero, List.drop_zero, ahead_take]
    have ex2 : (⟨s.toArray⟩ : ByteArray).extract ((ahead s).length + 1) s.length = ⟨(behind s).toArray⟩ := by
      unfold behind
      rw [ByteArray.extract_mk, List.take_of_length_le (by rw [List.length_drop]; omega)]
    rw [e3]
    have HH := Lib.hid H
    clear H h e3 hle
    generalize (ahead s).length = i at *
    generalize ahead s = a at *
    generalize behind s = b at *
    have i1 : (i : Int) < s.length := by omega
    have i2 : (0 : Int) ≤ i := by omega
    have i3 : (i : Int) + 1 ≤ s.length := by omega
    have i4 : (0 : Int) ≤ (i : Int) + 1 := by omega
    have i5 : (i : Int) ≤ s.length := by omega
    go_enter Tryd.func28, Tryd.ntmps28
    go_wp2_with fail
    go_at_call 36
    refine HH.out.mono ?_
    rintro e w1 ⟨rfl, rfl⟩
    go_wp2_with fail
    go_region
    go_wp2_with fail
    go_ret3
    exact ⟨rfl, (by repeat (first | (with_reducible assumption) | (with_reducible exact Below.refl _ _) | (with_reducible refine Below.alloc ?_ (by first | omega | (simp; omega) | (simp; done) | (dsimp only; omega)) _) | (with_reducible refine Below.setCell ?_ (by first | omega | (simp; omega) | (simp; done) | (dsimp only; omega)) _) | (with_reducible refine Below.drew ?_) | (with_reducible refine Below.trans ?_ (Below.mono (by assumption) (by first | omega | (simp; omega) | (simp; done) | (dsimp only; omega))))))⟩

set_option maxRecDepth 1000000 in
set_option maxHeartbeats 4000000 in
theorem strings_CutDot (s : Str) (w : World) (hm : s.length ≤ 9223372036854775807) :
    Calls Tryd.prog 13 #[encStr s, encStr [46]] w fun e w' => e = .returned (.tuple #[encStr (ahead s), encStr (behind s), .bool (dotted s)]) ∧ Below w.heap.size w w' := by
  have H := Lib.hid (slite_Cut s w hm)
  clear hm
  go_enter Tryd.func13, Tryd.ntmps13
  go_wp2_with fail
  go_at_call 28
  refine H.out.mono ?_
  rintro e w1 ⟨rfl, hb⟩
  go_wp2_with fail
  go_ret3
  exact ⟨rfl, hb⟩
end Go.Proofs.YtfammopenanapaaDoor
