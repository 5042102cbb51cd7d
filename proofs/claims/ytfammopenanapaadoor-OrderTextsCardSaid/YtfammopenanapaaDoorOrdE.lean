/- X-PARTIAL The kind of a word; names, nodes and numbers of commands: layer 37. -/
import Derived.Test.YtfammopenanapaaDoorOrdA
import Derived.Test.YtfammopenanapaaDoorKeyF
import Derived.Test.YtfammopenanapaaDoorKit
namespace Go.Proofs.YtfammopenanapaaDoor
open Go.RowKit Go.Lib

/-- The words lie as they are written. -/
def OV (w : World) : Prop := ∃ o : Obj, w.heap[0]? = some o ∧ ∀ i : Nat, (h : i < wordsO.length) → w.cell? ⟨0, i, none⟩ = some (encStr wordsO[i])
theorem kindO_hit : ∀ k : Fin 10, 1 ≤ k.val → kindO (wordsO.getD k.val []) = k.val := by decide
theorem kindO_none {s : Str} (h : ∀ j : Nat, 1 ≤ j → j < 10 → ¬ wordsO.getD j [] = s) : kindO s = 0 := by
  unfold kindO
  rw [if_neg (fun e => h 1 (by decide) (by decide) e.symm), if_neg (fun e => h 2 (by decide) (by decide) e.symm), if_neg (fun e => h 3 (by decide) (by decide) e.symm), if_neg (fun e => h 4 (by decide) (by decide) e.symm), if_neg (fun e => h 5 (by decide) (by decide) e.symm), if_neg (fun e => h 6 (by decide) (by decide) e.symm), if_neg (fun e => h 7 (by decide) (by decide) e.symm), if_neg (fun e => h 8 (by decide) (by decide) e.symm), if_neg (fun e => h 9 (by decide) (by decide) e.symm)]
theorem kindO_le (s : Str) : kindO s < 10 := by
  unfold kindO
  repeat' split
  all_goals omega

set_option maxRecDepth 1000000 in
set_option maxHeartbeats 4000000 in
theorem order_name (s : Str) (w : World) :
    Calls Tryd.prog 29 #[encStr s] w fun e w' => e = .returned (.tuple #[encStr (if isName s = true then s else []), .int .i64 (if isName s = true then 0 else 3)]) ∧ Below w.heap.size w w' := by
  have HN := Lib.hid (token_Name s w)
  cases h : isName s
  · rw [if_neg (by decide), if_neg (by decide)]
    rw [h] at HN
    go_enter Tryd.func29, Tryd.ntmps29
    go_wp2_with fail
    go_at_call 37
    refine HN.out.mono ?_
    rintro e w1 ⟨rfl, hb⟩
    go_wp2_with fail
    go_ret2
    exact ⟨rfl, hb⟩
  · rw [if_pos rfl, if_pos rfl]
    rw [h] at HN
    go_enter Tryd.func29, Tryd.ntmps29
    go_wp2_with fail
    go_at_call 37
    refine HN.out.mono ?_
    rintro e w1 ⟨rfl, hb⟩
    go_wp2_with fail
    go_ret2
    exact ⟨rfl, hb⟩

set_option maxRecDepth 1000000 in
set_option maxHeartbeats 4000000 in
theorem order_node (s : Str) (w : World) (hm : s.length ≤ 281474976710656) (hv : RV w) :
    Calls Tryd.prog 31 #[encStr s] w fun e w' => e = .returned (.tuple #[encStr (nodeO s).1.n, .int .i64 (nodeO s).1.d, .int .i64 (nodeO s).2]) ∧ Below w.heap.size w w' := by
  have HK := Lib.hid (key_Read s w hm hv)
  unfold nodeO
  generalize readK s = r at *
  obtain ⟨⟨n, d⟩, e0⟩ := r
  by_cases h : e0 = 0
  · subst h
    rw [if_neg (by simp)]
    by_cases hd : d < 0
    · rw [if_pos hd]
      go_enter Tryd.func31, Tryd.ntmps31
      go_wp2_with fail
      go_at_call 38
      refine HK.out.mono ?_
      rintro e w1 ⟨rfl, hb⟩
      go_wp2_with fail
      go_ret3
      exact ⟨rfl, by first | exact hb.alloc hb.size _ | exact (hb.alloc hb.size _).drew⟩
    · rw [if_neg hd]
      go_enter Tryd.func31, Tryd.ntmps31
      go_wp2_with fail
      go_at_call 38
      refine HK.out.mono ?_
      rintro e w1 ⟨rfl, hb⟩
      go_wp2_with fail
      go_region
      go_wp2_with fail
      go_ret3
      exact ⟨rfl, by first | exact hb.alloc hb.size _ | exact (hb.alloc hb.size _).drew⟩
  · rw [if_pos h]
    go_enter Tryd.func31, Tryd.ntmps31
    go_wp2_with fail
    go_at_call 38
    refine HK.out.mono ?_
    rintro e w1 ⟨rfl, hb⟩
    go_wp2_with fail
    go_ret3
    exact ⟨rfl, by first | exact hb.alloc hb.size _ | exact (hb.alloc hb.size _).drew⟩

set_option maxRecDepth 1000000 in
set_option maxHeartbeats 4000000 in
theorem order_number (s : Str) (w : World) (hm : s.length ≤ 281474976710654) (hv : RV w) :
    Calls Tryd.prog 30 #[encStr s] w fun e w' => e = .returned (.tuple #[.int .i64 (nodeO (120 :: 46 :: s)).1.d, .int .i64 (nodeO (120 :: 46 :: s)).2]) ∧ Below w.heap.size w w' := by
  have HK := Lib.hid (order_node (120 :: 46 :: s) w (by simp; omega) hv)
  go_enter Tryd.func30, Tryd.ntmps30
  go_wp2_with fail
  go_at_call 31
  refine HK.out.mono ?_
  rintro e w1 ⟨rfl, hb⟩
  go_wp2_with fail
  go_ret2
  exact ⟨rfl, (by repeat (first | (with_reducible assumption) | (with_reducible exact Below.refl _ _) | (with_reducible refine Below.alloc ?_ (by first | omega | (simp; omega) | (simp; done) | (dsimp only; omega)) _) | (with_reducible refine Below.setCell ?_ (by first | omega | (simp; omega) | (simp; done) | (dsimp only; omega)) _) | (with_reducible refine Below.drew ?_) | (with_reducible refine Below.trans ?_ (Below.mono (by assumption) (by first | omega | (simp; omega) | (simp; done) | (dsimp only; omega))))))⟩

set_option maxRecDepth 1000000 in
set_option maxHeartbeats 4000000 in
theorem order_kindOf (s : Str) (w : World) (ho : OV w) :
    Calls Tryd.prog 14 #[encStr s] w fun e w' => e = .returned (.int .i64 (kindO s)) ∧ w' = w := by
  obtain ⟨o, h0, hc⟩ := ho
  clear h0
  go_enter Tryd.func14, Tryd.ntmps14
  go_wp2_with fail
  go_loop [3] (fun v3 => ∃ k : Nat, 1 ≤ k ∧ k ≤ 10 ∧ v3 = .int .i64 k ∧ ∀ j : Nat, 1 ≤ j → j < k → ¬ wordsO.getD j [] = s) (fun v3 => 10 - (RowKit.intOf v3).toNat)
  case atStart => exact ⟨1, by decide, by decide, rfl, fun j h1 h2 => by omega⟩
  case round =>
    obtain ⟨k, hk1, hk, rfl, hno⟩ := hrel
    by_cases hlt : k < 10
    · have ik : (k : Int) < 10 := by omega
      have ck := hc k hlt
      have ey : wordsO[k]'hlt = wordsO.getD k [] := by rw [List.getD_eq_getElem?_getD, List.getElem?_eq_getElem hlt]; rfl
      rw [ey] at ck
      have HT := Lib.hid (kindO_hit ⟨k, hlt⟩ hk1)
      simp only at HT
      obtain ⟨y, hy⟩ : ∃ y, wordsO.getD k [] = y := ⟨_, rfl⟩
      rw [hy] at ck HT
      clear ey hc
      by_cases he : y = s
      · subst he
        go_wp2_with fail
        go_ret
        exact ⟨by rw [HT.out]; rfl, rfl⟩
      · have hb : (y == s) = false := by simpa using he
        go_wp2_with fail
        go_round
        case rel =>
          refine ⟨k + 1, by omega, by omega, by go_num, fun j h1 h2 => ?_⟩
          by_cases hj : j = k
          · subst hj; rw [hy]; exact he
          · exact hno j h1 (by omega)
        case measure => simp [RowKit.intOf]; omega
    · have e : k = 10 := by omega
      subst e
      have HT := Lib.hid (kindO_none hno)
      go_wp2_with fail
      go_ret
      exact ⟨by rw [HT.out]; rfl, rfl⟩
end Go.Proofs.YtfammopenanapaaDoor
