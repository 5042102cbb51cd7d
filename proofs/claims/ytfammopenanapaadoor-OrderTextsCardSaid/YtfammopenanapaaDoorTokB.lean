/- X-PARTIAL The kind of a rune: layer 10. -/
import Derived.Test.YtfammopenanapaaDoorTokA
namespace Go.Proofs.YtfammopenanapaaDoor
open Go.RowKit Go.Lib

theorem strings_ContainsRune_high (r : Int) (w : World) (h0 : 128 ≤ r) (h1 : r ≤ 2147483647) :
    Calls Tryd.prog 63 #[.string signS, .int .i32 r] w fun e w' => e = .returned (.bool false) ∧ Below w.heap.size w w' := by
  have H := fun w' => strings_IndexRune_high signS (by decide) r w' h0 h1
  generalize signS = s at *
  go_enter Tryd.func63, Tryd.ntmps63
  go_wp2_with fail
  go_at_call 72
  refine (H w).mono ?_
  rintro e w1 ⟨rfl, hb⟩
  go_wp2
  go_ret
  exact ⟨rfl, hb⟩

theorem strings_ContainsRune_is (r : Int) (w : World) (h0 : 0 ≤ r) (h1 : r ≤ 2147483647) :
    Calls Tryd.prog 63 #[.string signS, .int .i32 r] w fun e w' => e = .returned (.bool (isSign r)) ∧ Below w.heap.size w w' := by
  by_cases h : r < 128
  · refine (strings_ContainsRune_low signS r w h0 h).mono ?_
    rintro e w' ⟨rfl, rfl⟩
    exact ⟨ret_bool (sign_is' h0 h), Below.refl _ _⟩
  · rw [isSign_high (by omega)]
    exact strings_ContainsRune_high r w (by omega) h1

theorem kind_tests (r : Int) : ∃ b1 b2 b3 b4 c1 c2 c3 c4 c5 d1 d2 : Bool,
    (r == 32) = b1 ∧ (r == 9) = b2 ∧ (r == 10) = b3 ∧ (r == 13) = b4 ∧ decide (97 ≤ r) = c1 ∧ decide (r ≤ 122) = c2 ∧ decide (65 ≤ r) = c3 ∧ decide (r ≤ 90) = c4 ∧ (r == 95) = c5 ∧ decide (48 ≤ r) = d1 ∧ decide (r ≤ 57) = d2 ∧
    kindOf r = (if (b1 || b2 || b3 || b4) = true then 1 else if ((c1 && c2) || (c3 && c4) || c5) = true then 2 else if (d1 && d2) = true then 3 else if isSign r = true then 4 else 0) := by
  refine ⟨_, _, _, _, _, _, _, _, _, _, _, rfl, rfl, rfl, rfl, rfl, rfl, rfl, rfl, rfl, rfl, rfl, ?_⟩
  unfold kindOf
  simp only [Bool.or_eq_true, Bool.and_eq_true, decide_eq_true_eq, beq_iff_eq, or_assoc]

set_option maxHeartbeats 4000000 in
theorem token_kind (r : Int) (w : World) (h0 : 0 ≤ r) (h1 : r ≤ 2147483647) :
    Calls Tryd.prog 49 #[.int .i32 r] w fun e w' => e = .returned (.int .i64 (kindOf r)) ∧ Below w.heap.size w w' := by
  obtain ⟨b1, b2, b3, b4, c1, c2, c3, c4, c5, d1, d2, e1, e2, e3, e4, e5, e6, e7, e8, e9, e10, e11, ek⟩ := kind_tests r
  have H := strings_ContainsRune_is r w h0 h1
  unfold signS at H
  rw [ek]
  clear ek
  generalize isSign r = g at *
  have HH := Lib.hid H
  clear H
  cases b1
  · cases b2
    · cases b3
      · cases b4
        · cases c1
          · cases c3
            · cases c5
              · cases d1
                · go_enter Tryd.func49, Tryd.ntmps49
                  go_wp2_with fail
                  go_at_call 63
                  refine HH.out.mono ?_
                  rintro e w1 ⟨rfl, hb⟩
                  cases g
                  · go_wp2
                    go_ret
                    exact ⟨rfl, hb⟩
                  · go_wp2
                    go_ret
                    exact ⟨rfl, hb⟩
                · cases d2
                  · go_enter Tryd.func49, Tryd.ntmps49
                    go_wp2_with fail
                    go_at_call 63
                    refine HH.out.mono ?_
                    rintro e w1 ⟨rfl, hb⟩
                    cases g
                    · go_wp2
                      go_ret
                      exact ⟨rfl, hb⟩
                    · go_wp2
                      go_ret
                      exact ⟨rfl, hb⟩
                  · go_enter Tryd.func49, Tryd.ntmps49
                    go_wp2
                    go_ret
                    exact ⟨rfl, Below.refl _ _⟩
              · go_enter Tryd.func49, Tryd.ntmps49
                go_wp2
                go_ret
                exact ⟨rfl, Below.refl _ _⟩
            · cases c4
              · cases c5
                · cases d1
                  · go_enter Tryd.func49, Tryd.ntmps49
                    go_wp2_with fail
                    go_at_call 63
                    refine HH.out.mono ?_
                    rintro e w1 ⟨rfl, hb⟩
                    cases g
                    · go_wp2
                      go_ret
                      exact ⟨rfl, hb⟩
                    · go_wp2
                      go_ret
                      exact ⟨rfl, hb⟩
                  · cases d2
                    · go_enter Tryd.func49, Tryd.ntmps49
                      go_wp2_with fail
                      go_at_call 63
                      refine HH.out.mono ?_
                      rintro e w1 ⟨rfl, hb⟩
                      cases g
                      · go_wp2
                        go_ret
                        exact ⟨rfl, hb⟩
                      · go_wp2
                        go_ret
                        exact ⟨rfl, hb⟩
                    · go_enter Tryd.func49, Tryd.ntmps49
                      go_wp2
                      go_ret
                      exact ⟨rfl, Below.refl _ _⟩
                · go_enter Tryd.func49, Tryd.ntmps49
                  go_wp2
                  go_ret
                  exact ⟨rfl, Below.refl _ _⟩
              · go_enter Tryd.func49, Tryd.ntmps49
                go_wp2
                go_ret
                exact ⟨rfl, Below.refl _ _⟩
          · cases c2
            · cases c3
              · cases c5
                · cases d1
                  · go_enter Tryd.func49, Tryd.ntmps49
                    go_wp2_with fail
                    go_at_call 63
                    refine HH.out.mono ?_
                    rintro e w1 ⟨rfl, hb⟩
                    cases g
                    · go_wp2
                      go_ret
                      exact ⟨rfl, hb⟩
                    · go_wp2
                      go_ret
                      exact ⟨rfl, hb⟩
                  · cases d2
                    · go_enter Tryd.func49, Tryd.ntmps49
                      go_wp2_with fail
                      go_at_call 63
                      refine HH.out.mono ?_
                      rintro e w1 ⟨rfl, hb⟩
                      cases g
                      · go_wp2
                        go_ret
                        exact ⟨rfl, hb⟩
                      · go_wp2
                        go_ret
                        exact ⟨rfl, hb⟩
                    · go_enter Tryd.func49, Tryd.ntmps49
                      go_wp2
                      go_ret
                      exact ⟨rfl, Below.refl _ _⟩
                · go_enter Tryd.func49, Tryd.ntmps49
                  go_wp2
                  go_ret
                  exact ⟨rfl, Below.refl _ _⟩
              · cases c4
                · cases c5
                  · cases d1
                    · go_enter Tryd.func49, Tryd.ntmps49
                      go_wp2_with fail
                      go_at_call 63
                      refine HH.out.mono ?_
                      rintro e w1 ⟨rfl, hb⟩
                      cases g
                      · go_wp2
                        go_ret
                        exact ⟨rfl, hb⟩
                      · go_wp2
                        go_ret
                        exact ⟨rfl, hb⟩
                    · cases d2
                      · go_enter Tryd.func49, Tryd.ntmps49
                        go_wp2_with fail
                        go_at_call 63
                        refine HH.out.mono ?_
                        rintro e w1 ⟨rfl, hb⟩
                        cases g
                        · go_wp2
                          go_ret
                          exact ⟨rfl, hb⟩
                        · go_wp2
                          go_ret
                          exact ⟨rfl, hb⟩
                      · go_enter Tryd.func49, Tryd.ntmps49
                        go_wp2
                        go_ret
                        exact ⟨rfl, Below.refl _ _⟩
                  · go_enter Tryd.func49, Tryd.ntmps49
                    go_wp2
                    go_ret
                    exact ⟨rfl, Below.refl _ _⟩
                · go_enter Tryd.func49, Tryd.ntmps49
                  go_wp2
                  go_ret
                  exact ⟨rfl, Below.refl _ _⟩
            · go_enter Tryd.func49, Tryd.ntmps49
              go_wp2
              go_ret
              exact ⟨rfl, Below.refl _ _⟩
        · go_enter Tryd.func49, Tryd.ntmps49
          go_wp2
          go_ret
          exact ⟨rfl, Below.refl _ _⟩
      · go_enter Tryd.func49, Tryd.ntmps49
        go_wp2
        go_ret
        exact ⟨rfl, Below.refl _ _⟩
    · go_enter Tryd.func49, Tryd.ntmps49
      go_wp2
      go_ret
      exact ⟨rfl, Below.refl _ _⟩
  · go_enter Tryd.func49, Tryd.ntmps49
    go_wp2
    go_ret
    exact ⟨rfl, Below.refl _ _⟩
end Go.Proofs.YtfammopenanapaaDoor
