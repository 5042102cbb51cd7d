/- X-PARTIAL order.Read: layer 37. -/
import Derived.Test.YtfammopenanapaaDoorOrdF
import Derived.Test.YtfammopenanapaaDoorOrdD
import Derived.Test.YtfammopenanapaaDoorBytA
namespace Go.Proofs.YtfammopenanapaaDoor
open Go.RowKit Go.Lib

theorem OV.mono {w w' : World} (h : OV w) (hb : Below w.heap.size w w') : OV w' := by
  obtain ⟨o, h0, hc⟩ := h
  have hl : 0 < w.heap.size := blk_lt h0
  exact ⟨o, (hb.block 0 hl).trans h0, fun i hi => (hb.cell (p := ⟨0, i, none⟩) hl).trans (hc i hi)⟩
theorem behindB_lt {s : Str} (h : blankB s = true) : (behindB s).length < s.length := by
  have := blankB_true h
  have := aheadB_len s
  unfold behindB
  rw [List.length_drop]
  omega
theorem split_piece {x s : Str} (h : x ∈ splitB s) : x.length ≤ s.length := by
  induction s generalizing x with
  | nil => rw [splitB, List.mem_singleton] at h; subst h; exact Nat.le_refl _
  | cons c s ih =>
    rw [splitB] at h
    have hne := splitB_ne s
    split at h
    · rcases List.mem_cons.1 h with h | h
      · subst h; exact Nat.zero_le _
      · exact Nat.le_succ_of_le (ih h)
    · rcases List.mem_cons.1 h with h | h
      · subst h
        cases hs : splitB s with
        | nil => exact absurd hs hne
        | cons a l =>
          have := ih (x := a) (by rw [hs]; exact List.mem_cons_self)
          simpa using this
      · exact Nat.le_succ_of_le (ih (List.mem_of_mem_tail h))

theorem argsO_name {k : Nat} (h : k = 3 ∨ k = 8) (x : Str) : argsO k [x] = if isName x = true then (⟨k, [], 0, x, 0, []⟩, 0) else (Cmd.none, 3) := by
  unfold argsO
  rw [if_pos h, if_pos (show ([x] : List Str).length = 1 from rfl)]
  rfl
theorem argsO_budget (x : Str) : argsO 9 [x] = if (nodeO (120 :: 46 :: x)).2 = 0 then (⟨9, [], 0, [], (nodeO (120 :: 46 :: x)).1.d, []⟩, 0) else (Cmd.none, (nodeO (120 :: 46 :: x)).2) := by
  unfold argsO
  rw [if_neg (by decide), if_pos rfl, if_pos (show ([x] : List Str).length = 1 from rfl)]
  rfl
theorem argsO_node {k : Nat} (h : k = 4 ∨ k = 5 ∨ k = 6) (x : Str) : argsO k [x] = if (nodeO x).2 = 0 then (⟨k, (nodeO x).1.n, (nodeO x).1.d, [], 0, []⟩, 0) else (Cmd.none, (nodeO x).2) := by
  unfold argsO
  rw [if_neg (by omega), if_neg (by omega), if_pos (show ([x] : List Str).length = 1 from rfl), if_neg (by omega)]
  rfl
theorem argsO_two {k : Nat} (h : k = 4 ∨ k = 7) (x y : Str) : argsO k [x, y] = if (nodeO x).2 = 0 then (if isName y = true then (⟨k, (nodeO x).1.n, (nodeO x).1.d, y, 0, []⟩, 0) else (Cmd.none, 3)) else (Cmd.none, (nodeO x).2) := by
  unfold argsO
  rw [if_neg (by omega), if_neg (by omega), if_neg (show ¬ ([x, y] : List Str).length = 1 by simp), if_pos ⟨rfl, h⟩]
  rfl

/-- order.arguments at what a split left. -/
theorem order_arguments (k : Nat) (hk : 3 ≤ k ∧ k < 10) (r : Str) (p g c : Nat) (w : World) (hp : CO w p ⟨k, [], 0, [], 0, []⟩) (hg : g ≠ p) (hr : SRow w (some ⟨g, 0, none⟩) (splitB r)) (hm : r.length ≤ 281474976710654) (hv : RV w) :
    Calls Tryd.prog 15 #[.pointer (some ⟨p, 0, none⟩), .slice (some ⟨g, 0, none⟩) (splitB r).length c] w fun e w' => e = .returned (.int .i64 (argsO k (splitB r)).2) ∧ ((argsO k (splitB r)).2 = 0 → CO w' p (argsO k (splitB r)).1) ∧ Below p w w' := by
  have hl := splitB_len r
  have hx : ∀ x ∈ splitB r, x.length ≤ 281474976710654 := fun x h => Nat.le_trans (split_piece h) hm
  generalize splitB r = L at *
  have hne : L ≠ [] := by intro e; subst e; simp at hl
  by_cases hbad : 3 ≤ L.length ∨ (L.length = 2 ∧ k ≠ 4 ∧ k ≠ 7) ∨ (L.length = 1 ∧ k = 7)
  · have e0 : argsO k L = (Cmd.none, 3) := by
      unfold argsO
      rcases hbad with h | ⟨h, h4, h7⟩ | ⟨h, h7⟩
      · repeat rw [if_neg (show ¬ L.length = 1 by omega)]
        rw [if_neg (show ¬ (L.length = 2 ∧ (k = 4 ∨ k = 7)) by omega)]
        simp
      · repeat rw [if_neg (show ¬ L.length = 1 by omega)]
        rw [if_neg (show ¬ (L.length = 2 ∧ (k = 4 ∨ k = 7)) by omega)]
        simp
      · subst h7
        rw [if_neg (by decide), if_neg (by decide), if_pos h, if_pos rfl]
    rw [e0]
    refine (args_bad k L.length (by omega) hk hbad (some ⟨g, 0, none⟩) p c w hp).mono ?_
    rintro e w' ⟨rfl, rfl⟩
    exact ⟨rfl, fun h => absurd h (by decide), Below.refl _ _⟩
  · match L, hne, hx, hbad, hr with
    | [x], _, hx, hbad, hr =>
      obtain ⟨b, o, hA, h0, -⟩ := hr.cell (k := 0) (by simp)
      cases hA
      have hxl := hx x (by simp)
      by_cases h38 : k = 3 ∨ k = 8
      · refine (args_name k h38 x p g c w hp hg h0).mono ?_
        rintro e w' ⟨rfl, h1, h2⟩
        rw [argsO_name h38]
        cases hq : isName x
        · rw [hq] at h1
          exact ⟨rfl, fun h => absurd h (by simp), h2⟩
        · rw [hq] at h1
          exact ⟨rfl, fun _ => by simpa [hq] using h1, h2⟩
      · by_cases h9 : k = 9
        · subst h9
          refine (args_budget x p g c w hp h0 hxl hv).mono ?_
          rintro e w' ⟨rfl, h1, h2⟩
          rw [argsO_budget]
          by_cases hq : (nodeO (120 :: 46 :: x)).2 = 0
          · rw [if_pos hq]
            exact ⟨by rw [hq], fun _ => h1, h2⟩
          · rw [if_neg hq]
            exact ⟨rfl, fun h => absurd h hq, h2⟩
        · have h456 : k = 4 ∨ k = 5 ∨ k = 6 := by simp at hbad; omega
          refine (args_node k h456 x p g c w hp h0 (by omega) hv).mono ?_
          rintro e w' ⟨rfl, h1, h2⟩
          rw [argsO_node h456]
          by_cases hq : (nodeO x).2 = 0
          · rw [if_pos hq]
            exact ⟨by rw [hq], fun _ => h1, h2⟩
          · rw [if_neg hq]
            exact ⟨rfl, fun h => absurd h hq, h2⟩
    | [x, y], _, hx, hbad, hr =>
      obtain ⟨b, o, hA, h0, hgl⟩ := hr.cell (k := 0) (by simp)
      cases hA
      obtain ⟨b', o', hA, h1, -⟩ := hr.cell (k := 1) (by simp)
      cases hA
      have hxl := hx x (by simp)
      have h47 : k = 4 ∨ k = 7 := by simp at hbad; omega
      refine (args_two k h47 x y p g c w hp hg hgl h0 h1 (by omega) hv).mono ?_
      rintro e w' ⟨rfl, h1, h2⟩
      rw [argsO_two h47]
      by_cases hq : (nodeO x).2 = 0
      · rw [if_pos hq, if_pos hq]
        cases hy : isName y
        · exact ⟨rfl, fun h => absurd h (by simp), h2⟩
        · have h3 := h1 hq
          rw [hy] at h3
          exact ⟨rfl, fun _ => h3, h2⟩
      · rw [if_neg hq, if_neg hq]
        exact ⟨rfl, fun h => absurd h hq, h2⟩
    | _ :: _ :: _ :: _, _, _, hbad, _ => exact absurd (Or.inl (by simp)) hbad
end Go.Proofs.YtfammopenanapaaDoor
