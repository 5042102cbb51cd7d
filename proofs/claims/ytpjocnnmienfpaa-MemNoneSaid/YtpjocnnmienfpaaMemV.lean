/- X-PARTIAL The statement's probe of a memory: layer 19. -/
import Derived.Test.YtpjocnnmienfpaaMemL
import Derived.Test.YtpjocnnmienfpaaMemW
import Derived.Test.YtpjocnnmienfpaaMemN
namespace Go.Proofs.Ytpjocnnmienfpaa
open Go.RowKit Go.Lib

theorem looks_none (N : Int) (j : Nat) (hN : nv N j = 0) : Looks #[] j (.agg #[.bool false, .int .i64 (nv N j), .string ⟨#[]⟩, .int .i64 0]) false := by
  intro w D clk hb
  rw [hN]
  exact look_miss (key := .agg #[.string ⟨#[97]⟩, .int .i64 j]) true Try.underlying43 hb (check_cell _ _ _ _) (find_none Try.underlying23) (Try.zeroValue25 w)
theorem looks_one (j : Nat) (hj : j < 2) : Looks #[ent1] j (.agg #[.bool false, .int .i64 (nv 7 j), .string ⟨#[]⟩, .int .i64 0]) (decide (j = 1)) := by
  intro w D clk hb
  by_cases h : j = 1
  · subst h
    exact look_hit true Try.underlying43 hb (check_cell _ _ _ _) (find_cell_hit _ _ _ _ _)
  · have : j = 0 := by omega
    subst this
    exact look_miss true Try.underlying43 hb (check_cell _ _ _ _) (find_cell_miss _ _ _ (by decide) _ _ _) (Try.zeroValue25 w)

set_option maxRecDepth 100000 in
set_option maxHeartbeats 4000000 in
theorem law19_lives (w : World) : Calls Try.prog 8 #[] w fun e w' => e = .returned (.bool true) ∧ Below w.heap.size w w' := by
  have hb0 : Below w.heap.size w (w.alloc (.cells #[.string ⟨#[97]⟩, .bool false, .int .i64 2, .int .i64 0] 40)) := (Below.refl _ w).alloc (Nat.le_refl _) _
  have HN := Lib.hid (mem_new (w.alloc (.cells #[.string ⟨#[97]⟩, .bool false, .int .i64 2, .int .i64 0] 40)) w.heap.size (al_new w _ rfl))
  go_enter Try.func8, Try.ntmps8
  go_wp2_with fail
  go_at_call 13
  refine HN.out.mono ?_
  rintro e w1 ⟨⟨M, G, D, rfl, hM, h1, h2, h3, h4, h5⟩, hb1⟩
  have hB1 := hb0.trans (hb1.mono hb0.size)
  have hz := hb0.size
  have HM := Lib.hid hM
  have h3' := Nat.le_trans hz h3
  have h4' := Nat.le_trans hz h4
  have h5' := Nat.le_trans hz h5
  clear hb1 hb0 HN hM h3 h4 h5 hz
  have HA := Lib.hid (mem_all w1 M G D #[] 0 0 (fun _ => false) HM.out (fun j hj => ⟨looks_none 0 j (by unfold nv; split <;> rfl), fun _ => by unfold nv; split <;> rfl⟩))
  go_wp2_with fail
  go_at_call 7
  refine HA.out.mono ?_
  rintro e w2 ⟨⟨g2, c2, rfl, hown2⟩, hM2, hb2⟩
  have hB2 := hB1.trans (hb2.mono hB1.size)
  have HS := Lib.hid (mem_set w2 M G D hM2 h1 h2)
  clear HA HM hown2 hM2 hb2 hB1
  go_wp2_with fail
  go_at_call 6
  refine HS.out.mono ?_
  rintro e w3 ⟨rfl, hM3, hg3⟩
  have hB3 : Below w.heap.size w w3 := Below.grown hB2 hg3 hB2.size (fun j e => by cases e; exact h5')
  have HA := Lib.hid (mem_all w3 M G D #[ent1] 1 7 (fun j => decide (j = 1)) hM3 (fun j hj => ⟨looks_one j hj, fun h => by unfold nv; rw [if_neg (by simpa using h)]⟩))
  clear HS hM3 hg3 hB2
  go_wp2_with fail
  go_at_call 7
  refine HA.out.mono ?_
  rintro e w4 ⟨⟨g4, c4, rfl, hown4⟩, -, hb4⟩
  have hB4 := hB3.trans (hb4.mono hB3.size)
  have hc : w4.cell? ⟨g4, 9, none⟩ = some (.int .i64 7) := by rw [hown4.cellAt 9 (by omega)]; rfl
  clear HA hown4 hb4 hB3
  go_wp2_with fail
  go_ret
  exact ⟨rfl, hB4⟩
end Go.Proofs.Ytpjocnnmienfpaa
