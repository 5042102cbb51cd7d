/- X-PARTIAL A memory of one array of two places: a place is found: layer 19. -/
import Derived.Test.YtpjocnnmienfpaaMemB
namespace Go.Proofs.Ytpjocnnmienfpaa
open Go.RowKit Go.Lib

set_option maxRecDepth 100000 in
set_option maxHeartbeats 2000000 in
theorem mem_place (w : World) (M G D : Nat) (es : Array MapEntry) (clk : Nat) (i : Int) (h : MemAt w M G D es clk) (h1 : 0 ≤ i) (h2 : i < 2) :
    Calls Try.prog 5 #[.pointer (some ⟨M, 0, none⟩), .string ⟨#[97]⟩, .int .i64 i] w fun e w' => e = .returned (.tuple #[.agg #[.string ⟨#[97]⟩, .int .i64 i], .int .i64 0]) ∧ Below w.heap.size w w' := by
  have n1 : ¬ i < 0 := by omega
  have hb0 : Below w.heap.size w (w.alloc (.cells #[.string ⟨#[]⟩, .int .i64 0] 23)) := (Below.refl _ w).alloc (Nat.le_refl _) _
  have h0 := h.mono hb0
  have k1 := al_new w (.cells #[.string ⟨#[]⟩, .int .i64 0] 23) rfl
  go_enter Try.func5, Try.ntmps5
  go_upto_region 3 with fail
  generalize w.alloc (.cells #[.string ⟨#[]⟩, .int .i64 0] 23) = W0 at *
  have m0 := blk_cell h0.1 0
  simp at m0
  have z0 := blk_lt h0.1
  have r0 := blk_cell k1
  have fr0 := blk_free k1
  have zr := blk_lt k1
  have l1 := look_glob true h0
  simp only [glob, if_true] at l1
  go_wp2_with fail
  go_at_call 11
  have HPL := Lib.hid (fun W => mem_places W)
  simp only [glob] at HPL
  refine (HPL.out _).mono ?_
  rintro e w2 ⟨rfl, hb2⟩
  have hb3 : Below W0.heap.size W0 w2 := ((Below.refl _ W0).alloc (Nat.le_refl _) _).trans (hb2.mono (by simp))
  have k2 := (hb3.block _ zr).trans k1
  have hB := hb0.trans (hb3.mono hb0.size)
  have g0 := blk_cell k2
  have gf0 := blk_free k2
  have gz := blk_lt k2
  have n2 : ¬ (2 ≤ i) := by omega
  clear hb2 hb3 k1 k2 r0 fr0 h0 h m0 z0 l1 hb0 HPL
  go_wp2_with fail
  refine bodyPost_ret (by simp [results, Try.results5, go_sem, *] <;> rfl) rfl ⟨rfl, (hB.setCell (Nat.le_refl _) _).setCell (Nat.le_refl _) _⟩

set_option maxRecDepth 100000 in
set_option maxHeartbeats 2000000 in
theorem mem_find (w : World) (M G D : Nat) (es : Array MapEntry) (clk : Nat) (i : Int) (h : MemAt w M G D es clk) (h1 : 0 ≤ i) (h2 : i < 2) :
    Calls Try.prog 9 #[.pointer (some ⟨M, 0, none⟩), .agg #[.string ⟨#[97]⟩, .int .i64 i]] w fun e w' => e = .returned (.int .i64 0) ∧ Below w.heap.size w w' := by
  have HP := Lib.hid (fun W (h : MemAt W M G D es clk) => mem_place W M G D es clk i h h1 h2)
  have H := Lib.hid h
  clear h h1 h2
  go_enter Try.func9, Try.ntmps9
  go_wp2_with fail
  go_at_call 5
  have hb0 : Below w.heap.size w ((w.alloc (.cells #[.string ⟨#[97]⟩, .int .i64 i] 23)).alloc (.cells #[.string ⟨#[]⟩, .int .i64 i] 23)) := ((Below.refl _ w).alloc (Nat.le_refl _) _).alloc (by simp) _
  refine (HP.out _ (H.out.mono hb0)).mono ?_
  rintro e w1 ⟨rfl, hb1⟩
  have HB := Lib.hid (hb0.trans (hb1.mono hb0.size))
  clear hb0 hb1 HP H
  go_wp2_with fail
  go_ret
  exact ⟨rfl, HB.out.alloc HB.out.size _⟩
end Go.Proofs.Ytpjocnnmienfpaa
