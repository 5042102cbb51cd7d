/- X-PARTIAL A memory of one array of two places: a store: layer 19. -/
import Derived.Test.YtpjocnnmienfpaaMemC
import Derived.RangeFuncOwn
namespace Go.Proofs.Ytpjocnnmienfpaa
open Go.RowKit Go.Lib

def ent1 : MapEntry := { key := .agg #[.string ⟨#[97]⟩, .int .i64 1], val := .agg #[.bool false, .int .i64 7, .string ⟨#[]⟩, .int .i64 0], born := 0 }

set_option maxRecDepth 100000 in
set_option maxHeartbeats 2000000 in
theorem mem_set (w : World) (M G D : Nat) (h : MemAt w M G D #[] 0) (hMD : M ≠ D) (hGD : G ≠ D) :
    Calls Try.prog 6 #[.pointer (some ⟨M, 0, none⟩), .agg #[.string ⟨#[97]⟩, .int .i64 1], .agg #[.bool false, .int .i64 7, .string ⟨#[]⟩, .int .i64 0]] w fun e w' => e = .returned (.int .i64 0) ∧ MemAt w' M G D #[ent1] 1 ∧ w.grownBy w' (some D) := by
  have HF := Lib.hid (fun W (h : MemAt W M G D #[] 0) => mem_find W M G D #[] 0 1 h (by omega) (by omega))
  have hb0 : Below w.heap.size w ((w.alloc (.cells #[.string ⟨#[97]⟩, .int .i64 1] 23)).alloc (.cells #[.bool false, .int .i64 7, .string ⟨#[]⟩, .int .i64 0] 25)) := ((Below.refl _ w).alloc (Nat.le_refl _) _).alloc (by simp) _
  have k0 : ((w.alloc (.cells #[.string ⟨#[97]⟩, .int .i64 1] 23)).alloc (.cells #[.bool false, .int .i64 7, .string ⟨#[]⟩, .int .i64 0] 25)).heap[w.heap.size]? = some (.cells #[.string ⟨#[97]⟩, .int .i64 1] 23) := (Below.heap_alloc _ _ _ (by simp)).trans (al_new w _ rfl)
  have k1 := al_new (w.alloc (.cells #[.string ⟨#[97]⟩, .int .i64 1] 23)) (.cells #[.bool false, .int .i64 7, .string ⟨#[]⟩, .int .i64 0] 25) rfl
  rw [World.size_alloc] at k1
  have HM := Lib.hid (h.mono hb0)
  clear h
  go_enter Try.func6, Try.ntmps6
  go_wp2_with fail
  generalize (w.alloc (.cells #[.string ⟨#[97]⟩, .int .i64 1] 23)).alloc (.cells #[.bool false, .int .i64 7, .string ⟨#[]⟩, .int .i64 0] 25) = W0 at *
  go_at_call 9
  refine (HF.out _ HM.out).mono ?_
  rintro e w1 ⟨rfl, hb1⟩
  have h1 := HM.out.mono hb1
  have k2 := (hb1.block _ (blk_lt k0)).trans k0
  have k3 := (hb1.block _ (blk_lt k1)).trans k1
  have hB := hb0.trans (hb1.mono hb0.size)
  have g0 := blk_cell k2
  have g1 := blk_cell k3
  have z2 := blk_lt k2
  have z3 := blk_lt k3
  have m0 := blk_cell h1.1 0
  have m1 := blk_cell h1.1 1
  have zM := blk_lt h1.1
  simp at m0 m1
  have HM1 := Lib.hid h1
  clear hb0 hb1 k0 k1 k2 k3 HF h1 HM
  go_upto_region 4 with fail
  have l2 := look_glob false (w := w1.drew) (HM1.out.mono (Below.refl _ w1).drew)
  have hfl := field_ptr w1.drew
  simp only [glob, Bool.false_eq_true, if_false] at l2 hfl
  go_region
  clear l2 hfl
  have hD := (HM1.out.mono ((Below.refl _ w1).drew.drew)).2.2
  have lst : (Instr.mapUpdate 43 (.map (some D)) (.agg #[.string ⟨#[97]⟩, .int .i64 1]) (.agg #[.bool false, .int .i64 7, .string ⟨#[]⟩, .int .i64 0])).run Try.prog w1.drew.drew = .ok () (w1.drew.drew.putObj D (.map #[ent1] 1)) :=
    store_new Try.underlying43 hD (check_cell _ _ _ _) (find_none Try.underlying23)
  have HH := Lib.hid hD
  clear hD
  go_upto_region 6 with fail
  go_region
  clear lst
  go_wp2_with fail
  go_ret
  have hg := grownBy_putObj' w1.drew.drew D (.map #[ent1] 1)
  have h2 := HM1.out.mono ((Below.refl _ w1).drew.drew)
  have hs := MapKept.heap_set (o' := .map #[ent1] 1) HH.out
  refine ⟨rfl, ⟨(hs.2 M hMD).trans h2.1, (hs.2 G hGD).trans h2.2.1, hs.1⟩, ?_⟩
  exact ⟨hg.os.trans hB.os, hg.tape.trans hB.tape, hg.output.trans hB.output, Nat.le_trans hB.size hg.size, fun k hk hne => (hg.block k (Nat.lt_of_lt_of_le hk hB.size) hne).trans (hB.block k hk)⟩
end Go.Proofs.Ytpjocnnmienfpaa
