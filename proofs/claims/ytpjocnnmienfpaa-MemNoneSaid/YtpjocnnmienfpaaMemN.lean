/- X-PARTIAL A memory that is nil: layer 19. -/
import Derived.Test.YtpjocnnmienfpaaMemB
namespace Go.Proofs.Ytpjocnnmienfpaa
open Go.RowKit Go.Lib

set_option maxRecDepth 100000 in
theorem nil_find (s : ByteArray) (i : Int) (w : World) :
    Calls Try.prog 9 #[.pointer none, .agg #[.string s, .int .i64 i]] w fun e w' => e = .returned (.int .i64 1) ∧ Below w.heap.size w w' := by
  go_enter Try.func9, Try.ntmps9
  go_wp2_with fail
  go_ret
  exact ⟨rfl, (by repeat (first | (with_reducible assumption) | (with_reducible exact Below.refl _ _) | (with_reducible refine Below.alloc ?_ (by first | omega | (simp; omega) | (simp; done) | (dsimp only; omega)) _) | (with_reducible refine Below.setCell ?_ (by first | omega | (simp; omega) | (simp; done) | (dsimp only; omega)) _) | (with_reducible refine Below.drew ?_) | (with_reducible refine Below.trans ?_ (Below.mono (by assumption) (by first | omega | (simp; omega) | (simp; done) | (dsimp only; omega))))))⟩
set_option maxRecDepth 100000 in
theorem nil_place (s : ByteArray) (i : Int) (w : World) :
    Calls Try.prog 5 #[.pointer none, .string s, .int .i64 i] w fun e w' => e = .returned (.tuple #[.agg #[.string ⟨#[]⟩, .int .i64 0], .int .i64 1]) ∧ Below w.heap.size w w' := by
  go_enter Try.func5, Try.ntmps5
  go_wp2_with fail
  refine bodyPost_ret (by simp [results, Try.results5, go_sem, *] <;> rfl) rfl ⟨rfl, (by repeat (first | (with_reducible assumption) | (with_reducible exact Below.refl _ _) | (with_reducible refine Below.alloc ?_ (by first | omega | (simp; omega) | (simp; done) | (dsimp only; omega)) _) | (with_reducible refine Below.setCell ?_ (by first | omega | (simp; omega) | (simp; done) | (dsimp only; omega)) _) | (with_reducible refine Below.drew ?_) | (with_reducible refine Below.trans ?_ (Below.mono (by assumption) (by first | omega | (simp; omega) | (simp; done) | (dsimp only; omega))))))⟩
set_option maxRecDepth 100000 in
theorem nil_all (w : World) :
    Calls Try.prog 7 #[.pointer none] w fun e w' => e = .returned (.slice none 0 0) ∧ Below w.heap.size w w' := by
  go_enter Try.func7, Try.ntmps7
  go_wp2_with fail
  go_ret
  exact ⟨rfl, (by repeat (first | (with_reducible assumption) | (with_reducible exact Below.refl _ _) | (with_reducible refine Below.alloc ?_ (by first | omega | (simp; omega) | (simp; done) | (dsimp only; omega)) _) | (with_reducible refine Below.setCell ?_ (by first | omega | (simp; omega) | (simp; done) | (dsimp only; omega)) _) | (with_reducible refine Below.drew ?_) | (with_reducible refine Below.trans ?_ (Below.mono (by assumption) (by first | omega | (simp; omega) | (simp; done) | (dsimp only; omega))))))⟩
set_option maxRecDepth 100000 in
set_option maxHeartbeats 2000000 in
theorem nil_get (s : ByteArray) (i : Int) (w : World) :
    Calls Try.prog 4 #[.pointer none, .agg #[.string s, .int .i64 i]] w fun e w' => e = .returned (.tuple #[.agg #[.bool false, .int .i64 0, .string ⟨#[]⟩, .int .i64 0], .int .i64 1]) ∧ Below w.heap.size w w' := by
  have HF := Lib.hid (nil_find s i)
  have k1 := al_new (w.alloc (.cells #[.string s, .int .i64 i] 23)) (.cells #[.bool false, .int .i64 0, .string ⟨#[]⟩, .int .i64 0] 25) rfl
  rw [World.size_alloc] at k1
  have hb0 : Below w.heap.size w ((w.alloc (.cells #[.string s, .int .i64 i] 23)).alloc (.cells #[.bool false, .int .i64 0, .string ⟨#[]⟩, .int .i64 0] 25)) := ((Below.refl _ w).alloc (Nat.le_refl _) _).alloc (by simp) _
  go_enter Try.func4, Try.ntmps4
  go_wp2_with fail
  go_at_call 9
  refine (HF.out _).mono ?_
  rintro e w1 ⟨rfl, hb1⟩
  have k2 := (hb1.block _ (blk_lt k1)).trans k1
  have g0 := blk_cell k2
  have f0 := blk_free k2
  have gz := blk_lt k2
  have hB := hb0.trans (hb1.mono hb0.size)
  clear hb0 hb1 k1 k2 HF
  go_wp2_with fail
  refine bodyPost_ret (by simp [results, Try.results4, go_sem, *] <;> rfl) rfl ⟨rfl, (((hB.setCell (Nat.le_succ _) _).setCell (Nat.le_succ _) _).setCell (Nat.le_succ _) _).setCell (Nat.le_succ _) _⟩
set_option maxRecDepth 100000 in
set_option maxHeartbeats 2000000 in
theorem nil_set (s : ByteArray) (i : Int) (pb : Bool) (n : Int) (ts : ByteArray) (ti : Int) (w : World) :
    Calls Try.prog 6 #[.pointer none, .agg #[.string s, .int .i64 i], .agg #[.bool pb, .int .i64 n, .string ts, .int .i64 ti]] w fun e w' => e = .returned (.int .i64 1) ∧ Below w.heap.size w w' := by
  have HF := Lib.hid (nil_find s i)
  go_enter Try.func6, Try.ntmps6
  go_wp2_with fail
  go_at_call 9
  refine (HF.out _).mono ?_
  rintro e w1 ⟨rfl, hb1⟩
  have hb0 : Below w.heap.size w ((w.alloc (.cells #[.string s, .int .i64 i] 23)).alloc (.cells #[.bool pb, .int .i64 n, .string ts, .int .i64 ti] 25)) := ((Below.refl _ w).alloc (Nat.le_refl _) _).alloc (by simp) _
  have HB := Lib.hid (hb0.trans (hb1.mono hb0.size))
  clear hb0 hb1 HF
  go_wp2_with fail
  go_ret
  exact ⟨rfl, HB.out⟩
end Go.Proofs.Ytpjocnnmienfpaa
