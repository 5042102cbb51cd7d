/- X-PARTIAL A web that is nil: layer 29. -/
import Derived.Test.YtkmpkhbahmehmaaKeyX
namespace Go.Proofs.Ytkmpkhbahmehmaa
open Go.RowKit Go.Lib

set_option maxRecDepth 100000 in
theorem nil_add (x y : Ky) (w : World) :
    Calls Try.prog 19 #[.pointer none, .agg #[encStr x.n, .int .i64 x.d], .agg #[encStr y.n, .int .i64 y.d]] w fun e w' => e = .returned (.tuple #[]) ∧ Below w.heap.size w w' := by
  go_enter Try.func19, Try.ntmps19
  go_wp2_with fail
  refine bodyPost_ret (results_none rfl _ _ _) rfl ?_
  exact ⟨rfl, (by repeat (first | (with_reducible assumption) | (with_reducible exact Below.refl _ _) | (with_reducible refine Below.alloc ?_ (by first | omega | (simp; omega) | (simp; done) | (dsimp only; omega)) _) | (with_reducible refine Below.setCell ?_ (by first | omega | (simp; omega) | (simp; done) | (dsimp only; omega)) _) | (with_reducible refine Below.drew ?_) | (with_reducible refine Below.trans ?_ (Below.mono (by assumption) (by first | omega | (simp; omega) | (simp; done) | (dsimp only; omega))))))⟩
set_option maxRecDepth 100000 in
theorem nil_on (x : Ky) (w : World) :
    Calls Try.prog 10 #[.pointer none, .agg #[encStr x.n, .int .i64 x.d]] w fun e w' => e = .returned (.slice none 0 0) ∧ Below w.heap.size w w' := by
  go_enter Try.func10, Try.ntmps10
  go_wp2_with fail
  go_ret
  exact ⟨rfl, (by repeat (first | (with_reducible assumption) | (with_reducible exact Below.refl _ _) | (with_reducible refine Below.alloc ?_ (by first | omega | (simp; omega) | (simp; done) | (dsimp only; omega)) _) | (with_reducible refine Below.setCell ?_ (by first | omega | (simp; omega) | (simp; done) | (dsimp only; omega)) _) | (with_reducible refine Below.drew ?_) | (with_reducible refine Below.trans ?_ (Below.mono (by assumption) (by first | omega | (simp; omega) | (simp; done) | (dsimp only; omega))))))⟩
set_option maxRecDepth 100000 in
theorem nil_of (x : Ky) (w : World) :
    Calls Try.prog 12 #[.pointer none, .agg #[encStr x.n, .int .i64 x.d]] w fun e w' => e = .returned (.slice none 0 0) ∧ Below w.heap.size w w' := by
  go_enter Try.func12, Try.ntmps12
  go_wp2_with fail
  go_ret
  exact ⟨rfl, (by repeat (first | (with_reducible assumption) | (with_reducible exact Below.refl _ _) | (with_reducible refine Below.alloc ?_ (by first | omega | (simp; omega) | (simp; done) | (dsimp only; omega)) _) | (with_reducible refine Below.setCell ?_ (by first | omega | (simp; omega) | (simp; done) | (dsimp only; omega)) _) | (with_reducible refine Below.drew ?_) | (with_reducible refine Below.trans ?_ (Below.mono (by assumption) (by first | omega | (simp; omega) | (simp; done) | (dsimp only; omega))))))⟩
set_option maxRecDepth 100000 in
theorem nil_below (l : List Ky) (A : Option Addr) (c : Nat) (w : World) (hr : KRow w A l) (hm : l.length * 24 ≤ 281474976710656) :
    Calls Try.prog 15 #[.pointer none, .slice A l.length c] w fun e w' => (∃ g n N, e = .returned (.slice (some ⟨g, 0, none⟩) n N) ∧ OwnK w' w.heap.size g n N (rowR l)) ∧ Below w.heap.size w w' := by
  have H := Lib.hid (key_Row l A c w hr hm)
  clear hr hm
  go_enter Try.func15, Try.ntmps15
  go_wp2_with fail
  go_at_call 29
  refine H.out.mono ?_
  rintro e w1 ⟨⟨g, n, N, rfl, ho⟩, hb⟩
  have HO := Lib.hid ho
  clear ho H
  go_wp2_with fail
  go_ret
  exact ⟨⟨g, n, N, rfl, HO.out⟩, hb⟩
set_option maxRecDepth 100000 in
theorem nil_above (l : List Ky) (A : Option Addr) (c : Nat) (w : World) (hr : KRow w A l) (hm : l.length * 24 ≤ 281474976710656) :
    Calls Try.prog 17 #[.pointer none, .slice A l.length c] w fun e w' => (∃ g n N, e = .returned (.slice (some ⟨g, 0, none⟩) n N) ∧ OwnK w' w.heap.size g n N (rowR l)) ∧ Below w.heap.size w w' := by
  have H := Lib.hid (key_Row l A c w hr hm)
  clear hr hm
  go_enter Try.func17, Try.ntmps17
  go_wp2_with fail
  go_at_call 29
  refine H.out.mono ?_
  rintro e w1 ⟨⟨g, n, N, rfl, ho⟩, hb⟩
  have HO := Lib.hid ho
  clear ho H
  go_wp2_with fail
  go_ret
  exact ⟨⟨g, n, N, rfl, HO.out⟩, hb⟩

set_option maxRecDepth 100000 in
theorem nil_drop (x : Ky) (w : World) :
    Calls Try.prog 20 #[.pointer none, .agg #[encStr x.n, .int .i64 x.d]] w fun e w' => e = .returned (.tuple #[]) ∧ Below w.heap.size w w' := by
  go_enter Try.func20, Try.ntmps20
  go_wp2_with fail
  refine bodyPost_ret (results_none rfl _ _ _) rfl ?_
  exact ⟨rfl, (by repeat (first | (with_reducible assumption) | (with_reducible exact Below.refl _ _) | (with_reducible refine Below.alloc ?_ (by first | omega | (simp; omega) | (simp; done) | (dsimp only; omega)) _) | (with_reducible refine Below.setCell ?_ (by first | omega | (simp; omega) | (simp; done) | (dsimp only; omega)) _) | (with_reducible refine Below.drew ?_) | (with_reducible refine Below.trans ?_ (Below.mono (by assumption) (by first | omega | (simp; omega) | (simp; done) | (dsimp only; omega))))))⟩
set_option maxRecDepth 100000 in
theorem nil_clear (w : World) :
    Calls Try.prog 21 #[.pointer none] w fun e w' => e = .returned (.tuple #[]) ∧ Below w.heap.size w w' := by
  go_enter Try.func21, Try.ntmps21
  go_wp2_with fail
  go_end0
  exact ⟨rfl, (by repeat (first | (with_reducible assumption) | (with_reducible exact Below.refl _ _) | (with_reducible refine Below.alloc ?_ (by first | omega | (simp; omega) | (simp; done) | (dsimp only; omega)) _) | (with_reducible refine Below.setCell ?_ (by first | omega | (simp; omega) | (simp; done) | (dsimp only; omega)) _) | (with_reducible refine Below.drew ?_) | (with_reducible refine Below.trans ?_ (Below.mono (by assumption) (by first | omega | (simp; omega) | (simp; done) | (dsimp only; omega))))))⟩
end Go.Proofs.Ytkmpkhbahmehmaa
