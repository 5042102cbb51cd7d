/- X-PARTIAL Keys: clean ones, their order: layer 26. -/
import Derived.Test.YtkmpkhbahmehmaaKeyA
import Derived.Test.YtkmpkhbahmehmaaKeyLay
import Derived.Test.YtkmpkhbahmehmaaKit
import Derived.Test.YtkmpkhbahmehmaaSeqg
import Derived.Test.YtkmpkhbahmehmaaAlloc
import Derived.BigCall
import Derived.WalkKit
import Derived.RegionTactic
import Derived.Sort.EncStr
import Derived.LoopTactic
import Derived.Deep.RegionHeld3
import Derived.Deep.Cut
import Derived.StillTactics
import Derived.Laws.Pointers
import Derived.Scope
import Derived.ScopeJumps
import Derived.Laws.RangeAny
namespace Go.Proofs.Ytkmpkhbahmehmaa
open Go.RowKit Go.Lib

theorem key_Clean (k : Ky) (w : World) :
    Calls Try.prog 26 #[.agg #[encStr k.n, .int .i64 k.d]] w fun e w' => e = .returned (.agg #[encStr k.cl.n, .int .i64 k.cl.d]) ∧ Below w.heap.size w w' := by
  rw [show k.cl = ⟨k.n, max k.d (-1)⟩ from rfl]
  obtain ⟨n, d⟩ := k
  dsimp only
  go_enter Try.func26, Try.ntmps26
  go_wp2_with fail
  refine bodyPost_ret (by simp [results, Try.results26, go_sem, *] <;> rfl) rfl ⟨rfl, (by repeat (first | (with_reducible assumption) | (with_reducible exact Below.refl _ _) | (with_reducible refine Below.alloc ?_ (by first | omega | (simp; omega) | (simp; done) | (dsimp only; omega)) _) | (with_reducible refine Below.setCell ?_ (by first | omega | (simp; omega) | (simp; done) | (dsimp only; omega)) _) | (with_reducible refine Below.drew ?_) | (with_reducible refine Below.trans ?_ (Below.mono (by assumption) (by first | omega | (simp; omega) | (simp; done) | (dsimp only; omega))))))⟩

theorem r26_Clean (k : Ky) (w : World) :
    Calls Try.prog 27 #[.agg #[encStr k.n, .int .i64 k.d]] w fun e w' => e = .returned (.agg #[encStr k.cl.n, .int .i64 k.cl.d]) ∧ Below w.heap.size w w' := by
  by_cases h : k.d < 0
  · rw [Ky.cl_neg h]
    obtain ⟨n, d⟩ := k
    dsimp only at h ⊢
    go_enter Try.func27, Try.ntmps27
    go_wp2_with fail
    refine bodyPost_ret (by simp [results, Try.results27, go_sem, *] <;> rfl) rfl ⟨rfl, (by repeat (first | (with_reducible assumption) | (with_reducible exact Below.refl _ _) | (with_reducible refine Below.alloc ?_ (by first | omega | (simp; omega) | (simp; done) | (dsimp only; omega)) _) | (with_reducible refine Below.setCell ?_ (by first | omega | (simp; omega) | (simp; done) | (dsimp only; omega)) _) | (with_reducible refine Below.drew ?_) | (with_reducible refine Below.trans ?_ (Below.mono (by assumption) (by first | omega | (simp; omega) | (simp; done) | (dsimp only; omega))))))⟩
  · rw [Ky.cl_pos h]
    obtain ⟨n, d⟩ := k
    dsimp only at h ⊢
    go_enter Try.func27, Try.ntmps27
    go_wp2_with fail
    refine bodyPost_ret (by simp [results, Try.results27, go_sem, *] <;> rfl) rfl ⟨rfl, (by repeat (first | (with_reducible assumption) | (with_reducible exact Below.refl _ _) | (with_reducible refine Below.alloc ?_ (by first | omega | (simp; omega) | (simp; done) | (dsimp only; omega)) _) | (with_reducible refine Below.setCell ?_ (by first | omega | (simp; omega) | (simp; done) | (dsimp only; omega)) _) | (with_reducible refine Below.drew ?_) | (with_reducible refine Below.trans ?_ (Below.mono (by assumption) (by first | omega | (simp; omega) | (simp; done) | (dsimp only; omega))))))⟩

theorem r26_Less (a b : Ky) (w : World) :
    Calls Try.prog 33 #[.agg #[encStr a.n, .int .i64 a.d], .agg #[encStr b.n, .int .i64 b.d]] w fun e w' => e = .returned (.bool (a.less b)) ∧ Below w.heap.size w w' := by
  obtain ⟨n, d⟩ := a
  obtain ⟨m, f⟩ := b
  unfold Ky.less
  dsimp only
  by_cases h : n = m
  · rw [if_neg (not_not_intro h)]
    have hb : (n == m) = true := by simpa using h
    clear h
    go_enter Try.func33, Try.ntmps33
    go_wp2_with fail
    go_ret
    exact ⟨rfl, (by repeat (first | (with_reducible assumption) | (with_reducible exact Below.refl _ _) | (with_reducible refine Below.alloc ?_ (by first | omega | (simp; omega) | (simp; done) | (dsimp only; omega)) _) | (with_reducible refine Below.setCell ?_ (by first | omega | (simp; omega) | (simp; done) | (dsimp only; omega)) _) | (with_reducible refine Below.drew ?_) | (with_reducible refine Below.trans ?_ (Below.mono (by assumption) (by first | omega | (simp; omega) | (simp; done) | (dsimp only; omega))))))⟩
  · rw [if_pos h, ← bytesLess_eq]
    have hb : (n == m) = false := by simpa using h
    clear h
    go_enter Try.func33, Try.ntmps33
    go_wp2_with fail
    go_ret
    exact ⟨rfl, (by repeat (first | (with_reducible assumption) | (with_reducible exact Below.refl _ _) | (with_reducible refine Below.alloc ?_ (by first | omega | (simp; omega) | (simp; done) | (dsimp only; omega)) _) | (with_reducible refine Below.setCell ?_ (by first | omega | (simp; omega) | (simp; done) | (dsimp only; omega)) _) | (with_reducible refine Below.drew ?_) | (with_reducible refine Below.trans ?_ (Below.mono (by assumption) (by first | omega | (simp; omega) | (simp; done) | (dsimp only; omega))))))⟩

set_option maxRecDepth 100000 in
theorem key_Cmp (a b : Ky) (w : World) :
    Calls Try.prog 37 #[.agg #[encStr a.n, .int .i64 a.d], .agg #[encStr b.n, .int .i64 b.d]] w fun e w' => e = .returned (.int .i64 (a.cmp b)) ∧ Below w.heap.size w w' := by
  have H1 := Lib.hid (key_Clean a)
  have H2 := Lib.hid (key_Clean b)
  have H3 := Lib.hid (strings_Compare ⟨a.n.toArray⟩ ⟨b.n.toArray⟩)
  have H4 := Lib.hid (cmp_Compare a.cl.d b.cl.d)
  unfold Ky.cmp
  by_cases h : Lib.compareBytes a.n b.n = 0
  · rw [if_neg (not_not_intro h)]
    rw [show Lib.compareBytes (⟨a.n.toArray⟩ : ByteArray).data.toList (⟨b.n.toArray⟩ : ByteArray).data.toList = 0 from h] at H3
    clear h
    generalize a.cl = a' at *
    generalize b.cl = b' at *
    go_enter Try.func37, Try.ntmps37
    go_upto_region 1 with fail
    generalize hW : ((w.alloc (.cells #[encStr a.n, .int .i64 a.d] 24)).alloc (.cells #[encStr b.n, .int .i64 b.d] 24)) = W
    have q0_0 : W.cell? ⟨w.heap.size, 0, none⟩ = some (encStr a.n) := by rw [← hW]; simp [go_sem]
    have q0_1 : W.cell? ⟨w.heap.size, 1, none⟩ = some (.int .i64 a.d) := by rw [← hW]; simp [go_sem]
    have q1_0 : W.cell? ⟨w.heap.size + 1, 0, none⟩ = some (encStr b.n) := by rw [← hW]; simp [go_sem]
    have q1_1 : W.cell? ⟨w.heap.size + 1, 1, none⟩ = some (.int .i64 b.d) := by rw [← hW]; simp [go_sem]
    have z0 : w.heap.size < W.heap.size := by rw [← hW]; first | (simp; done) | (simp; omega)
    have z1 : w.heap.size + 1 < W.heap.size := by rw [← hW]; first | (simp; done) | (simp; omega)
    have HW : Below w.heap.size w W := by rw [← hW]; exact (by repeat (first | (with_reducible assumption) | (with_reducible exact Below.refl _ _) | (with_reducible refine Below.alloc ?_ (by first | omega | (simp; omega) | (simp; done) | (dsimp only; omega)) _) | (with_reducible refine Below.setCell ?_ (by first | omega | (simp; omega) | (simp; done) | (dsimp only; omega)) _) | (with_reducible refine Below.drew ?_) | (with_reducible refine Below.trans ?_ (Below.mono (by assumption) (by first | omega | (simp; omega) | (simp; done) | (dsimp only; omega))))))
    clear hW
    go_wp2_with fail
    go_at_call 42
    refine (H3.out _).mono ?_
    rintro e w1 ⟨rfl, rfl⟩
    go_wp2_with fail
    refine region_seq (S := fun w' => Below w1.heap.size w1 w') rfl (by kernel_rfl) (by kernel_rfl) (by repeat (first | (with_reducible assumption) | (with_reducible exact Below.refl _ _) | (with_reducible refine Below.alloc ?_ (by first | omega | (simp; omega) | (simp; done) | (dsimp only; omega)) _) | (with_reducible refine Below.setCell ?_ (by first | omega | (simp; omega) | (simp; done) | (dsimp only; omega)) _) | (with_reducible refine Below.drew ?_) | (with_reducible refine Below.trans ?_ (Below.mono (by assumption) (by first | omega | (simp; omega) | (simp; done) | (dsimp only; omega)))))) (fun fin hfin => ?_)
    iterate 8
      first
        | (refine SeqL.yes (v := ?_) (A' := ?_) rfl (by rfl) ?_ ?_ ?_
           rotate_left 2
           · intro w' K hS hK
             obtain ⟨hc, hf⟩ := bcell hS
             have hz := hS.size
             go_simp
             first
               | exact hK.out _ hS
               | (go_at_call 26; (with_reducible refine (H1.out _).mono ?_); rintro e w1 ⟨rfl, hb1⟩; exact hK.out _ (hS.trans (hb1.mono hz)))
               | (go_at_call 26; (with_reducible refine (H2.out _).mono ?_); rintro e w1 ⟨rfl, hb1⟩; exact hK.out _ (hS.trans (hb1.mono hz)))
               | (go_at_call 43; (with_reducible refine (H4.out _).mono ?_); rintro e w1 ⟨rfl, rfl⟩; exact hK.out _ hS)
               | trace_state
           · simp only [Act.put, List.setIfInBounds_toArray, List.set_cons_zero, List.set_cons_succ]; exact rfl)
        | (refine SeqL.no (A' := ?_) rfl (by rfl) ?_ ?_
           rotate_left
           · simp only [Act.put, List.setIfInBounds_toArray, List.set_cons_zero, List.set_cons_succ]; exact rfl)
    refine SeqL.nil (hfin.out _ ?_)
    clear hfin fin
    intro w1 hS1
    go_wp2_with fail
    go_ret
    exact ⟨rfl, (by repeat (first | (with_reducible assumption) | (with_reducible exact Below.refl _ _) | (with_reducible refine Below.alloc ?_ (by first | omega | (simp; omega) | (simp; done) | (dsimp only; omega)) _) | (with_reducible refine Below.setCell ?_ (by first | omega | (simp; omega) | (simp; done) | (dsimp only; omega)) _) | (with_reducible refine Below.drew ?_) | (with_reducible refine Below.trans ?_ (Below.mono (by assumption) (by first | omega | (simp; omega) | (simp; done) | (dsimp only; omega))))))⟩
  · rw [if_pos h]
    have hn : (Lib.compareBytes a.n b.n != 0) = true := by simpa using h
    have H5 := Lib.hid (show ∀ w, Calls Try.prog 42 #[encStr a.n, encStr b.n] w fun e w' => e = .returned (.int .i64 (Lib.compareBytes a.n b.n)) ∧ w' = w from H3.out)
    clear H3
    clear h H1 H2 H4
    generalize Lib.compareBytes a.n b.n = c at *
    go_enter Try.func37, Try.ntmps37
    go_wp2_with fail
    go_at_call 42
    refine (H5.out _).mono ?_
    rintro e w1 ⟨rfl, rfl⟩
    go_wp2_with fail
    go_ret
    exact ⟨rfl, (by repeat (first | (with_reducible assumption) | (with_reducible exact Below.refl _ _) | (with_reducible refine Below.alloc ?_ (by first | omega | (simp; omega) | (simp; done) | (dsimp only; omega)) _) | (with_reducible refine Below.setCell ?_ (by first | omega | (simp; omega) | (simp; done) | (dsimp only; omega)) _) | (with_reducible refine Below.drew ?_) | (with_reducible refine Below.trans ?_ (Below.mono (by assumption) (by first | omega | (simp; omega) | (simp; done) | (dsimp only; omega))))))⟩
end Go.Proofs.Ytkmpkhbahmehmaa
