/- X-PARTIAL How keys stand, said as a sort asks it: layer 26. -/
import Derived.Test.YtkmpkhbahmehmaaKeyC
import Derived.Shelf.SlSortCmp.WholeK
namespace Go.Proofs.Ytkmpkhbahmehmaa
open Go.RowKit Go.Lib Go.Sort

/-- Draws and new blocks alone. -/
def Grw (w w' : World) : Prop := ∃ (q : Nat) (os : Array Obj), w' = grow (w.drewN q) os
theorem Grw.refl (w : World) : Grw w w := ⟨0, #[], by rw [grow_empty]; rfl⟩
theorem Grw.alloc {w x : World} (h : Grw w x) (o : Obj) : Grw w (x.alloc o) := by
  obtain ⟨q, os, rfl⟩ := h
  exact ⟨q, os ++ #[o], by rw [alloc_eq_grow, grow_grow]⟩
theorem Grw.drew {w x : World} (h : Grw w x) : Grw w x.drew := by
  obtain ⟨q, os, rfl⟩ := h
  exact ⟨q + 1, os, by rw [drew_grow, World.drew_is_drewN, World.drewN_drewN]⟩
theorem Grw.trans {w x y : World} (h : Grw w x) (k : Grw x y) : Grw w y := by
  obtain ⟨q, os, rfl⟩ := h
  obtain ⟨r, ps, rfl⟩ := k
  refine ⟨q + r, os ++ ps, ?_⟩
  rw [show (grow (w.drewN q) os).drewN r = grow ((w.drewN q).drewN r) os from rfl, grow_grow, World.drewN_drewN]
theorem Grw.below {w x : World} (h : Grw w x) : Below w.heap.size w x := by
  obtain ⟨q, os, rfl⟩ := h
  refine ⟨rfl, rfl, rfl, by simp [grow, World.drewN], fun k hk => ?_⟩
  show (w.heap ++ os)[k]? = w.heap[k]?
  rw [Array.getElem?_append_left hk]

set_option maxRecDepth 100000 in
theorem key_CleanG (k : Ky) (w : World) :
    Calls Try.prog 26 #[.agg #[encStr k.n, .int .i64 k.d]] w fun e w' => e = .returned (.agg #[encStr k.cl.n, .int .i64 k.cl.d]) ∧ Grw w w' := by
  rw [show k.cl = ⟨k.n, max k.d (-1)⟩ from rfl]
  obtain ⟨n, d⟩ := k
  dsimp only
  go_enter Try.func26, Try.ntmps26
  go_wp2_with fail
  refine bodyPost_ret (by simp [results, Try.results26, go_sem, *] <;> rfl) rfl ⟨rfl, ((Grw.refl w).alloc _).alloc _⟩

set_option maxRecDepth 100000 in
theorem key_CmpG (a b : Ky) (w : World) :
    Calls Try.prog 37 #[.agg #[encStr a.n, .int .i64 a.d], .agg #[encStr b.n, .int .i64 b.d]] w fun e w' => e = .returned (.int .i64 (a.cmp b)) ∧ Grw w w' := by
  have H1 := Lib.hid (key_CleanG a)
  have H2 := Lib.hid (key_CleanG b)
  have H3 := Lib.hid (strings_Compare ⟨a.n.toArray⟩ ⟨b.n.toArray⟩)
  have H4 := Lib.hid (cmp_Compare a.cl.d b.cl.d)
  unfold Ky.cmp
  by_cases h : Lib.compareBytes a.n b.n = 0
  · rw [if_neg (not_not_intro h)]
    rw [show Lib.compareBytes (⟨a.n.toArray⟩ : ByteArray).data.toList (⟨b.n.toArray⟩ : ByteArray).data.toList = 0 from h] at H3
    clear h
    generalize a.cl = a' at *
    generalize b.cl = b' at *
    have HG : Grw w ((w.alloc (.cells #[encStr a.n, .int .i64 a.d] 24)).alloc (.cells #[encStr b.n, .int .i64 b.d] 24)) := ((Grw.refl w).alloc _).alloc _
    go_enter Try.func37, Try.ntmps37
    go_upto_region 1 with fail
    generalize hW : (w.alloc (.cells #[encStr a.n, .int .i64 a.d] 24)).alloc (.cells #[encStr b.n, .int .i64 b.d] 24) = W at HG ⊢
    have q0 : W.cell? ⟨w.heap.size, 0, none⟩ = some (encStr a.n) := by rw [← hW]; simp [go_sem]
    have q1 : W.cell? ⟨w.heap.size, 1, none⟩ = some (.int .i64 a.d) := by rw [← hW]; simp [go_sem]
    have q2 : W.cell? ⟨w.heap.size + 1, 0, none⟩ = some (encStr b.n) := by rw [← hW]; simp [go_sem]
    have q3 : W.cell? ⟨w.heap.size + 1, 1, none⟩ = some (.int .i64 b.d) := by rw [← hW]; simp [go_sem]
    have z0 : w.heap.size < W.heap.size := by rw [← hW, World.size_alloc, World.size_alloc]; omega
    have z1 : w.heap.size + 1 < W.heap.size := by rw [← hW, World.size_alloc, World.size_alloc]; omega
    clear hW
    go_wp2_with fail
    go_at_call 42
    refine (H3.out _).mono ?_
    rintro e w1 ⟨rfl, rfl⟩
    go_wp2_with fail
    refine region_seq (S := fun w' => Grw w1 w') rfl (by kernel_rfl) (by kernel_rfl) (Grw.refl w1).drew (fun fin hfin => ?_)
    iterate 8
      first
        | (refine SeqL.yes (v := ?_) (A' := ?_) rfl (by rfl) ?_ ?_ ?_
           rotate_left 2
           · intro w' K hS hK
             have hSB := hS.below
             obtain ⟨hc, hf⟩ := bcell hSB
             have hz := hSB.size
             go_simp
             first
               | exact hK.out _ hS
               | (go_at_call 26; (with_reducible refine (H1.out _).mono ?_); rintro e w1 ⟨rfl, hb1⟩; exact hK.out _ (hS.trans hb1))
               | (go_at_call 26; (with_reducible refine (H2.out _).mono ?_); rintro e w1 ⟨rfl, hb1⟩; exact hK.out _ (hS.trans hb1))
               | (go_at_call 43; (with_reducible refine (H4.out _).mono ?_); rintro e w1 ⟨rfl, rfl⟩; exact hK.out _ hS)
           · simp only [Act.put, List.setIfInBounds_toArray, List.set_cons_zero, List.set_cons_succ]; exact rfl)
        | (refine SeqL.no (A' := ?_) rfl (by rfl) ?_ ?_
           rotate_left
           · simp only [Act.put, List.setIfInBounds_toArray, List.set_cons_zero, List.set_cons_succ]; exact rfl)
    refine SeqL.nil (hfin.out _ ?_)
    clear hfin fin
    intro w2 hS1
    go_wp2_with fail
    go_ret
    exact ⟨rfl, HG.trans hS1⟩
  · rw [if_pos h]
    have hn : (Lib.compareBytes a.n b.n != 0) = true := by simpa using h
    have H5 := Lib.hid (show ∀ w, Calls Try.prog 42 #[encStr a.n, encStr b.n] w fun e w' => e = .returned (.int .i64 (Lib.compareBytes a.n b.n)) ∧ w' = w from H3.out)
    clear H3
    clear h H1 H2 H4
    generalize Lib.compareBytes a.n b.n = c at *
    go_enter Try.func37, Try.ntmps37
    go_wp2_with fail
    go_at_call 42
    refine (H5.out _).mono ?_
    rintro e w1 ⟨rfl, rfl⟩
    go_wp2_with fail
    go_ret
    exact ⟨rfl, ((Grw.refl w).alloc _).alloc _⟩

/-- What a sort asks: one key ahead of another one, clean. -/
theorem ltOf_key (x y : Ky) : ltOf Ky.cmp x y = x.cl.less y.cl := by
  unfold ltOf
  exact Ky.cmp_less x y
theorem swo_key : SWO (ltOf Ky.cmp) where
  irrefl x := by rw [ltOf_key]; exact Ky.less_irrefl _
  trans x y z h1 h2 := by rw [ltOf_key] at *; exact Ky.less_trans h1 h2
  ntrans x y z h1 h2 := by
    rw [ltOf_key] at *
    cases h : x.cl.less z.cl with
    | false => rfl
    | true =>
      exfalso
      by_cases e : y.cl.less x.cl = true
      · rw [Ky.less_trans e h] at h2; cases h2
      · have := Ky.less_tri h1 (by simpa using e)
        rw [← this, h] at h2; cases h2
end Go.Proofs.Ytkmpkhbahmehmaa
