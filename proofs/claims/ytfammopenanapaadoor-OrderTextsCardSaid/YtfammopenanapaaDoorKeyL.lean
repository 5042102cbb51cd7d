/- X-PARTIAL Texts of keys: layer 26. -/
import Derived.Test.YtfammopenanapaaDoorKeyC
import Derived.Test.YtfammopenanapaaDoorItoaLay
import Derived.Lib.ItoaLen
import Derived.Laws.Concat
import Derived.Lib.SmallJoins
import Derived.Test.YtfammopenanapaaDoorTokI
namespace Go.Proofs.YtfammopenanapaaDoor
open Go.RowKit Go.Lib

/-- The table that strconv.Itoa reads. -/
def TV (w : World) : Prop := Lib.TabIs Tryd.prog w "internal/strconv.uint64pow10" .u64 Lib.pow10Tab
theorem TV.mono {w w' : World} (h : TV w) (hb : Below w.heap.size w w') : TV w' :=
  Go.Joins.var_stays (g := 2) (by kernel_rfl) h hb (Nat.le_refl _)

def textK (k : Ky) : Str := if k.d < 0 then k.n else k.n ++ [46] ++ Lib.itoa k.d
theorem mk_app (a b : Str) : (⟨a.toArray⟩ : ByteArray) ++ ⟨b.toArray⟩ = ⟨(a ++ b).toArray⟩ := by
  apply ByteArray.ext
  simp

set_option maxRecDepth 100000 in
set_option maxHeartbeats 2000000 in
theorem key_Text (k : Ky) (w : World) (hd0 : -9223372036854775808 ≤ k.d) (hd1 : k.d ≤ 9223372036854775807) (hn : k.n.length ≤ 281474976710000) (ht : TV w) :
    Calls Tryd.prog 21 #[.agg #[encStr k.n, .int .i64 k.d]] w fun e w' => e = .returned (encStr (textK k)) ∧ Below w.heap.size w w' := by
  have H1 := Lib.hid (fun w' (ht' : TV w') => strconv_Itoa k.d hd0 hd1 w' ht')
  have hl := Lib.itoa_length_le k.d hd0 hd1
  unfold textK
  by_cases h : k.d < 0
  · rw [if_pos h]
    go_enter Tryd.func21, Tryd.ntmps21
    go_wp2_with fail
    go_ret
    exact ⟨rfl, (by repeat (first | (with_reducible assumption) | (with_reducible exact Below.refl _ _) | (with_reducible refine Below.alloc ?_ (by first | omega | (simp; omega) | (simp; done) | (dsimp only; omega)) _) | (with_reducible refine Below.setCell ?_ (by first | omega | (simp; omega) | (simp; done) | (dsimp only; omega)) _) | (with_reducible refine Below.drew ?_) | (with_reducible refine Below.trans ?_ (Below.mono (by assumption) (by first | omega | (simp; omega) | (simp; done) | (dsimp only; omega))))))⟩
  · rw [if_neg h]
    have HT := Lib.hid ht
    clear hd0 hd1 ht
    generalize Lib.itoa k.d = x at *
    have a1 : ∀ W, (Op.stringOp .add ⟨k.n.toArray⟩ ⟨#[46]⟩).run Tryd.prog W = .ok (encStr (k.n ++ [46])) W := fun W => by
      refine (run_string_add_sum _ _ _ (by rw [mk_size]; show k.n.length + 1 ≤ _; omega)).trans ?_
      rw [show (⟨#[46]⟩ : ByteArray) = ⟨([46] : Str).toArray⟩ from rfl, mk_app]
    have a2 : ∀ W, (Op.stringOp .add ⟨(k.n ++ [46]).toArray⟩ ⟨x.toArray⟩).run Tryd.prog W = .ok (encStr (k.n ++ [46] ++ x)) W := fun W => by
      refine (run_string_add_sum _ _ _ (by rw [mk_size, mk_size, List.length_append]; show k.n.length + 1 + _ ≤ _; omega)).trans ?_
      rw [mk_app]
    clear hl hn
    generalize k.n ++ [46] ++ x = z at *
    generalize k.n ++ [46] = y at *
    go_enter Tryd.func21, Tryd.ntmps21
    go_upto_region 1 with fail
    generalize hW : (w.alloc (.cells #[encStr k.n, .int .i64 k.d] 52)) = W
    have q0_0 : W.cell? ⟨w.heap.size, 0, none⟩ = some (encStr k.n) := by rw [← hW]; simp [go_sem]
    have q0_1 : W.cell? ⟨w.heap.size, 1, none⟩ = some (.int .i64 k.d) := by rw [← hW]; simp [go_sem]
    have z0 : w.heap.size < W.heap.size := by rw [← hW]; first | (simp; done) | (simp; omega)
    have HW : Below w.heap.size w W := by rw [← hW]; exact (by repeat (first | (with_reducible assumption) | (with_reducible exact Below.refl _ _) | (with_reducible refine Below.alloc ?_ (by first | omega | (simp; omega) | (simp; done) | (dsimp only; omega)) _) | (with_reducible refine Below.setCell ?_ (by first | omega | (simp; omega) | (simp; done) | (dsimp only; omega)) _) | (with_reducible refine Below.drew ?_) | (with_reducible refine Below.trans ?_ (Below.mono (by assumption) (by first | omega | (simp; omega) | (simp; done) | (dsimp only; omega))))))
    clear hW
    have HT1 := Lib.hid (HT.out.mono HW)
    clear HT
    go_wp2_with fail
    refine region_seq (S := fun w' => Below W.heap.size W w') rfl (by kernel_rfl) (by kernel_rfl) (by repeat (first | (with_reducible assumption) | (with_reducible exact Below.refl _ _) | (with_reducible refine Below.alloc ?_ (by first | omega | (simp; omega) | (simp; done) | (dsimp only; omega)) _) | (with_reducible refine Below.setCell ?_ (by first | omega | (simp; omega) | (simp; done) | (dsimp only; omega)) _) | (with_reducible refine Below.drew ?_) | (with_reducible refine Below.trans ?_ (Below.mono (by assumption) (by first | omega | (simp; omega) | (simp; done) | (dsimp only; omega)))))) (fun fin hfin => ?_)
    iterate 8
      first
        | (refine SeqL.yes (v := ?_) (A' := ?_) rfl (by rfl) ?_ ?_ ?_
           rotate_left 2
           · intro w' K hS hK
             obtain ⟨hc, hf⟩ := bcell hS
             have hz := hS.size
             go_simp
             first
               | exact hK.out _ hS
               | (go_at_call 22; (with_reducible refine (H1.out _ (HT1.out.mono hS)).mono ?_); rintro e w1 ⟨rfl, hb1⟩; exact hK.out _ (hS.trans (hb1.mono hz)))
               | trace_state
           · simp only [Act.put, List.setIfInBounds_toArray, List.set_cons_zero, List.set_cons_succ]; exact rfl)
        | (refine SeqL.no (A' := ?_) rfl (by rfl) ?_ ?_
           rotate_left
           · simp only [Act.put, List.setIfInBounds_toArray, List.set_cons_zero, List.set_cons_succ]; exact rfl)
    refine SeqL.nil (hfin.out _ ?_)
    clear hfin fin
    intro w1 hS1
    go_wp2_with fail
    go_ret
    exact ⟨rfl, (by repeat (first | (with_reducible assumption) | (with_reducible exact Below.refl _ _) | (with_reducible refine Below.alloc ?_ (by first | omega | (simp; omega) | (simp; done) | (dsimp only; omega)) _) | (with_reducible refine Below.setCell ?_ (by first | omega | (simp; omega) | (simp; done) | (dsimp only; omega)) _) | (with_reducible refine Below.drew ?_) | (with_reducible refine Below.trans ?_ (Below.mono (by assumption) (by first | omega | (simp; omega) | (simp; done) | (dsimp only; omega))))))⟩
end Go.Proofs.YtfammopenanapaaDoor
