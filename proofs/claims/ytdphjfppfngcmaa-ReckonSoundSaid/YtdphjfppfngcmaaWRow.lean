/- A slice of wide numbers that reads as a list. -/
import Derived.Test.YtdphjfppfngcmaaSeqg
import Derived.Test.YtdphjfppfngcmaaLt
import Derived.Test.YtdphjfppfngcmaaWideB
import Derived.DataReads
namespace Go.Proofs.Ytdphjfppfngcmaa
open Go.RowKit

/-- The slice value at 'A' reads as the numbers 'l'. -/
def WRow (w : World) (A : Option Addr) (l : List Int) : Prop :=
  match A with
  | none => l = []
  | some a => ∀ i : Nat, (h : i < l.length) → w.cell? (a.add (i * 2)) = some (.int .i64 (hiW l[i])) ∧ w.cell? (a.add (i * 2 + 1)) = some (.int .u64 (loW l[i]))
theorem WRow.cell {w : World} {A : Option Addr} {l : List Int} (h : WRow w A l) {k : Nat} (hk : k < l.length) :
    ∃ b o : Nat, A = some ⟨b, o, none⟩ ∧ w.cell? ⟨b, o + k * 2, none⟩ = some (.int .i64 (hiW l[k])) ∧ w.cell? ⟨b, o + k * 2 + 1, none⟩ = some (.int .u64 (loW l[k])) ∧ b < w.heap.size := by
  cases A with
  | none => unfold WRow at h; subst h; simp at hk
  | some a =>
    unfold WRow at h; dsimp only at h
    obtain ⟨b, o, p⟩ := a
    have h0 := (h 0 (by omega)).1
    rw [Nat.zero_mul] at h0
    have hp : p = none := by simpa [Addr.add] using World.cell?_spot h0
    subst hp
    have e : ∀ j, (⟨b, o, none⟩ : Addr).add j = ⟨b, o + j, none⟩ := by
      intro j; unfold Addr.add; split
      · next h => subst h; rfl
      · rfl
    obtain ⟨h1, h2⟩ := h k hk
    rw [e] at h1 h2
    refine ⟨b, o, rfl, h1, by rw [Nat.add_assoc]; exact h2, ?_⟩
    rcases Nat.lt_or_ge b w.heap.size with h' | h'
    · exact h'
    · simp [World.cell?, Addr.add, Array.getElem?_eq_none h'] at h0
theorem WRow.mono {w w' : World} {A : Option Addr} {l : List Int} (h : WRow w A l) (hb : Below w.heap.size w w') : WRow w' A l := by
  cases A with
  | none => exact h
  | some a =>
    intro i hi
    obtain ⟨b, o, e, h1, h2, hlt⟩ := WRow.cell h hi
    cases e
    have e : ∀ j, (⟨b, o, none⟩ : Addr).add j = ⟨b, o + j, none⟩ := by
      intro j; unfold Addr.add; split
      · next h => subst h; rfl
      · rfl
    rw [e, e, hb.cell (p := ⟨b, o + i * 2, none⟩) hlt, hb.cell (p := ⟨b, o + (i * 2 + 1), none⟩) hlt]
    exact ⟨h1, by rw [← Nat.add_assoc]; exact h2⟩

theorem alloc_new (w : World) (o : Obj) : (w.alloc o).heap[w.heap.size]? = some o := by
  show (w.heap.push o)[w.heap.size]? = _
  rw [Array.getElem?_push, if_pos rfl]
theorem alloc_old (w : World) (o : Obj) {b : Nat} (h : b < w.heap.size) : (w.alloc o).heap[b]? = w.heap[b]? := by
  show (w.heap.push o)[b]? = _
  rw [Array.getElem?_push, if_neg (by omega)]
theorem alloc_next (w : World) (o o' : Obj) : ((w.alloc o).alloc o').heap[w.heap.size + 1]? = some o' := by
  have := alloc_new (w.alloc o) o'
  have e : (w.alloc o).heap.size = w.heap.size + 1 := by simp
  rw [e] at this; exact this
theorem alloc_prev (w : World) (o o' : Obj) : ((w.alloc o).alloc o').heap[w.heap.size]? = some o := by
  rw [alloc_old _ _ (by simp), alloc_new]

def minL (l : List Int) (a : Int) : Int := l.foldl (fun m b => if b < m then b else m) a
def maxL (l : List Int) (a : Int) : Int := l.foldl (fun m b => if m < b then b else m) a
theorem take_snoc2 {α : Type} (l : List α) (k : Nat) (h : k < l.length) : l.take (k + 1) = l.take k ++ [l[k]] := by
  rw [List.take_succ_eq_append_getElem h]
theorem minL_snoc (l : List Int) (x a : Int) : minL (l ++ [x]) a = if x < minL l a then x else minL l a := by unfold minL; rw [List.foldl_append]; rfl
theorem maxL_snoc (l : List Int) (x a : Int) : maxL (l ++ [x]) a = if maxL l a < x then x else maxL l a := by unfold maxL; rw [List.foldl_append]; rfl
theorem minL_spec (l : List Int) : ∀ a : Int, (minL l a = a ∨ minL l a ∈ l) ∧ minL l a ≤ a ∧ ∀ x ∈ l, minL l a ≤ x := by
  induction l with
  | nil => intro a; exact ⟨Or.inl rfl, Int.le_refl _, by simp⟩
  | cons y l ih =>
    intro a
    obtain ⟨h1, h2, h3⟩ := ih (if y < a then y else a)
    have e : minL (y :: l) a = minL l (if y < a then y else a) := rfl
    rw [e]
    have hle : (if y < a then y else a) ≤ a ∧ (if y < a then y else a) ≤ y := by split <;> omega
    refine ⟨?_, by omega, fun x hx => ?_⟩
    · rcases h1 with h1 | h1
      · rw [h1]; split
        · exact Or.inr List.mem_cons_self
        · exact Or.inl rfl
      · exact Or.inr (List.mem_cons_of_mem _ h1)
    · rcases List.mem_cons.1 hx with rfl | hx
      · omega
      · exact h3 x hx
theorem maxL_spec (l : List Int) : ∀ a : Int, (maxL l a = a ∨ maxL l a ∈ l) ∧ a ≤ maxL l a ∧ ∀ x ∈ l, x ≤ maxL l a := by
  induction l with
  | nil => intro a; exact ⟨Or.inl rfl, Int.le_refl _, by simp⟩
  | cons y l ih =>
    intro a
    obtain ⟨h1, h2, h3⟩ := ih (if a < y then y else a)
    have e : maxL (y :: l) a = maxL l (if a < y then y else a) := rfl
    rw [e]
    have hle : a ≤ (if a < y then y else a) ∧ y ≤ (if a < y then y else a) := by split <;> omega
    refine ⟨?_, by omega, fun x hx => ?_⟩
    · rcases h1 with h1 | h1
      · rw [h1]; split
        · exact Or.inr List.mem_cons_self
        · exact Or.inl rfl
      · exact Or.inr (List.mem_cons_of_mem _ h1)
    · rcases List.mem_cons.1 hx with rfl | hx
      · omega
      · exact h3 x hx

def BestW (f : List Int → Int → Int) (l : List Int) (a : Int) (N : Nat) (w : World) (vi : Value) (wx : World) : Prop :=
  ∃ (k : Nat) (v : Int), k ≤ l.length ∧ vi = .int .i64 k ∧ v = f (l.take k) a ∧ wx.heap[N]? = some (.cells #[.int .i64 (hiW v), .int .u64 (loW v)] 31) ∧ wx.heap[N + 1]? = some (.cells #[.int .i64 0, .int .u64 0] 31) ∧ Below N w wx

set_option maxRecDepth 100000 in
set_option maxHeartbeats 2000000 in
theorem wide_min (a : Int) (l : List Int) (A : Option Addr) (c : Nat) (w : World) (hm : l.length ≤ 9223372036854775807) (hr : WRow w A l) :
    Calls Try.prog 72 #[.agg #[.int .i64 (hiW a), .int .u64 (loW a)], .slice A l.length c] w fun e w' => e = .returned (.agg #[.int .i64 (hiW (minL l a)), .int .u64 (loW (minL l a))]) ∧ Below w.heap.size w w' := by
  go_enter Try.func72, Try.ntmps72
  go_wp2
  go_loopw [9] (fun vi wx => BestW minL l a w.heap.size w vi wx) (fun vi _ => l.length - (intOf vi).toNat)
  case atStart =>
    refine ⟨0, a, Nat.zero_le _, rfl, rfl, ?_, ?_, (by repeat (first | (with_reducible assumption) | (with_reducible exact Below.refl _ _) | (with_reducible refine Below.alloc ?_ (by first | omega | (simp; omega) | (simp; done) | (dsimp only; omega)) _) | (with_reducible refine Below.setCell ?_ (by first | omega | (simp; omega) | (simp; done) | (dsimp only; omega)) _) | (with_reducible refine Below.drew ?_) | (with_reducible refine Below.trans ?_ (Below.mono (by assumption) (by first | omega | (simp; omega) | (simp; done) | (dsimp only; omega))))))⟩
    · exact alloc_prev _ _ _
    · exact alloc_next _ _ _
  case round =>
    obtain ⟨k, v, hk, rfl, hv, h0, h1, hB⟩ := hrel
    have q0_0 := blk_cell h0 0
    have q0_1 := blk_cell h0 1
    have q1_0 := blk_cell h1 0
    have q1_1 := blk_cell h1 1
    simp only [List.getElem?_toArray, List.getElem?_cons_zero, List.getElem?_cons_succ] at q0_0 q0_1 q1_0 q1_1
    have f0 := blk_free h0
    have f1 := blk_free h1
    have z0 := blk_lt h0
    have z1 := blk_lt h1
    have H0 := Lib.hid h0
    have H1 := Lib.hid h1
    have HV := Lib.hid hv
    clear h0 h1 hv
    by_cases hlt : k < l.length
    · obtain ⟨bb, oo, rfl, e0, e1, hbb⟩ := hr.cell hlt
      have hs := take_snoc2 l k hlt
      have hsn := minL_snoc (l.take k) l[k] a
      rw [← hs, ← HV.out] at hsn
      have HSN := Lib.hid hsn
      clear hs hsn
      generalize l[k] = x at *
      have y0 := (hB.cell (p := ⟨bb, oo + k * 2, none⟩) hbb).trans e0
      have y1 := (hB.cell (p := ⟨bb, oo + k * 2 + 1, none⟩) hbb).trans e1
      clear e0 e1
      have hc := fun w => wide_cmp (hiW x) (loW x) (hiW v) (loW v) (U64.lo _) (U64.lo _) w
      rw [wv_hilo, wv_hilo] at hc
      by_cases hx : x < v
      · have hce : cmpI x v = -1 := by unfold cmpI; rw [if_neg (by omega), if_pos hx]
        rw [hce] at hc
        have HC := Lib.hid hc
        clear hc hce
        go_wp2_with (go_at_call 38; (with_reducible refine (HC.out _).mono ?_); rintro e w1 ⟨rfl, hb1⟩; obtain ⟨hc1, hf1⟩ := bcell hb1; have hz1 := hb1.size; (try simp at hz1); (try have hy1 := Nat.lt_of_succ_le hz1); (try have hv1 := Nat.lt_of_succ_lt hy1); (try have hw10 : w.heap.size < w1.heap.size := by omega); (try have hw11 : w.heap.size + 1 < w1.heap.size := by omega); (try have hw12 : w.heap.size + 1 + 1 < w1.heap.size := by omega); (try have hw13 : w.heap.size + 1 + 1 + 1 < w1.heap.size := by omega))
        go_roundw
        case rel =>
          refine ⟨k + 1, x, by omega, by go_num, by rw [HSN.out, if_pos hx], ?_, ?_, (by repeat (first | (with_reducible assumption) | (with_reducible exact Below.refl _ _) | (with_reducible refine Below.alloc ?_ (by first | omega | (simp; omega) | (simp; done) | (dsimp only; omega)) _) | (with_reducible refine Below.setCell ?_ (by first | omega | (simp; omega) | (simp; done) | (dsimp only; omega)) _) | (with_reducible refine Below.drew ?_) | (with_reducible refine Below.trans ?_ (Below.mono (by assumption) (by first | omega | (simp; omega) | (simp; done) | (dsimp only; omega))))))⟩
          · refine blk_set2 (c0 := .int .i64 (hiW v)) (c1 := .int .u64 (loW v)) ?_
            rw [hb1.block _ (by simp; omega), alloc_old _ _ z0]; exact H0.out
          · iterate 2 (refine (Below.heap_setCell _ _ _ _ (by dsimp only; omega)).trans ?_)
            rw [hb1.block _ (by simp; omega), alloc_old _ _ z1]; exact H1.out
        case measure => simp [intOf]; omega
      · have hce : cmpI x v = 0 ∨ cmpI x v = 1 := by unfold cmpI; split <;> (try split) <;> omega
        generalize cmpI x v = cc at *
        rcases hce with rfl | rfl
        all_goals
          have HC := Lib.hid hc
          clear hc
          go_wp2_with (go_at_call 38; (with_reducible refine (HC.out _).mono ?_); rintro e w1 ⟨rfl, hb1⟩; obtain ⟨hc1, hf1⟩ := bcell hb1; have hz1 := hb1.size; (try simp at hz1); (try have hy1 := Nat.lt_of_succ_le hz1); (try have hv1 := Nat.lt_of_succ_lt hy1); (try have hw10 : w.heap.size < w1.heap.size := by omega); (try have hw11 : w.heap.size + 1 < w1.heap.size := by omega); (try have hw12 : w.heap.size + 1 + 1 < w1.heap.size := by omega); (try have hw13 : w.heap.size + 1 + 1 + 1 < w1.heap.size := by omega))
          go_roundw
          case rel =>
            refine ⟨k + 1, v, by omega, by go_num, by rw [HSN.out, if_neg (by omega)], ?_, ?_, (by repeat (first | (with_reducible assumption) | (with_reducible exact Below.refl _ _) | (with_reducible refine Below.alloc ?_ (by first | omega | (simp; omega) | (simp; done) | (dsimp only; omega)) _) | (with_reducible refine Below.setCell ?_ (by first | omega | (simp; omega) | (simp; done) | (dsimp only; omega)) _) | (with_reducible refine Below.drew ?_) | (with_reducible refine Below.trans ?_ (Below.mono (by assumption) (by first | omega | (simp; omega) | (simp; done) | (dsimp only; omega))))))⟩
            · rw [hb1.block _ (by simp; omega), alloc_old _ _ z0]; exact H0.out
            · rw [hb1.block _ (by simp; omega), alloc_old _ _ z1]; exact H1.out
          case measure => simp [intOf]; omega
    · have HE : Hid (v = minL l a) := Lib.hid (by rw [HV.out, List.take_of_length_le (by omega)])
      go_wp2
      refine bodyPost_ret (by simp [results, Try.results72, go_sem, *] <;> rfl) rfl ⟨?_, (by repeat (first | (with_reducible assumption) | (with_reducible exact Below.refl _ _) | (with_reducible refine Below.alloc ?_ (by first | omega | (simp; omega) | (simp; done) | (dsimp only; omega)) _) | (with_reducible refine Below.setCell ?_ (by first | omega | (simp; omega) | (simp; done) | (dsimp only; omega)) _) | (with_reducible refine Below.drew ?_) | (with_reducible refine Below.trans ?_ (Below.mono (by assumption) (by first | omega | (simp; omega) | (simp; done) | (dsimp only; omega))))))⟩
      rw [HE.out]
set_option maxRecDepth 100000 in
set_option maxHeartbeats 2000000 in
theorem wide_max (a : Int) (l : List Int) (A : Option Addr) (c : Nat) (w : World) (hm : l.length ≤ 9223372036854775807) (hr : WRow w A l) :
    Calls Try.prog 73 #[.agg #[.int .i64 (hiW a), .int .u64 (loW a)], .slice A l.length c] w fun e w' => e = .returned (.agg #[.int .i64 (hiW (maxL l a)), .int .u64 (loW (maxL l a))]) ∧ Below w.heap.size w w' := by
  go_enter Try.func73, Try.ntmps73
  go_wp2
  go_loopw [9] (fun vi wx => BestW maxL l a w.heap.size w vi wx) (fun vi _ => l.length - (intOf vi).toNat)
  case atStart =>
    refine ⟨0, a, Nat.zero_le _, rfl, rfl, ?_, ?_, (by repeat (first | (with_reducible assumption) | (with_reducible exact Below.refl _ _) | (with_reducible refine Below.alloc ?_ (by first | omega | (simp; omega) | (simp; done) | (dsimp only; omega)) _) | (with_reducible refine Below.setCell ?_ (by first | omega | (simp; omega) | (simp; done) | (dsimp only; omega)) _) | (with_reducible refine Below.drew ?_) | (with_reducible refine Below.trans ?_ (Below.mono (by assumption) (by first | omega | (simp; omega) | (simp; done) | (dsimp only; omega))))))⟩
    · exact alloc_prev _ _ _
    · exact alloc_next _ _ _
  case round =>
    obtain ⟨k, v, hk, rfl, hv, h0, h1, hB⟩ := hrel
    have q0_0 := blk_cell h0 0
    have q0_1 := blk_cell h0 1
    have q1_0 := blk_cell h1 0
    have q1_1 := blk_cell h1 1
    simp only [List.getElem?_toArray, List.getElem?_cons_zero, List.getElem?_cons_succ] at q0_0 q0_1 q1_0 q1_1
    have f0 := blk_free h0
    have f1 := blk_free h1
    have z0 := blk_lt h0
    have z1 := blk_lt h1
    have H0 := Lib.hid h0
    have H1 := Lib.hid h1
    have HV := Lib.hid hv
    clear h0 h1 hv
    by_cases hlt : k < l.length
    · obtain ⟨bb, oo, rfl, e0, e1, hbb⟩ := hr.cell hlt
      have hs := take_snoc2 l k hlt
      have hsn := maxL_snoc (l.take k) l[k] a
      rw [← hs, ← HV.out] at hsn
      have HSN := Lib.hid hsn
      clear hs hsn
      generalize l[k] = x at *
      have y0 := (hB.cell (p := ⟨bb, oo + k * 2, none⟩) hbb).trans e0
      have y1 := (hB.cell (p := ⟨bb, oo + k * 2 + 1, none⟩) hbb).trans e1
      clear e0 e1
      have hc := fun w => wide_cmp (hiW x) (loW x) (hiW v) (loW v) (U64.lo _) (U64.lo _) w
      rw [wv_hilo, wv_hilo] at hc
      by_cases hx : v < x
      · have hce : cmpI x v = 1 := by unfold cmpI; rw [if_neg (by omega), if_neg (by omega)]
        rw [hce] at hc
        have HC := Lib.hid hc
        clear hc hce
        go_wp2_with (go_at_call 38; (with_reducible refine (HC.out _).mono ?_); rintro e w1 ⟨rfl, hb1⟩; obtain ⟨hc1, hf1⟩ := bcell hb1; have hz1 := hb1.size; (try simp at hz1); (try have hy1 := Nat.lt_of_succ_le hz1); (try have hv1 := Nat.lt_of_succ_lt hy1); (try have hw10 : w.heap.size < w1.heap.size := by omega); (try have hw11 : w.heap.size + 1 < w1.heap.size := by omega); (try have hw12 : w.heap.size + 1 + 1 < w1.heap.size := by omega); (try have hw13 : w.heap.size + 1 + 1 + 1 < w1.heap.size := by omega))
        go_roundw
        case rel =>
          refine ⟨k + 1, x, by omega, by go_num, by rw [HSN.out, if_pos hx], ?_, ?_, (by repeat (first | (with_reducible assumption) | (with_reducible exact Below.refl _ _) | (with_reducible refine Below.alloc ?_ (by first | omega | (simp; omega) | (simp; done) | (dsimp only; omega)) _) | (with_reducible refine Below.setCell ?_ (by first | omega | (simp; omega) | (simp; done) | (dsimp only; omega)) _) | (with_reducible refine Below.drew ?_) | (with_reducible refine Below.trans ?_ (Below.mono (by assumption) (by first | omega | (simp; omega) | (simp; done) | (dsimp only; omega))))))⟩
          · refine blk_set2 (c0 := .int .i64 (hiW v)) (c1 := .int .u64 (loW v)) ?_
            rw [hb1.block _ (by simp; omega), alloc_old _ _ z0]; exact H0.out
          · iterate 2 (refine (Below.heap_setCell _ _ _ _ (by dsimp only; omega)).trans ?_)
            rw [hb1.block _ (by simp; omega), alloc_old _ _ z1]; exact H1.out
        case measure => simp [intOf]; omega
      · have hce : cmpI x v = 0 ∨ cmpI x v = -1 := by unfold cmpI; split <;> (try split) <;> omega
        generalize cmpI x v = cc at *
        rcases hce with rfl | rfl
        all_goals
          have HC := Lib.hid hc
          clear hc
          go_wp2_with (go_at_call 38; (with_reducible refine (HC.out _).mono ?_); rintro e w1 ⟨rfl, hb1⟩; obtain ⟨hc1, hf1⟩ := bcell hb1; have hz1 := hb1.size; (try simp at hz1); (try have hy1 := Nat.lt_of_succ_le hz1); (try have hv1 := Nat.lt_of_succ_lt hy1); (try have hw10 : w.heap.size < w1.heap.size := by omega); (try have hw11 : w.heap.size + 1 < w1.heap.size := by omega); (try have hw12 : w.heap.size + 1 + 1 < w1.heap.size := by omega); (try have hw13 : w.heap.size + 1 + 1 + 1 < w1.heap.size := by omega))
          go_roundw
          case rel =>
            refine ⟨k + 1, v, by omega, by go_num, by rw [HSN.out, if_neg (by omega)], ?_, ?_, (by repeat (first | (with_reducible assumption) | (with_reducible exact Below.refl _ _) | (with_reducible refine Below.alloc ?_ (by first | omega | (simp; omega) | (simp; done) | (dsimp only; omega)) _) | (with_reducible refine Below.setCell ?_ (by first | omega | (simp; omega) | (simp; done) | (dsimp only; omega)) _) | (with_reducible refine Below.drew ?_) | (with_reducible refine Below.trans ?_ (Below.mono (by assumption) (by first | omega | (simp; omega) | (simp; done) | (dsimp only; omega))))))⟩
            · rw [hb1.block _ (by simp; omega), alloc_old _ _ z0]; exact H0.out
            · rw [hb1.block _ (by simp; omega), alloc_old _ _ z1]; exact H1.out
          case measure => simp [intOf]; omega
    · have HE : Hid (v = maxL l a) := Lib.hid (by rw [HV.out, List.take_of_length_le (by omega)])
      go_wp2
      refine bodyPost_ret (by simp [results, Try.results73, go_sem, *] <;> rfl) rfl ⟨?_, (by repeat (first | (with_reducible assumption) | (with_reducible exact Below.refl _ _) | (with_reducible refine Below.alloc ?_ (by first | omega | (simp; omega) | (simp; done) | (dsimp only; omega)) _) | (with_reducible refine Below.setCell ?_ (by first | omega | (simp; omega) | (simp; done) | (dsimp only; omega)) _) | (with_reducible refine Below.drew ?_) | (with_reducible refine Below.trans ?_ (Below.mono (by assumption) (by first | omega | (simp; omega) | (simp; done) | (dsimp only; omega))))))⟩
      rw [HE.out]
end Go.Proofs.Ytdphjfppfngcmaa
