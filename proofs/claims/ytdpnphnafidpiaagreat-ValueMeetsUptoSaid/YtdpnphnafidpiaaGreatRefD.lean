/- What sondageref01.Cmp returns. -/
import Derived.Test.YtdpnphnafidpiaaGreatRefZ
namespace Go.Proofs.YtdpnphnafidpiaaGreat
open Go.RowKit

/-- Two lists of digits in two blocks of their own. -/
def CutCmp (a b c d : Int) (w : World) (s5 s6 : Value) (wx : World) : Prop :=
  ∃ b5 b6 : Nat, s5 = .pointer (some ⟨b5, 0, none⟩) ∧ s6 = .pointer (some ⟨b6, 0, none⟩)
    ∧ wx.heap[b5]? = some (.cells #[.int .u64 (dg 0 b), .int .u64 (dg 1 b), .int .u64 (dg 2 b), .int .u64 (dg 3 b), .int .u64 (dg 0 (IntKind.u64.wrap a)), .int .u64 (dg 1 (IntKind.u64.wrap a)), .int .u64 (dg 2 (IntKind.u64.wrap a)), .int .u64 (dg 3 (IntKind.u64.wrap a))] 92)
    ∧ wx.heap[b6]? = some (.cells #[.int .u64 (dg 0 d), .int .u64 (dg 1 d), .int .u64 (dg 2 d), .int .u64 (dg 3 d), .int .u64 (dg 0 (IntKind.u64.wrap c)), .int .u64 (dg 1 (IntKind.u64.wrap c)), .int .u64 (dg 2 (IntKind.u64.wrap c)), .int .u64 (dg 3 (IntKind.u64.wrap c))] 92)
    ∧ Below w.heap.size w wx

theorem digs_cell {a b : Int} {wx : World} {b5 : Nat} (g : ∀ o, wx.cell? ⟨b5, o, none⟩ = (#[.int .u64 (dg 0 b), .int .u64 (dg 1 b), .int .u64 (dg 2 b), .int .u64 (dg 3 b), .int .u64 (dg 0 (IntKind.u64.wrap a)), .int .u64 (dg 1 (IntKind.u64.wrap a)), .int .u64 (dg 2 (IntKind.u64.wrap a)), .int .u64 (dg 3 (IntKind.u64.wrap a))] : Array Value)[o]?) :
    ∀ m, m < 8 → wx.cell? ⟨b5, m, none⟩ = some (.int .u64 (digs a b m)) := by
  intro m hm
  rw [g]
  have : m = 0 ∨ m = 1 ∨ m = 2 ∨ m = 3 ∨ m = 4 ∨ m = 5 ∨ m = 6 ∨ m = 7 := by omega
  rcases this with rfl | rfl | rfl | rfl | rfl | rfl | rfl | rfl <;> rfl

def CmpRel (a b c d : Int) (w : World) (b5 b6 : Nat) (i : Value) (wx : World) : Prop :=
  ∃ k : Nat, k ≤ 8 ∧ i = .int .i64 ((k : Int) - 1) ∧ cmpR (digs a b) (digs c d) 8 = cmpR (digs a b) (digs c d) k
    ∧ (∀ m, m < 8 → wx.cell? ⟨b5, m, none⟩ = some (.int .u64 (digs a b m))) ∧ (∀ m, m < 8 → wx.cell? ⟨b6, m, none⟩ = some (.int .u64 (digs c d m))) ∧ Below w.heap.size w wx

set_option maxRecDepth 100000 in
set_option maxHeartbeats 4000000 in
theorem r_cmp_same (a b c d : Int) (hb : U64 b) (hd : U64 d) (hs : (!decide (a < 0) == decide (c < 0)) = false) (w : World) :
    Calls Tryz.prog 54 #[.agg #[.int .i64 a, .int .u64 b], .agg #[.int .i64 c, .int .u64 d]] w fun e w' =>
      e = .returned (.int .i64 (cmpR (digs a b) (digs c d) 8)) ∧ Below w.heap.size w w' := by
  go_enter Tryz.func54, Tryz.ntmps54
  go_upto_region 5 with fail
  go_cut [5, 6] (fun s5 s6 wx => CutCmp a b c d w s5 s6 wx)
  case first =>
    refine wp_region_noPanic ?_
    refine region_grow (by kernel_rfl) ?_
    refine take_first 0 18 (.agg #[.int .i64 a, .int .u64 b]) rfl rfl (by kernel_rfl) (by kernel_rfl) (by kernel_rfl) (fun _ _ _ h => h) (by rfl) (fun w' hS => ?_) (Below.refl _ _) ?_
    · obtain ⟨hc, hf⟩ := bcell hS
      go_simp
    refine take_first 2 20 (.agg #[.int .i64 c, .int .u64 d]) rfl rfl (by kernel_rfl) (by kernel_rfl) (by kernel_rfl) (fun _ _ _ h => h) (by rfl) (fun w' hS => ?_) (Below.refl _ _) ?_
    · obtain ⟨hc, hf⟩ := bcell hS
      go_simp
    simp only [Act.put, List.setIfInBounds_toArray, List.set_cons_zero, List.set_cons_succ]
    refine grow_start (G := [⟨1, 19, some (.agg #[.int .u64 (dg 0 b), .int .u64 (dg 1 b), .int .u64 (dg 2 b), .int .u64 (dg 3 b), .int .u64 (dg 0 (IntKind.u64.wrap a)), .int .u64 (dg 1 (IntKind.u64.wrap a)), .int .u64 (dg 2 (IntKind.u64.wrap a)), .int .u64 (dg 3 (IntKind.u64.wrap a))]), #[], 0⟩, ⟨3, 21, some (.agg #[.int .u64 (dg 0 d), .int .u64 (dg 1 d), .int .u64 (dg 2 d), .int .u64 (dg 3 d), .int .u64 (dg 0 (IntKind.u64.wrap c)), .int .u64 (dg 1 (IntKind.u64.wrap c)), .int .u64 (dg 2 (IntKind.u64.wrap c)), .int .u64 (dg 3 (IntKind.u64.wrap c))]), #[], 0⟩, ⟨4, 5, none, #[.int .u64 0, .int .u64 0, .int .u64 0, .int .u64 0, .int .u64 0, .int .u64 0, .int .u64 0, .int .u64 0], 92⟩, ⟨5, 6, none, #[.int .u64 0, .int .u64 0, .int .u64 0, .int .u64 0, .int .u64 0, .int .u64 0, .int .u64 0, .int .u64 0], 92⟩]) (fun _ => undef) (by kernel_rfl) (by simp) (by simp) (by rfl) 2 (by rfl) ⟨?_, ?_, ?_, ?_, trivial⟩ (fun vals w1 hJ => ?_)
    · intro vals w' K hB _ hK
      refine wpOp_step rfl (fun K' hK' => ?_)
      have HK := Lib.hid (fun x w'' h => hK' _ _ (hK x w'' h)); clear hK hK'
      have hB0 := hB.size; obtain ⟨hc1, hf1⟩ := bcell hB; clear hB; (try simp at hB0)
      simp only [putAll, List.map, List.foldl, Act.put, List.setIfInBounds_toArray, List.set_cons_zero, List.set_cons_succ]
      go_simp
      refine (r_digits _ _ (by assumption) _).mono ?_
      rintro e w1 ⟨rfl, C1, C2, C3, rfl⟩
      exact HK.out _ _ ⟨rfl, (by repeat (first | (with_reducible assumption) | (with_reducible exact Below.refl _ _) | (with_reducible refine Below.alloc ?_ (by first | omega | (simp; omega) | (simp; done) | (dsimp only; omega)) _) | (with_reducible refine Below.setCell ?_ (by first | omega | (simp; omega) | (simp; done) | (dsimp only; omega)) _) | (with_reducible refine Below.drew ?_) | (with_reducible refine Below.trans ?_ (Below.mono (by assumption) (by first | omega | (simp; omega) | (simp; done) | (dsimp only; omega))))))⟩
    · intro vals w' K hB _ hK
      refine wpOp_step rfl (fun K' hK' => ?_)
      have HK := Lib.hid (fun x w'' h => hK' _ _ (hK x w'' h)); clear hK hK'
      have hB0 := hB.size; obtain ⟨hc1, hf1⟩ := bcell hB; clear hB; (try simp at hB0)
      simp only [putAll, List.map, List.foldl, Act.put, List.setIfInBounds_toArray, List.set_cons_zero, List.set_cons_succ]
      go_simp
      refine (r_digits _ _ (by assumption) _).mono ?_
      rintro e w1 ⟨rfl, C1, C2, C3, rfl⟩
      exact HK.out _ _ ⟨rfl, (by repeat (first | (with_reducible assumption) | (with_reducible exact Below.refl _ _) | (with_reducible refine Below.alloc ?_ (by first | omega | (simp; omega) | (simp; done) | (dsimp only; omega)) _) | (with_reducible refine Below.setCell ?_ (by first | omega | (simp; omega) | (simp; done) | (dsimp only; omega)) _) | (with_reducible refine Below.drew ?_) | (with_reducible refine Below.trans ?_ (Below.mono (by assumption) (by first | omega | (simp; omega) | (simp; done) | (dsimp only; omega))))))⟩
    · intro vals w' K hB _ hK
      refine wpOp_step rfl (fun K' hK' => ?_)
      have HK := Lib.hid (fun x w'' h => hK' _ _ (hK x w'' h)); clear hK hK'
      have hB0 := hB.size; obtain ⟨hc1, hf1⟩ := bcell hB; clear hB; (try simp at hB0)
      simp only [putAll, List.map, List.foldl, Act.put, List.setIfInBounds_toArray, List.set_cons_zero, List.set_cons_succ]
      go_simp
      exact HK.out _ _ ⟨rfl, rfl⟩
    · intro vals w' K hB _ hK
      refine wpOp_step rfl (fun K' hK' => ?_)
      have HK := Lib.hid (fun x w'' h => hK' _ _ (hK x w'' h)); clear hK hK'
      have hB0 := hB.size; obtain ⟨hc1, hf1⟩ := bcell hB; clear hB; (try simp at hB0)
      simp only [putAll, List.map, List.foldl, Act.put, List.setIfInBounds_toArray, List.set_cons_zero, List.set_cons_succ]
      go_simp
      exact HK.out _ _ ⟨rfl, rfl⟩
    obtain ⟨hBl, hh, hd0⟩ := hJ
    have e19 := hh _ List.mem_cons_self (by simp)
    have e21 := hh _ (List.mem_cons_of_mem _ List.mem_cons_self) (by simp)
    have e5 := hh _ (List.mem_cons_of_mem _ (List.mem_cons_of_mem _ List.mem_cons_self)) (by simp)
    have e6 := hh _ (List.mem_cons_of_mem _ (List.mem_cons_of_mem _ (List.mem_cons_of_mem _ List.mem_cons_self))) (by simp)
    have hd5_6 := hd0 _ (List.mem_cons_of_mem _ (List.mem_cons_of_mem _ List.mem_cons_self)) _ (List.mem_cons_of_mem _ (List.mem_cons_of_mem _ (List.mem_cons_of_mem _ List.mem_cons_self))) (by simp) rfl rfl (by simp) (by simp)
    clear hh hd0
    obtain ⟨b5, e5, n5, h5⟩ := e5
    obtain ⟨b6, e6, n6, h6⟩ := e6
    simp only [Gr.holds] at e19 e21
    dsimp only at e5 h5
    dsimp only at e6 h6
    have hne5_6 : b5 ≠ b6 := fun e => hd5_6 (by show vals 5 = vals 6; rw [e5, e6, e])
    clear hd5_6
    simp only [putAll, List.map, List.foldl, Act.put, List.setIfInBounds_toArray, List.set_cons_zero, List.set_cons_succ, e19, e21, e5, e6]
    have x5 := lt_of_get h5
    (try simp at n5)
    have x6 := lt_of_get h6
    (try simp at n6)
    clear e19 e21 e5 e6
    have hBw : Below w.heap.size w w1 := (by repeat (first | (with_reducible assumption) | (with_reducible exact Below.refl _ _) | (with_reducible refine Below.alloc ?_ (by first | omega | (simp; omega) | (simp; done) | (dsimp only; omega)) _) | (with_reducible refine Below.setCell ?_ (by first | omega | (simp; omega) | (simp; done) | (dsimp only; omega)) _) | (with_reducible refine Below.drew ?_) | (with_reducible refine Below.trans ?_ (Below.mono (by assumption) (by first | omega | (simp; omega) | (simp; done) | (dsimp only; omega))))))
    have g5 := cell_of_block h5
    have g6 := cell_of_block h6
    have f5 := free_of_block h5
    have f6 := free_of_block h6
    have hne2 : b6 ≠ b5 := fun h => hne5_6 h.symm
    have H5 := Lib.hid h5
    have H6 := Lib.hid h6; clear h5 h6
    refine wpAnyH_ready (rs := [6]) (by kernel_rfl) (by simp) ?_
    refine AllReadyH.cons rfl (fun K hK => ?_) AllReadyH.nil
    go_simp
    refine hK.out _ _ (by repeat (first | (with_reducible assumption) | (with_reducible exact Below.refl _ _) | (with_reducible refine Below.alloc ?_ (by first | omega | (simp; omega) | (simp; done) | (dsimp only; omega)) _) | (with_reducible refine Below.setCell ?_ (by first | omega | (simp; omega) | (simp; done) | (dsimp only; omega)) _) | (with_reducible refine Below.drew ?_) | (with_reducible refine Below.trans ?_ (Below.mono (by assumption) (by first | omega | (simp; omega) | (simp; done) | (dsimp only; omega)))))) (fun hHeld => ?_)
    clear hHeld hK K
    try simp only [Act.put, List.setIfInBounds_toArray, List.set_cons_zero, List.set_cons_succ]
    refine wpAnyH_ready (rs := [7]) (by kernel_rfl) (by simp) ?_
    refine AllReadyH.cons rfl (fun K hK => ?_) AllReadyH.nil
    go_simp
    refine hK.out _ _ (by repeat (first | (with_reducible assumption) | (with_reducible exact Below.refl _ _) | (with_reducible refine Below.alloc ?_ (by first | omega | (simp; omega) | (simp; done) | (dsimp only; omega)) _) | (with_reducible refine Below.setCell ?_ (by first | omega | (simp; omega) | (simp; done) | (dsimp only; omega)) _) | (with_reducible refine Below.drew ?_) | (with_reducible refine Below.trans ?_ (Below.mono (by assumption) (by first | omega | (simp; omega) | (simp; done) | (dsimp only; omega)))))) (fun hHeld => ?_)
    clear hHeld hK K
    try simp only [Act.put, List.setIfInBounds_toArray, List.set_cons_zero, List.set_cons_succ]
    refine wpAnyH_done (by kernel_rfl) (NoPanic.normal ?_) _
    go_wp2_with fail
    go_meet
    exact ⟨b5, b6, rfl, rfl,
      by (iterate 8 (refine (Below.heap_setCell _ _ _ _ (by dsimp only; omega)).trans ?_))
         exact heap_set8 H5.out,
      by refine heap_set8 (c0 := .int .u64 0) (c1 := .int .u64 0) (c2 := .int .u64 0) (c3 := .int .u64 0) (c4 := .int .u64 0) (c5 := .int .u64 0) (c6 := .int .u64 0) (c7 := .int .u64 0) ?_
         (iterate 8 (refine (Below.heap_setCell _ _ _ _ (by dsimp only; omega)).trans ?_))
         exact H6.out, (by repeat (first | (with_reducible assumption) | (with_reducible exact Below.refl _ _) | (with_reducible refine Below.alloc ?_ (by first | omega | (simp; omega) | (simp; done) | (dsimp only; omega)) _) | (with_reducible refine Below.setCell ?_ (by first | omega | (simp; omega) | (simp; done) | (dsimp only; omega)) _) | (with_reducible refine Below.drew ?_) | (with_reducible refine Below.trans ?_ (Below.mono (by assumption) (by first | omega | (simp; omega) | (simp; done) | (dsimp only; omega))))))⟩
  case rest =>
    obtain ⟨b5, b6, rfl, rfl, hb5, hb6, hBl⟩ := hcut
    have g5 := digs_cell (cell_of_block hb5)
    have g6 := digs_cell (cell_of_block hb6)
    clear hb5 hb6
    have G5 := Lib.hid g5
    have G6 := Lib.hid g6
    clear g5 g6
    go_wp2
    go_loopw [7] (fun i wx => CmpRel a b c d w b5 b6 i wx) (fun i _ => (intOf i + 1).toNat)
    case atStart => exact ⟨8, Nat.le_refl _, rfl, rfl, G5.out, G6.out, hBl⟩
    case round =>
      obtain ⟨k, hk, rfl, hcmp, g5, g6, hBl⟩ := hrel
      have HC := Lib.hid hcmp
      clear hcmp
      obtain rfl | ⟨m, rfl⟩ : k = 0 ∨ ∃ m, k = m + 1 := by
        cases k with
        | zero => exact Or.inl rfl
        | succ m => exact Or.inr ⟨m, rfl⟩
      · go_wp2
        go_ret
        exact ⟨ret_int HC.out.symm, (by repeat (first | (with_reducible assumption) | (with_reducible exact Below.refl _ _) | (with_reducible refine Below.alloc ?_ (by first | omega | (simp; omega) | (simp; done) | (dsimp only; omega)) _) | (with_reducible refine Below.setCell ?_ (by first | omega | (simp; omega) | (simp; done) | (dsimp only; omega)) _) | (with_reducible refine Below.drew ?_) | (with_reducible refine Below.trans ?_ (Below.mono (by assumption) (by first | omega | (simp; omega) | (simp; done) | (dsimp only; omega))))))⟩
      · rw [show (((m + 1 : Nat) : Int) - 1) = (m : Int) by omega]
        have c5 := g5 m (by omega)
        have c6 := g6 m (by omega)
        have K5 := Lib.hid g5
        have K6 := Lib.hid g6
        clear g5 g6
        go_wp2
        go_region
        go_wp2
        · go_ret
          exact ⟨ret_int (by rw [HC.out, cmpR, if_pos (by omega)]), (by repeat (first | (with_reducible assumption) | (with_reducible exact Below.refl _ _) | (with_reducible refine Below.alloc ?_ (by first | omega | (simp; omega) | (simp; done) | (dsimp only; omega)) _) | (with_reducible refine Below.setCell ?_ (by first | omega | (simp; omega) | (simp; done) | (dsimp only; omega)) _) | (with_reducible refine Below.drew ?_) | (with_reducible refine Below.trans ?_ (Below.mono (by assumption) (by first | omega | (simp; omega) | (simp; done) | (dsimp only; omega))))))⟩
        · go_region
          go_wp2
          · go_ret
            exact ⟨ret_int (by rw [HC.out, cmpR, if_neg (by omega), if_pos (by omega)]), (by repeat (first | (with_reducible assumption) | (with_reducible exact Below.refl _ _) | (with_reducible refine Below.alloc ?_ (by first | omega | (simp; omega) | (simp; done) | (dsimp only; omega)) _) | (with_reducible refine Below.setCell ?_ (by first | omega | (simp; omega) | (simp; done) | (dsimp only; omega)) _) | (with_reducible refine Below.drew ?_) | (with_reducible refine Below.trans ?_ (Below.mono (by assumption) (by first | omega | (simp; omega) | (simp; done) | (dsimp only; omega))))))⟩
          · go_roundw
            case rel => exact ⟨m, by omega, rfl, by rw [HC.out, cmpR, if_neg (by omega), if_neg (by omega)], K5.out, K6.out, (by repeat (first | (with_reducible assumption) | (with_reducible exact Below.refl _ _) | (with_reducible refine Below.alloc ?_ (by first | omega | (simp; omega) | (simp; done) | (dsimp only; omega)) _) | (with_reducible refine Below.setCell ?_ (by first | omega | (simp; omega) | (simp; done) | (dsimp only; omega)) _) | (with_reducible refine Below.drew ?_) | (with_reducible refine Below.trans ?_ (Below.mono (by assumption) (by first | omega | (simp; omega) | (simp; done) | (dsimp only; omega))))))⟩
            case measure => simp [intOf]

set_option maxHeartbeats 400000 in
theorem r_cmp (a b c d : Int) (ha : I64 a) (hb : U64 b) (hc : I64 c) (hd : U64 d) (w : World) :
    Calls Tryz.prog 54 #[.agg #[.int .i64 a, .int .u64 b], .agg #[.int .i64 c, .int .u64 d]] w fun e w' =>
      e = .returned (.int .i64 (cmpI (wv a b) (wv c d))) ∧ Below w.heap.size w w' := by
  by_cases hs : (!decide (a < 0) == decide (c < 0)) = false
  · rw [← cmpR_digs hb hd ha hc hs]
    exact r_cmp_same a b c d hb hd hs w
  · by_cases h1 : a < 0
    · have h2 : ¬ c < 0 := fun h2 => hs (by simp [h1, h2])
      have e : cmpI (wv a b) (wv c d) = -1 := by
        unfold U64 M64 at hb hd; unfold cmpI wv M64; rw [if_neg (by omega), if_pos (by omega)]
      rw [e]; clear e hs
      go_enter Tryz.func54, Tryz.ntmps54
      go_wp2
      go_ret
      exact ⟨rfl, (by repeat (first | (with_reducible assumption) | (with_reducible exact Below.refl _ _) | (with_reducible refine Below.alloc ?_ (by first | omega | (simp; omega) | (simp; done) | (dsimp only; omega)) _) | (with_reducible refine Below.setCell ?_ (by first | omega | (simp; omega) | (simp; done) | (dsimp only; omega)) _) | (with_reducible refine Below.drew ?_) | (with_reducible refine Below.trans ?_ (Below.mono (by assumption) (by first | omega | (simp; omega) | (simp; done) | (dsimp only; omega))))))⟩
    · have h2 : c < 0 := by
        apply Classical.byContradiction; intro h2; exact hs (by simp [h1, h2])
      have e : cmpI (wv a b) (wv c d) = 1 := by
        unfold U64 M64 at hb hd; unfold cmpI wv M64; rw [if_neg (by omega), if_neg (by omega)]
      rw [e]; clear e hs
      go_enter Tryz.func54, Tryz.ntmps54
      go_wp2
      go_ret
      exact ⟨rfl, (by repeat (first | (with_reducible assumption) | (with_reducible exact Below.refl _ _) | (with_reducible refine Below.alloc ?_ (by first | omega | (simp; omega) | (simp; done) | (dsimp only; omega)) _) | (with_reducible refine Below.setCell ?_ (by first | omega | (simp; omega) | (simp; done) | (dsimp only; omega)) _) | (with_reducible refine Below.drew ?_) | (with_reducible refine Below.trans ?_ (Below.mono (by assumption) (by first | omega | (simp; omega) | (simp; done) | (dsimp only; omega))))))⟩
end Go.Proofs.YtdpnphnafidpiaaGreat
