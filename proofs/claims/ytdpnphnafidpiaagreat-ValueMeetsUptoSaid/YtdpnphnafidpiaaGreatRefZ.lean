/- Texts RefA, RefB, RefC. -/
import Derived.Test.YtdpnphnafidpiaaGreatRows
import Derived.Test.YtdpnphnafidpiaaGreatMathZ
import Derived.Test.YtdpnphnafidpiaaGreatKit
import Derived.Handy
import Derived.Deep.DeepCutAuto
import Derived.Deep.RegionHeld3
import Derived.StillTactics
import Derived.Laws.Pointers
import Derived.Test.YtdpnphnafidpiaaGreatGrow
/- What each function of package sondageref01 returns. -/
namespace Go.Proofs.YtdpnphnafidpiaaGreat
open Go.RowKit

set_option maxRecDepth 100000 in
set_option maxHeartbeats 1000000 in
theorem r_digits (a b : Int) (hb : U64 b) (w : World) :
    Calls Tryz.prog 93 #[.agg #[.int .i64 a, .int .u64 b]] w fun e w' =>
      e = .returned (.agg #[.int .u64 (dg 0 b), .int .u64 (dg 1 b), .int .u64 (dg 2 b), .int .u64 (dg 3 b), .int .u64 (dg 0 (IntKind.u64.wrap a)), .int .u64 (dg 1 (IntKind.u64.wrap a)), .int .u64 (dg 2 (IntKind.u64.wrap a)), .int .u64 (dg 3 (IntKind.u64.wrap a))]) ∧ ∃ C1 C2 C3 : Array Value, w' = (((w.alloc (.cells C1 47)).alloc (.cells C2 92)).alloc (.cells C3 92)).drew := by
  have ha := U64.wrap a
  rw [dg0, dg0, dg1, dg1, dg2, dg2, dg3, dg3]
  have b1 : 0 ≤ b := hb.1
  have b2 : b ≤ 18446744073709551615 := by have := hb.2; unfold M64 at this; omega
  have a1 := ha.1
  have a2 : IntKind.u64.wrap a ≤ 18446744073709551615 := by have := ha.2; unfold M64 at this; omega
  clear ha hb
  go_enter Tryz.func93, Tryz.ntmps93
  go_wp2
  go_region
  go_wp2
  go_rounds 5
  exact bodyPost_ret (by simp [results, Tryz.results93, go_sem, *] <;> rfl) rfl ⟨rfl, _, _, _, rfl⟩

set_option maxRecDepth 100000 in
set_option maxHeartbeats 1000000 in
theorem r_wide (a b c d e f g h : Int) (ha : D16 a) (hb : D16 b) (hc : D16 c) (hd : D16 d) (he : D16 e) (hf : D16 f) (hg : D16 g) (hh : D16 h) (w : World) :
    Calls Tryz.prog 94 #[.agg #[.int .u64 a, .int .u64 b, .int .u64 c, .int .u64 d, .int .u64 e, .int .u64 f, .int .u64 g, .int .u64 h]] w fun e' w' =>
      e' = .returned (.agg #[.int .i64 (wrap64 (cat4 e f g h)), .int .u64 (cat4 a b c d)]) ∧ Below w.heap.size w w' := by
  unfold cat4
  obtain ⟨a1, a2⟩ := ha
  obtain ⟨b1, b2⟩ := hb
  obtain ⟨c1, c2⟩ := hc
  obtain ⟨d1, d2⟩ := hd
  obtain ⟨e1, e2⟩ := he
  obtain ⟨f1, f2⟩ := hf
  obtain ⟨g1, g2⟩ := hg
  obtain ⟨h1, h2⟩ := hh
  go_enter Tryz.func94, Tryz.ntmps94
  go_wp2
  go_rounds 5
  exact bodyPost_ret (by simp [results, Tryz.results94, go_sem, *] <;> rfl) rfl ⟨rfl, (by repeat (first | (with_reducible assumption) | (with_reducible exact Below.refl _ _) | (with_reducible refine Below.alloc ?_ (by first | omega | (simp; omega) | (simp; done) | (dsimp only; omega)) _) | (with_reducible refine Below.setCell ?_ (by first | omega | (simp; omega) | (simp; done) | (dsimp only; omega)) _) | (with_reducible refine Below.drew ?_) | (with_reducible refine Below.trans ?_ (Below.mono (by assumption) (by first | omega | (simp; omega) | (simp; done) | (dsimp only; omega))))))⟩
end Go.Proofs.YtdpnphnafidpiaaGreat

/- What sondageref01.Add returns. -/
namespace Go.Proofs.YtdpnphnafidpiaaGreat
open Go.RowKit

theorem heap_set {w : World} {b : Nat} {C : Array Value} {t : TypeId} (h : w.heap[b]? = some (.cells C t)) (o : Nat) (v : Value) : (w.setCell ⟨b, o, none⟩ v).heap[b]? = some (.cells (C.setIfInBounds o v) t) := by
  simp [World.setCell, Array.getElem?_modify, h]
theorem heap_set8 {w : World} {b : Nat} {c0 c1 c2 c3 c4 c5 c6 c7 v0 v1 v2 v3 v4 v5 v6 v7 : Value} {t : TypeId} (h : w.heap[b]? = some (.cells #[c0, c1, c2, c3, c4, c5, c6, c7] t)) :
    ((((((((w.setCell ⟨b, 0, none⟩ v0).setCell ⟨b, 1, none⟩ v1).setCell ⟨b, 2, none⟩ v2).setCell ⟨b, 3, none⟩ v3).setCell ⟨b, 4, none⟩ v4).setCell ⟨b, 5, none⟩ v5).setCell ⟨b, 6, none⟩ v6).setCell ⟨b, 7, none⟩ v7).heap[b]?
      = some (.cells #[v0, v1, v2, v3, v4, v5, v6, v7] t) := by
  simp [World.setCell, Array.getElem?_modify, h]
theorem cell_of_block {w : World} {b : Nat} {C : Array Value} {t : TypeId} (h : w.heap[b]? = some (.cells C t)) (o : Nat) : w.cell? ⟨b, o, none⟩ = C[o]? := by
  simp [World.cell?, h]
theorem free_of_block {w : World} {b : Nat} {C : Array Value} {t : TypeId} (h : w.heap[b]? = some (.cells C t)) (o : Nat) : w.frozen? ⟨b, o, none⟩ = false := by
  simp [World.frozen?, h]
/-- What two lists of digits in two blocks of their own are. -/
def CutAB (a b c d : Int) (w : World) (s5 s6 : Value) (wx : World) : Prop :=
  ∃ b5 b6 : Nat, s5 = .pointer (some ⟨b5, 0, none⟩) ∧ s6 = .pointer (some ⟨b6, 0, none⟩) ∧ b5 ≠ b6 ∧ w.heap.size + 2 < b5 ∧ w.heap.size + 2 < b6 ∧ b5 < wx.heap.size ∧ b6 < wx.heap.size
    ∧ wx.heap[b5]? = some (.cells #[.int .u64 (dg 0 b), .int .u64 (dg 1 b), .int .u64 (dg 2 b), .int .u64 (dg 3 b), .int .u64 (dg 0 (IntKind.u64.wrap a)), .int .u64 (dg 1 (IntKind.u64.wrap a)), .int .u64 (dg 2 (IntKind.u64.wrap a)), .int .u64 (dg 3 (IntKind.u64.wrap a))] 92)
    ∧ wx.heap[b6]? = some (.cells #[.int .u64 (dg 0 d), .int .u64 (dg 1 d), .int .u64 (dg 2 d), .int .u64 (dg 3 d), .int .u64 (dg 0 (IntKind.u64.wrap c)), .int .u64 (dg 1 (IntKind.u64.wrap c)), .int .u64 (dg 2 (IntKind.u64.wrap c)), .int .u64 (dg 3 (IntKind.u64.wrap c))] 92)
    ∧ wx.cell? ⟨w.heap.size + 1 + 1, 0, none⟩ = some (.int .i64 0) ∧ wx.cell? ⟨w.heap.size + 1 + 1, 1, none⟩ = some (.int .u64 0) ∧ wx.frozen? ⟨w.heap.size + 1 + 1, 0, none⟩ = false ∧ wx.frozen? ⟨w.heap.size + 1 + 1, 1, none⟩ = false
    ∧ Below w.heap.size w wx

set_option maxRecDepth 100000 in
set_option maxHeartbeats 16000000 in
theorem r_add (a b c d : Int) (hb : U64 b) (hd : U64 d) (w : World) :
    Calls Tryz.prog 57 #[.agg #[.int .i64 a, .int .u64 b], .agg #[.int .i64 c, .int .u64 d]] w fun e w' =>
      e = .returned (.agg #[.int .i64 (hiW (wrap128 (wv a b + wv c d))), .int .u64 (loW (wrap128 (wv a b + wv c d)))]) ∧ Below w.heap.size w w' := by
  go_enter Tryz.func57, Tryz.ntmps57
  go_upto_region 1 with fail
  go_cut [5, 6] (fun s5 s6 wx => CutAB a b c d w s5 s6 wx)
  case first =>
    refine wp_region_noPanic ?_
    refine region_grow (by kernel_rfl) ?_
    refine take_first 0 10 (.agg #[.int .i64 a, .int .u64 b]) rfl rfl (by kernel_rfl) (by kernel_rfl) (by kernel_rfl) (fun _ _ _ h => h) (by rfl) (fun w' hS => ?_) (Below.refl _ _) ?_
    · obtain ⟨hc, hf⟩ := bcell hS
      go_simp
    refine take_first 2 12 (.agg #[.int .i64 c, .int .u64 d]) rfl rfl (by kernel_rfl) (by kernel_rfl) (by kernel_rfl) (fun _ _ _ h => h) (by rfl) (fun w' hS => ?_) (Below.refl _ _) ?_
    · obtain ⟨hc, hf⟩ := bcell hS
      go_simp
    simp only [Act.put, List.setIfInBounds_toArray, List.set_cons_zero, List.set_cons_succ]
    refine grow_start (G := [⟨1, 11, some (.agg #[.int .u64 (dg 0 b), .int .u64 (dg 1 b), .int .u64 (dg 2 b), .int .u64 (dg 3 b), .int .u64 (dg 0 (IntKind.u64.wrap a)), .int .u64 (dg 1 (IntKind.u64.wrap a)), .int .u64 (dg 2 (IntKind.u64.wrap a)), .int .u64 (dg 3 (IntKind.u64.wrap a))]), #[], 0⟩, ⟨3, 13, some (.agg #[.int .u64 (dg 0 d), .int .u64 (dg 1 d), .int .u64 (dg 2 d), .int .u64 (dg 3 d), .int .u64 (dg 0 (IntKind.u64.wrap c)), .int .u64 (dg 1 (IntKind.u64.wrap c)), .int .u64 (dg 2 (IntKind.u64.wrap c)), .int .u64 (dg 3 (IntKind.u64.wrap c))]), #[], 0⟩, ⟨4, 5, none, #[.int .u64 0, .int .u64 0, .int .u64 0, .int .u64 0, .int .u64 0, .int .u64 0, .int .u64 0, .int .u64 0], 92⟩, ⟨5, 6, none, #[.int .u64 0, .int .u64 0, .int .u64 0, .int .u64 0, .int .u64 0, .int .u64 0, .int .u64 0, .int .u64 0], 92⟩]) (fun _ => undef) (by kernel_rfl) (by simp) (by simp) (by rfl) 2 (by rfl) ⟨?_, ?_, ?_, ?_, trivial⟩ (fun vals w1 hJ => ?_)
    · intro vals w' K hB _ hK
      refine wpOp_step rfl (fun K' hK' => ?_)
      have HK := Lib.hid (fun x w'' h => hK' _ _ (hK x w'' h)); clear hK hK' hB
      simp only [putAll, List.map, List.foldl, Act.put, List.setIfInBounds_toArray, List.set_cons_zero, List.set_cons_succ]
      go_simp
      refine (r_digits _ _ (by assumption) _).mono ?_
      rintro e w1 ⟨rfl, C1, C2, C3, rfl⟩
      exact HK.out _ _ ⟨rfl, (by repeat (first | (with_reducible assumption) | (with_reducible exact Below.refl _ _) | (with_reducible refine Below.alloc ?_ (by first | omega | (simp; omega) | (simp; done) | (dsimp only; omega)) _) | (with_reducible refine Below.setCell ?_ (by first | omega | (simp; omega) | (simp; done) | (dsimp only; omega)) _) | (with_reducible refine Below.drew ?_) | (with_reducible refine Below.trans ?_ (Below.mono (by assumption) (by first | omega | (simp; omega) | (simp; done) | (dsimp only; omega))))))⟩
    · intro vals w' K hB _ hK
      refine wpOp_step rfl (fun K' hK' => ?_)
      have HK := Lib.hid (fun x w'' h => hK' _ _ (hK x w'' h)); clear hK hK' hB
      simp only [putAll, List.map, List.foldl, Act.put, List.setIfInBounds_toArray, List.set_cons_zero, List.set_cons_succ]
      go_simp
      refine (r_digits _ _ (by assumption) _).mono ?_
      rintro e w1 ⟨rfl, C1, C2, C3, rfl⟩
      exact HK.out _ _ ⟨rfl, (by repeat (first | (with_reducible assumption) | (with_reducible exact Below.refl _ _) | (with_reducible refine Below.alloc ?_ (by first | omega | (simp; omega) | (simp; done) | (dsimp only; omega)) _) | (with_reducible refine Below.setCell ?_ (by first | omega | (simp; omega) | (simp; done) | (dsimp only; omega)) _) | (with_reducible refine Below.drew ?_) | (with_reducible refine Below.trans ?_ (Below.mono (by assumption) (by first | omega | (simp; omega) | (simp; done) | (dsimp only; omega))))))⟩
    · intro vals w' K hB _ hK
      refine wpOp_step rfl (fun K' hK' => ?_)
      have HK := Lib.hid (fun x w'' h => hK' _ _ (hK x w'' h)); clear hK hK' hB
      simp only [putAll, List.map, List.foldl, Act.put, List.setIfInBounds_toArray, List.set_cons_zero, List.set_cons_succ]
      go_simp
      exact HK.out _ _ ⟨rfl, rfl⟩
    · intro vals w' K hB _ hK
      refine wpOp_step rfl (fun K' hK' => ?_)
      have HK := Lib.hid (fun x w'' h => hK' _ _ (hK x w'' h)); clear hK hK' hB
      simp only [putAll, List.map, List.foldl, Act.put, List.setIfInBounds_toArray, List.set_cons_zero, List.set_cons_succ]
      go_simp
      exact HK.out _ _ ⟨rfl, rfl⟩
    obtain ⟨hBl, hh, hd0⟩ := hJ
    have e11 := hh _ (List.mem_cons_self) (by simp)
    have e13 := hh _ (List.mem_cons_of_mem _ List.mem_cons_self) (by simp)
    have e5 := hh _ (List.mem_cons_of_mem _ (List.mem_cons_of_mem _ List.mem_cons_self)) (by simp)
    have e6 := hh _ (List.mem_cons_of_mem _ (List.mem_cons_of_mem _ (List.mem_cons_of_mem _ List.mem_cons_self))) (by simp)
    have hdd := hd0 _ (List.mem_cons_of_mem _ (List.mem_cons_of_mem _ List.mem_cons_self)) _ (List.mem_cons_of_mem _ (List.mem_cons_of_mem _ (List.mem_cons_of_mem _ List.mem_cons_self))) (by simp) rfl rfl (by simp) (by simp)
    clear hh
    obtain ⟨b5, e5, n5, h5⟩ := e5
    obtain ⟨b6, e6, n6, h6⟩ := e6
    simp only [Gr.holds] at e11 e13
    dsimp only at e5 e6 hdd h5 h6
    have hne : b5 ≠ b6 := fun e => hdd (by rw [e5, e6, e])
    clear hdd hd0
    simp only [putAll, List.map, List.foldl, Act.put, List.setIfInBounds_toArray, List.set_cons_zero, List.set_cons_succ, e11, e13, e5, e6]
    have x5 := lt_of_get h5
    have x6 := lt_of_get h6
    have hr0 := (hBl.cell (p := ⟨w.heap.size + 1 + 1, 0, none⟩) (by simp)).trans (by simp [go_sem] : _ = some (Value.int .i64 0))
    have hr1 := (hBl.cell (p := ⟨w.heap.size + 1 + 1, 1, none⟩) (by simp)).trans (by simp [go_sem] : _ = some (Value.int .u64 0))
    have hf0 := (hBl.frozen (p := ⟨w.heap.size + 1 + 1, 0, none⟩) (by simp)).trans (by simp [go_sem] : _ = false)
    have hf1 := (hBl.frozen (p := ⟨w.heap.size + 1 + 1, 1, none⟩) (by simp)).trans (by simp [go_sem] : _ = false)
    have hBw : Below w.heap.size w w1 := (by repeat (first | (with_reducible assumption) | (with_reducible exact Below.refl _ _) | (with_reducible refine Below.alloc ?_ (by first | omega | (simp; omega) | (simp; done) | (dsimp only; omega)) _) | (with_reducible refine Below.setCell ?_ (by first | omega | (simp; omega) | (simp; done) | (dsimp only; omega)) _) | (with_reducible refine Below.drew ?_) | (with_reducible refine Below.trans ?_ (Below.mono (by assumption) (by first | omega | (simp; omega) | (simp; done) | (dsimp only; omega))))))
    simp at n5 n6
    have g5 := cell_of_block h5
    have g6 := cell_of_block h6
    have f5 := free_of_block h5
    have f6 := free_of_block h6
    have hne2 : b6 ≠ b5 := fun h => hne h.symm
    have hn5 : b5 ≠ w.heap.size + 1 + 1 := by omega
    have hn6 : b6 ≠ w.heap.size + 1 + 1 := by omega
    have H5 := Lib.hid h5
    have H6 := Lib.hid h6; clear h5 h6 e11 e13 e5 e6
    refine wpAnyH_ready (rs := [6]) (by kernel_rfl) (by simp) ?_
    refine AllReadyH.cons rfl (fun K hK => ?_) AllReadyH.nil
    go_simp
    refine hK.out _ _ (by repeat (first | (with_reducible assumption) | (with_reducible exact Below.refl _ _) | (with_reducible refine Below.alloc ?_ (by first | omega | (simp; omega) | (simp; done) | (dsimp only; omega)) _) | (with_reducible refine Below.setCell ?_ (by first | omega | (simp; omega) | (simp; done) | (dsimp only; omega)) _) | (with_reducible refine Below.drew ?_) | (with_reducible refine Below.trans ?_ (Below.mono (by assumption) (by first | omega | (simp; omega) | (simp; done) | (dsimp only; omega)))))) (fun hHeld => ?_)
    clear hHeld hK K
    try simp only [Act.put, List.setIfInBounds_toArray, List.set_cons_zero, List.set_cons_succ]
    refine wpAnyH_ready (rs := [7]) (by kernel_rfl) (by simp) ?_
    refine AllReadyH.cons rfl (fun K hK => ?_) AllReadyH.nil
    go_simp
    refine hK.out _ _ (by repeat (first | (with_reducible assumption) | (with_reducible exact Below.refl _ _) | (with_reducible refine Below.alloc ?_ (by first | omega | (simp; omega) | (simp; done) | (dsimp only; omega)) _) | (with_reducible refine Below.setCell ?_ (by first | omega | (simp; omega) | (simp; done) | (dsimp only; omega)) _) | (with_reducible refine Below.drew ?_) | (with_reducible refine Below.trans ?_ (Below.mono (by assumption) (by first | omega | (simp; omega) | (simp; done) | (dsimp only; omega)))))) (fun hHeld => ?_)
    clear hHeld hK K
    try simp only [Act.put, List.setIfInBounds_toArray, List.set_cons_zero, List.set_cons_succ]
    refine wpAnyH_done (by kernel_rfl) (NoPanic.normal ?_) _
    go_wp2_with fail
    go_meet
    exact ⟨b5, b6, rfl, rfl, hne, by omega, by omega, by simp; omega, by simp; omega,
      by (iterate 8 (refine (Below.heap_setCell _ _ _ _ (by dsimp only; omega)).trans ?_))
         exact heap_set8 H5.out,
      by refine heap_set8 (c0 := .int .u64 0) (c1 := .int .u64 0) (c2 := .int .u64 0) (c3 := .int .u64 0) (c4 := .int .u64 0) (c5 := .int .u64 0) (c6 := .int .u64 0) (c7 := .int .u64 0) ?_
         (iterate 8 (refine (Below.heap_setCell _ _ _ _ (by dsimp only; omega)).trans ?_))
         exact H6.out,
      by (iterate 16 (refine (World.cell?_setCell_far _ _ _ _ (by dsimp only; omega)).trans ?_))
         exact hr0,
      by (iterate 16 (refine (World.cell?_setCell_far _ _ _ _ (by dsimp only; omega)).trans ?_))
         exact hr1,
      by simp [hf0], by simp [hf1], (by repeat (first | (with_reducible assumption) | (with_reducible exact Below.refl _ _) | (with_reducible refine Below.alloc ?_ (by first | omega | (simp; omega) | (simp; done) | (dsimp only; omega)) _) | (with_reducible refine Below.setCell ?_ (by first | omega | (simp; omega) | (simp; done) | (dsimp only; omega)) _) | (with_reducible refine Below.drew ?_) | (with_reducible refine Below.trans ?_ (Below.mono (by assumption) (by first | omega | (simp; omega) | (simp; done) | (dsimp only; omega))))))⟩
  case rest =>
    obtain ⟨b5, b6, rfl, rfl, hne, hw5, hw6, hx5, hx6, hb5, hb6, hr0, hr1, hf0, hf1, hBl⟩ := hcut
    have q0 := dg_D16 0 b
    have q1 := dg_D16 1 b
    have q2 := dg_D16 2 b
    have q3 := dg_D16 3 b
    have q4 := dg_D16 0 (IntKind.u64.wrap a)
    have q5 := dg_D16 1 (IntKind.u64.wrap a)
    have q6 := dg_D16 2 (IntKind.u64.wrap a)
    have q7 := dg_D16 3 (IntKind.u64.wrap a)
    have p0 := dg_D16 0 d
    have p1 := dg_D16 1 d
    have p2 := dg_D16 2 d
    have p3 := dg_D16 3 d
    have p4 := dg_D16 0 (IntKind.u64.wrap c)
    have p5 := dg_D16 1 (IntKind.u64.wrap c)
    have p6 := dg_D16 2 (IntKind.u64.wrap c)
    have p7 := dg_D16 3 (IntKind.u64.wrap c)
    unfold D16 at q0 q1 q2 q3 q4 q5 q6 q7 p0 p1 p2 p3 p4 p5 p6 p7
    have g5 : ∀ o, wc.cell? ⟨b5, o, none⟩ = _ := fun o => cell_of_block hb5 o
    have g6 : ∀ o, wc.cell? ⟨b6, o, none⟩ = _ := fun o => cell_of_block hb6 o
    have f5 : ∀ o, wc.frozen? ⟨b5, o, none⟩ = false := fun o => free_of_block hb5 o
    have f6 : ∀ o, wc.frozen? ⟨b6, o, none⟩ = false := fun o => free_of_block hb6 o
    clear hb5 hb6
    have hne2 : b6 ≠ b5 := fun h => hne h.symm
    have hn5 : b5 ≠ w.heap.size + 1 + 1 := by omega
    go_wp2
    refine wp_loop_rounds 9 ?_
    iterate 8 (rw [rounds_succ]; go_wp2; go_region; go_wp2)
    rw [rounds_succ]; go_wp2_with fail
    refine (r_wide _ _ _ _ _ _ _ _ (by unfold D16; omega) (by unfold D16; omega) (by unfold D16; omega) (by unfold D16; omega) (by unfold D16; omega) (by unfold D16; omega) (by unfold D16; omega) (by unfold D16; omega) _).mono ?_
    rw [(add_dig (a := a) (c := c) hb hd rfl rfl rfl rfl rfl rfl rfl).1, (add_dig (a := a) (c := c) hb hd rfl rfl rfl rfl rfl rfl rfl).2]
    rintro e w1 ⟨rfl, hb1⟩; have hz1 := hb1.size; simp at hz1
    have hBz : Below (w.heap.size + 3) wc w1 := by
      refine Below.trans ?_ (Below.mono hb1 (by simp; omega))
      repeat (first | (with_reducible exact Below.refl _ _) | (with_reducible refine Below.setCell ?_ (by dsimp only; omega) _) | (with_reducible refine Below.drew ?_))
    have k0 := (hBz.cell (p := ⟨w.heap.size + 1 + 1, 0, none⟩) (by dsimp only; omega)).trans hr0
    have k1 := (hBz.cell (p := ⟨w.heap.size + 1 + 1, 1, none⟩) (by dsimp only; omega)).trans hr1
    have k2 := (hBz.frozen (p := ⟨w.heap.size + 1 + 1, 0, none⟩) (by dsimp only; omega)).trans hf0
    have k3 := (hBz.frozen (p := ⟨w.heap.size + 1 + 1, 1, none⟩) (by dsimp only; omega)).trans hf1
    have hBw : Below w.heap.size w w1 := hBl.trans (hBz.mono (by omega))
    clear hb1 hBz g5 g6 f5 f6 hr0 hr1 hf0 hBl q0 q1 q2 q3 q4 q5 q6 q7 p0 p1 p2 p3 p4 p5 p6 p7
    go_wp2
    exact bodyPost_ret (by simp [results, Tryz.results57, go_sem, *] <;> rfl) rfl ⟨rfl, (by repeat (first | (with_reducible assumption) | (with_reducible exact Below.refl _ _) | (with_reducible refine Below.alloc ?_ (by first | omega | (simp; omega) | (simp; done) | (dsimp only; omega)) _) | (with_reducible refine Below.setCell ?_ (by first | omega | (simp; omega) | (simp; done) | (dsimp only; omega)) _) | (with_reducible refine Below.drew ?_) | (with_reducible refine Below.trans ?_ (Below.mono (by assumption) (by first | omega | (simp; omega) | (simp; done) | (dsimp only; omega))))))⟩
end Go.Proofs.YtdpnphnafidpiaaGreat

/- X-PARTIAL What sondageref01.Neg, Sub, Of return. -/
namespace Go.Proofs.YtdpnphnafidpiaaGreat
open Go.RowKit

set_option maxRecDepth 100000 in
set_option maxHeartbeats 1000000 in
theorem r_neg (a b : Int) (hb : U64 b) (w : World) :
    Calls Tryz.prog 56 #[.agg #[.int .i64 a, .int .u64 b]] w fun e w' =>
      e = .returned (.agg #[.int .i64 (hiW (wrap128 (-wv a b))), .int .u64 (loW (wrap128 (-wv a b)))]) ∧ Below w.heap.size w w' := by
  have q0 := dg_D16 0 b
  have q1 := dg_D16 1 b
  have q2 := dg_D16 2 b
  have q3 := dg_D16 3 b
  have q4 := dg_D16 0 (IntKind.u64.wrap a)
  have q5 := dg_D16 1 (IntKind.u64.wrap a)
  have q6 := dg_D16 2 (IntKind.u64.wrap a)
  have q7 := dg_D16 3 (IntKind.u64.wrap a)
  have f0 := dig_flip q0
  have f1 := dig_flip q1
  have f2 := dig_flip q2
  have f3 := dig_flip q3
  have f4 := dig_flip q4
  have f5 := dig_flip q5
  have f6 := dig_flip q6
  have f7 := dig_flip q7
  unfold D16 at q0 q1 q2 q3 q4 q5 q6 q7
  have HW := Lib.hid (r_wide _ _ _ _ _ _ _ _ f0 f1 f2 f3 f4 f5 f6 f7)
  have HA := Lib.hid (fun w => r_add (wrap64 (cat4 (65535 - dg 0 (IntKind.u64.wrap a)) (65535 - dg 1 (IntKind.u64.wrap a)) (65535 - dg 2 (IntKind.u64.wrap a)) (65535 - dg 3 (IntKind.u64.wrap a)))) _ 0 1 (cat4_U64 f0 f1 f2 f3) U64_1 w)
  rw [neg_hl a b hb] at HA
  clear f0 f1 f2 f3 f4 f5 f6 f7
  go_enter Tryz.func56, Tryz.ntmps56
  go_wp2_with (go_at_call 93; refine (r_digits _ _ (by assumption) _).mono ?_; rintro e w1 ⟨rfl, C1, C2, C3, rfl⟩)
  refine wp_loop_rounds 9 ?_
  iterate 8 (rw [rounds_succ]; go_wp2)
  rw [rounds_succ]
  go_wp2_with (first | (go_at_call 94; (with_reducible refine (HW.out _).mono ?_); rintro e w1 ⟨rfl, hb1⟩; obtain ⟨hc1, hf1⟩ := bcell hb1; have hz1 := hb1.size; (try simp at hz1); (try have hy1 := Nat.lt_of_succ_le hz1); (try have hv1 := Nat.lt_of_succ_lt hy1); (try have hw10 : w.heap.size < w1.heap.size := by omega); (try have hw11 : w.heap.size + 1 < w1.heap.size := by omega); (try have hw12 : w.heap.size + 1 + 1 < w1.heap.size := by omega); (try have hw13 : w.heap.size + 1 + 1 + 1 < w1.heap.size := by omega)) | (go_at_call 57; (with_reducible refine (HA.out _).mono ?_); rintro e w1 ⟨rfl, hb1⟩; obtain ⟨hc1, hf1⟩ := bcell hb1; have hz1 := hb1.size; (try simp at hz1); (try have hy1 := Nat.lt_of_succ_le hz1); (try have hv1 := Nat.lt_of_succ_lt hy1); (try have hw10 : w.heap.size < w1.heap.size := by omega); (try have hw11 : w.heap.size + 1 < w1.heap.size := by omega); (try have hw12 : w.heap.size + 1 + 1 < w1.heap.size := by omega); (try have hw13 : w.heap.size + 1 + 1 + 1 < w1.heap.size := by omega)))
  exact bodyPost_ret (by simp [results, Tryz.results56, go_sem, *] <;> rfl) rfl ⟨rfl, (by repeat (first | (with_reducible assumption) | (with_reducible exact Below.refl _ _) | (with_reducible refine Below.alloc ?_ (by first | omega | (simp; omega) | (simp; done) | (dsimp only; omega)) _) | (with_reducible refine Below.setCell ?_ (by first | omega | (simp; omega) | (simp; done) | (dsimp only; omega)) _) | (with_reducible refine Below.drew ?_) | (with_reducible refine Below.trans ?_ (Below.mono (by assumption) (by first | omega | (simp; omega) | (simp; done) | (dsimp only; omega))))))⟩

set_option maxHeartbeats 1000000 in
theorem r_sub (a b c d : Int) (hb : U64 b) (hd : U64 d) (w : World) :
    Calls Tryz.prog 110 #[.agg #[.int .i64 a, .int .u64 b], .agg #[.int .i64 c, .int .u64 d]] w fun e w' =>
      e = .returned (.agg #[.int .i64 (hiW (wrap128 (wv a b - wv c d))), .int .u64 (loW (wrap128 (wv a b - wv c d)))]) ∧ Below w.heap.size w w' := by
  have HN := Lib.hid (r_neg c d hd)
  have HA := Lib.hid (fun w => r_add a b (hiW (wrap128 (-wv c d))) (loW (wrap128 (-wv c d))) hb (U64.lo _) w)
  rw [wv_hilo, sub_wrap] at HA
  go_enter Tryz.func110, Tryz.ntmps110
  go_wp2
  go_region_held3 (fun w' => w'.cell? ⟨w.heap.size, 0, none⟩ = some (.int .i64 a) ∧ w'.cell? ⟨w.heap.size, 1, none⟩ = some (.int .u64 b) ∧ w'.cell? ⟨w.heap.size + 1, 0, none⟩ = some (.int .i64 c) ∧ w'.cell? ⟨w.heap.size + 1, 1, none⟩ = some (.int .u64 d)) (((repeat' apply And.intro) <;> ((repeat (first | refine (World.cell?_alloc_lt _ _ _ (by first | omega | (simp; omega) | (simp; done) | (dsimp only; omega))).trans ?_ | refine (World.cell?_setCell_far _ _ _ _ (by first | omega | (simp; omega) | (simp; done) | (dsimp only; omega))).trans ?_)); (first | assumption | (simp only [*]; done) | (refine (hc1 _ _ (by first | omega | (simp; omega) | (simp; done) | (dsimp only; omega))).trans ?_; (first | assumption | (simp only [*]; done) | (simp [go_sem]; done) | (simp [*, go_sem]; done))) | (simp [*, go_sem]; done))))) (first | (go_at_call 56; (with_reducible refine (HN.out _).mono ?_); rintro e w1 ⟨rfl, hb1⟩; obtain ⟨hc1, hf1⟩ := bcell hb1; have hz1 := hb1.size; (try simp at hz1); (try have hy1 := Nat.lt_of_succ_le hz1); (try have hv1 := Nat.lt_of_succ_lt hy1); (try have hw10 : w.heap.size < w1.heap.size := by omega); (try have hw11 : w.heap.size + 1 < w1.heap.size := by omega); (try have hw12 : w.heap.size + 1 + 1 < w1.heap.size := by omega); (try have hw13 : w.heap.size + 1 + 1 + 1 < w1.heap.size := by omega)) | (go_at_call 57; (with_reducible refine (HA.out _).mono ?_); rintro e w1 ⟨rfl, hb1⟩; obtain ⟨hc1, hf1⟩ := bcell hb1; have hz1 := hb1.size; (try simp at hz1); (try have hy1 := Nat.lt_of_succ_le hz1); (try have hv1 := Nat.lt_of_succ_lt hy1); (try have hw10 : w.heap.size < w1.heap.size := by omega); (try have hw11 : w.heap.size + 1 < w1.heap.size := by omega); (try have hw12 : w.heap.size + 1 + 1 < w1.heap.size := by omega); (try have hw13 : w.heap.size + 1 + 1 + 1 < w1.heap.size := by omega)) )
  go_wp2
  exact bodyPost_ret (by simp [results, Tryz.results110, go_sem, *] <;> rfl) rfl ⟨rfl, (by repeat (first | (with_reducible assumption) | (with_reducible exact Below.refl _ _) | (with_reducible refine Below.alloc ?_ (by first | omega | (simp; omega) | (simp; done) | (dsimp only; omega)) _) | (with_reducible refine Below.setCell ?_ (by first | omega | (simp; omega) | (simp; done) | (dsimp only; omega)) _) | (with_reducible refine Below.drew ?_) | (with_reducible refine Below.trans ?_ (Below.mono (by assumption) (by first | omega | (simp; omega) | (simp; done) | (dsimp only; omega))))))⟩

set_option maxHeartbeats 1000000 in
theorem r_of (n : Int) (hn : I64 n) (w : World) :
    Calls Tryz.prog 55 #[.int .i64 n] w fun e w' => e = .returned (.agg #[.int .i64 (hiW n), .int .u64 (loW n)]) ∧ Below w.heap.size w w' := by
  by_cases h : n < 0
  · have e := neg_of n hn h
    have HA := Lib.hid (fun w => r_add 0 ((-(n + 1))) 0 1 (U64_neg hn h) U64_1 w)
    have HN := Lib.hid (fun w => r_neg (hiW (wrap128 (wv 0 ((-(n + 1))) + wv 0 1))) (loW (wrap128 (wv 0 ((-(n + 1))) + wv 0 1))) (U64.lo _) w)
    rw [wv_hilo, e] at HN
    have n1 : -9223372036854775808 ≤ n := hn.1
    clear e hn
    go_enter Tryz.func55, Tryz.ntmps55
    go_wp2_with (first | (go_at_call 57; (with_reducible refine (HA.out _).mono ?_); rintro e w1 ⟨rfl, hb1⟩; obtain ⟨hc1, hf1⟩ := bcell hb1; have hz1 := hb1.size; (try simp at hz1); (try have hy1 := Nat.lt_of_succ_le hz1); (try have hv1 := Nat.lt_of_succ_lt hy1); (try have hw10 : w.heap.size < w1.heap.size := by omega); (try have hw11 : w.heap.size + 1 < w1.heap.size := by omega); (try have hw12 : w.heap.size + 1 + 1 < w1.heap.size := by omega); (try have hw13 : w.heap.size + 1 + 1 + 1 < w1.heap.size := by omega)) | (go_at_call 56; (with_reducible refine (HN.out _).mono ?_); rintro e w1 ⟨rfl, hb1⟩; obtain ⟨hc1, hf1⟩ := bcell hb1; have hz1 := hb1.size; (try simp at hz1); (try have hy1 := Nat.lt_of_succ_le hz1); (try have hv1 := Nat.lt_of_succ_lt hy1); (try have hw10 : w.heap.size < w1.heap.size := by omega); (try have hw11 : w.heap.size + 1 < w1.heap.size := by omega); (try have hw12 : w.heap.size + 1 + 1 < w1.heap.size := by omega); (try have hw13 : w.heap.size + 1 + 1 + 1 < w1.heap.size := by omega)))
    exact bodyPost_ret (by simp [results, Tryz.results55, go_sem, *] <;> rfl) rfl ⟨rfl, (by repeat (first | (with_reducible assumption) | (with_reducible exact Below.refl _ _) | (with_reducible refine Below.alloc ?_ (by first | omega | (simp; omega) | (simp; done) | (dsimp only; omega)) _) | (with_reducible refine Below.setCell ?_ (by first | omega | (simp; omega) | (simp; done) | (dsimp only; omega)) _) | (with_reducible refine Below.drew ?_) | (with_reducible refine Below.trans ?_ (Below.mono (by assumption) (by first | omega | (simp; omega) | (simp; done) | (dsimp only; omega))))))⟩
  · rw [← of_hi n hn, ← of_lo n]
    have e : n / 9223372036854775808 = 0 := by unfold I64 at hn; omega
    rw [e]; clear e
    go_enter Tryz.func55, Tryz.ntmps55
    go_wp2
    exact bodyPost_ret (by simp [results, Tryz.results55, go_sem, *] <;> rfl) rfl ⟨rfl, (by repeat (first | (with_reducible assumption) | (with_reducible exact Below.refl _ _) | (with_reducible refine Below.alloc ?_ (by first | omega | (simp; omega) | (simp; done) | (dsimp only; omega)) _) | (with_reducible refine Below.setCell ?_ (by first | omega | (simp; omega) | (simp; done) | (dsimp only; omega)) _) | (with_reducible refine Below.drew ?_) | (with_reducible refine Below.trans ?_ (Below.mono (by assumption) (by first | omega | (simp; omega) | (simp; done) | (dsimp only; omega))))))⟩

end Go.Proofs.YtdpnphnafidpiaaGreat
