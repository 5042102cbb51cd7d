/- The law NamesOnly, walked. -/
import Derived.Test.YtnbpdkcnldeljaaNamQ
namespace Go.Proofs.Ytnbpdkcnldeljaa
open Go.RowKit

theorem lenS_nonneg (n : Bool) (l : List Str) : 0 ≤ lenS n l := by unfold lenS; split <;> omega
theorem may_eq (n : Bool) (l : List Str) : (!(!n && (srt l).length == 0)) = decide (0 < lenS n (srt l)) := by
  rw [← none_len n (srt l)]
  have h := lenS_nonneg n (srt l)
  by_cases e : lenS n (srt l) = 0
  · rw [e]; rfl
  · have h1 : (lenS n (srt l) == 0) = false := by rw [Bool.eq_false_iff]; intro h; exact e (beq_iff_eq.1 h)
    rw [h1]
    have h2 : 0 < lenS n (srt l) := by omega
    rw [decide_eq_true h2]; rfl
theorem lenS_one {n : Bool} {l : List Str} (h : lenS n l = 1) : (n = true ∧ srt l = []) ∨ (n = false ∧ ∃ y, srt l = [y]) := by
  unfold lenS at h
  cases n with
  | true => rw [if_pos rfl] at h; exact Or.inl ⟨rfl, List.eq_nil_of_length_eq_zero (by omega)⟩
  | false =>
    rw [if_neg (by decide)] at h
    exact Or.inr ⟨rfl, List.length_eq_one_iff.1 (by omega)⟩
theorem srt_nil_iff {l : List Str} (h : srt l = []) (x : Str) : x ∉ l := fun hx => by have := (mem_srt l x).2 hx; rw [h] at this; simp at this
theorem must_eq (na nb : Bool) (la lb : List Str) : (lenS na la == 1 && (leqS na la nb lb && leqS nb lb na la)) = (decide (0 < lenS (na && nb) (srt (meetL la lb))) && lenS na la == 1 && lenS nb lb == 1) := by
  rw [same_exact, Bool.eq_iff_iff]
  simp only [Bool.and_eq_true, beq_iff_eq, decide_eq_true_eq]
  rw [lenS_srt]
  constructor
  · rintro ⟨h1, rfl, h3⟩
    have h4 : lenS na lb = 1 := by rw [← h1]; unfold lenS; rw [h3]
    refine ⟨⟨?_, h1⟩, h4⟩
    have h5 : srt (meetL la lb) = srt la := srt_of (strict_srt la) (fun y => by
      rw [mem_srt, mem_meetL]
      have : y ∈ lb ↔ y ∈ la := by rw [← mem_srt lb, ← h3, mem_srt]
      rw [this]; simp)
    have h6 : lenS (na && na) (meetL la lb) = lenS na la := by unfold lenS; rw [h5, Bool.and_self]
    rw [h6, h1]; decide
  · rintro ⟨⟨h1, h2⟩, h3⟩
    refine ⟨h2, ?_⟩
    rcases lenS_one h2 with ⟨rfl, ha⟩ | ⟨rfl, y, ha⟩
    · rcases lenS_one h3 with ⟨rfl, hb⟩ | ⟨rfl, z, hb⟩
      · exact ⟨rfl, by rw [ha, hb]⟩
      · exfalso
        have : srt (meetL la lb) = [] := by
          refine srt_of (m := []) strict_nil (fun y => ?_)
          rw [mem_meetL]; simp [srt_nil_iff ha y]
        unfold lenS at h1; rw [this] at h1; simp at h1
    · have hne : ∃ x, x ∈ meetL la lb := by
        cases hm : meetL la lb with
        | nil => unfold lenS at h1; rw [hm] at h1; rw [show srt ([] : List Str) = [] from rfl] at h1; simp at h1
        | cons x l => exact ⟨x, by simp⟩
      obtain ⟨x, hx⟩ := hne
      rw [mem_meetL] at hx
      have hxa : x ∈ srt la := (mem_srt _ _).2 hx.1
      have hxb : x ∈ srt lb := (mem_srt _ _).2 hx.2
      rcases lenS_one h3 with ⟨rfl, hb⟩ | ⟨rfl, z, hb⟩
      · rw [hb] at hxb; simp at hxb
      · rw [ha] at hxa; rw [hb] at hxb
        simp at hxa hxb
        exact ⟨rfl, by rw [ha, hb, ← hxa, ← hxb]⟩
theorem only_cases (n : Bool) (l : List Str) : (n = true ∧ onlyS n l = ([], false)) ∨ (n = false ∧ (srt l).length ≠ 1 ∧ onlyS n l = ([], false)) ∨ (n = false ∧ ∃ y, srt l = [y] ∧ onlyS n l = (y, true)) := by
  cases n with
  | true => exact Or.inl ⟨rfl, only_no (Or.inr rfl)⟩
  | false =>
    by_cases h : (srt l).length = 1
    · obtain ⟨y, hy⟩ := List.length_eq_one_iff.1 h
      exact Or.inr (Or.inr ⟨rfl, y, hy, by rw [only_yes h]; simp [hy]⟩)
    · exact Or.inr (Or.inl ⟨rfl, h, only_no (Or.inl h)⟩)
theorem blk_set1 {w : World} {b : Nat} {c0 c1 v0 : Value} {t : TypeId} (h : w.heap[b]? = some (.cells #[c0, c1] t)) :
    (w.setCell ⟨b, 0, none⟩ v0).heap[b]? = some (.cells #[v0, c1] t) := by
  simp [World.setCell, Array.getElem?_modify, h]
def OnlyCut (n : Bool) (P : List Str) (W : World) (s7 : Value) (wx : World) : Prop :=
  ∃ (b7 : Nat) (A7 : Option Addr) (c7 : Nat), s7 = .pointer (some ⟨b7, 0, none⟩) ∧ wx.heap[b7]? = some (.cells #[.bool n, .slice A7 P.length c7] 24) ∧ SRow wx A7 P ∧ (A7 = none → c7 = 0) ∧ W.heap.size ≤ b7 ∧
    (∀ a, A7 = some a → P ≠ [] → a.block ≠ b7) ∧ Below W.heap.size W wx

set_option maxRecDepth 100000 in
set_option maxHeartbeats 8000000 in
theorem law_namesOnly (na nb null : Bool) (la lb : List Str) (A B : Option Addr) (ca cb : Nat) (w : World) (hma : (la.length + 1) * 16 ≤ 140737488355328) (hmb : (lb.length + 1) * 16 ≤ 140737488355328) (hza : A = none → ca = 0) (_hzb : B = none → cb = 0)
    (hra : SRow w A la) (hrb : SRow w B lb) :
    Calls Try.prog 4 #[.agg #[.bool na, .slice A la.length ca], .agg #[.bool nb, .slice B lb.length cb], .bool null] w fun e w' => e = .returned (.bool true) ∧ Below w.heap.size w w' := by
  have hsa := srt_len_le la
  have hsm := srt_len_le (meetL la lb)
  have hml := meetL_len la lb
  go_enter Try.func4, Try.ntmps4
  go_upto_region 1 with fail
  generalize hW : ((w.alloc (.cells #[.bool na, .slice A la.length ca] 24)).alloc (.cells #[.bool nb, .slice B lb.length cb] 24)) = W
  have q0_0 : W.cell? ⟨w.heap.size, 0, none⟩ = some (.bool na) := by rw [← hW]; simp [go_sem]
  have q0_1 : W.cell? ⟨w.heap.size, 1, none⟩ = some (.slice A la.length ca) := by rw [← hW]; simp [go_sem]
  have q1_0 : W.cell? ⟨w.heap.size + 1, 0, none⟩ = some (.bool nb) := by rw [← hW]; simp [go_sem]
  have q1_1 : W.cell? ⟨w.heap.size + 1, 1, none⟩ = some (.slice B lb.length cb) := by rw [← hW]; simp [go_sem]
  have z0 : w.heap.size < W.heap.size := by rw [← hW]; first | (simp; done) | (simp; omega)
  have z1 : w.heap.size + 1 < W.heap.size := by rw [← hW]; first | (simp; done) | (simp; omega)
  have HW : Below w.heap.size w W := by rw [← hW]; exact (by repeat (first | (with_reducible assumption) | (with_reducible exact Below.refl _ _) | (with_reducible refine Below.alloc ?_ (by first | omega | (simp; omega) | (simp; done) | (dsimp only; omega)) _) | (with_reducible refine Below.setCell ?_ (by first | omega | (simp; omega) | (simp; done) | (dsimp only; omega)) _) | (with_reducible refine Below.drew ?_) | (with_reducible refine Below.trans ?_ (Below.mono (by assumption) (by first | omega | (simp; omega) | (simp; done) | (dsimp only; omega))))))
  clear hW
  have hraW := hra.mono HW
  have hrbW := hrb.mono HW
  go_cut [7] (fun s7 wx => OnlyCut na (srt la) W s7 wx)
  case first =>
    have HC := Lib.hid (r7_Clean na la A ca W (by omega) hraW)
    go_wp2_with fail
    go_at_call 20
    refine HC.out.mono ?_
    rintro e x1 ⟨⟨v1, rfl, A1, c1, rfl, i1, j1, r1, n1, s1⟩, hb1⟩
    have hz1 := hb1.size
    go_wp2_with fail
    go_meet
    generalize hX : x1.alloc (.cells #[.bool na, .slice A1 (srt la).length c1] 24) = X
    have HX : Below x1.heap.size x1 X := by rw [← hX]; exact (by repeat (first | (with_reducible assumption) | (with_reducible exact Below.refl _ _) | (with_reducible refine Below.alloc ?_ (by first | omega | (simp; omega) | (simp; done) | (dsimp only; omega)) _) | (with_reducible refine Below.setCell ?_ (by first | omega | (simp; omega) | (simp; done) | (dsimp only; omega)) _) | (with_reducible refine Below.drew ?_) | (with_reducible refine Below.trans ?_ (Below.mono (by assumption) (by first | omega | (simp; omega) | (simp; done) | (dsimp only; omega))))))
    have hX7 : X.heap[x1.heap.size]? = some (.cells #[.bool na, .slice A1 (srt la).length c1] 24) := by
      rw [← hX]
      show (x1.heap.push _)[x1.heap.size]? = some _
      exact Array.getElem?_push_size
    refine ⟨x1.heap.size, A1, c1, rfl, hX7, r1.mono HX, n1, by omega, fun a e hne => ?_, hb1.trans (HX.mono hz1)⟩
    cases hl : srt la with
    | nil => exact absurd hl hne
    | cons x l =>
      rw [hl] at r1
      obtain ⟨b', o', e', _, hlt⟩ := r1.cell (k := 0) (by simp)
      rw [e] at e'; cases e'; dsimp only; omega
  case rest =>
    obtain ⟨b7, A7, c7, rfl, h7, r7, n7, w7, f7ne, hb⟩ := hcut
    have w7' : w.heap.size + 1 < b7 := by omega
    have hraC := hraW.mono hb
    have hrbC := hrbW.mono hb
    replace q0_0 := (hb.cell (p := ⟨w.heap.size, 0, none⟩) z0).trans q0_0
    replace q0_1 := (hb.cell (p := ⟨w.heap.size, 1, none⟩) z0).trans q0_1
    replace q1_0 := (hb.cell (p := ⟨w.heap.size + 1, 0, none⟩) z1).trans q1_0
    replace q1_1 := (hb.cell (p := ⟨w.heap.size + 1, 1, none⟩) z1).trans q1_1
    replace z0 := Nat.lt_of_lt_of_le z0 hb.size
    replace z1 := Nat.lt_of_lt_of_le z1 hb.size
    replace HW := HW.trans (hb.mono HW.size)
    clear hb hraW hrbW w7
    have z7 := blk_lt h7
    have KO := names_Only na la A ca wc (by omega) hza hraC
    have oc := only_cases na la
    generalize onlyS na la = on at KO oc
    obtain ⟨nm, ok⟩ := on
    dsimp only at KO
    have KO' := Lib.hid KO
    clear KO
    go_upto_region 2 with fail
    go_cut [8, 9] (fun s8 s9 wx => s8 = encStr nm ∧ s9 = .bool ok ∧ Below wc.heap.size wc wx)
    case first =>
      go_wp2_with fail
      go_at_call 24
      refine KO'.out.mono ?_
      rintro e x1 ⟨rfl, hb1⟩
      go_wp2_with fail
      go_meet
      exact ⟨rfl, rfl, (by repeat (first | (with_reducible assumption) | (with_reducible exact Below.refl _ _) | (with_reducible refine Below.alloc ?_ (by first | omega | (simp; omega) | (simp; done) | (dsimp only; omega)) _) | (with_reducible refine Below.setCell ?_ (by first | omega | (simp; omega) | (simp; done) | (dsimp only; omega)) _) | (with_reducible refine Below.drew ?_) | (with_reducible refine Below.trans ?_ (Below.mono (by assumption) (by first | omega | (simp; omega) | (simp; done) | (dsimp only; omega))))))⟩
    case rest =>
      obtain ⟨rfl, rfl, hb⟩ := hcut
      have r7' := r7.mono hb
      have hraD := hraC.mono hb
      have hrbD := hrbC.mono hb
      have h7' := (hb.block _ z7).trans h7
      replace q0_0 := (hb.cell (p := ⟨w.heap.size, 0, none⟩) z0).trans q0_0
      replace q0_1 := (hb.cell (p := ⟨w.heap.size, 1, none⟩) z0).trans q0_1
      replace q1_0 := (hb.cell (p := ⟨w.heap.size + 1, 0, none⟩) z1).trans q1_0
      replace q1_1 := (hb.cell (p := ⟨w.heap.size + 1, 1, none⟩) z1).trans q1_1
      replace z0 := Nat.lt_of_lt_of_le z0 hb.size
      replace z1 := Nat.lt_of_lt_of_le z1 hb.size
      replace HW := HW.trans (hb.mono HW.size)
      clear hb r7 h7 hraC hrbC z7
      have z7 := blk_lt h7'
      have g7 := blk_cell h7'
      have q7_0 := g7 0
      have q7_1 := g7 1
      simp only [List.getElem?_toArray, List.getElem?_cons_zero, List.getElem?_cons_succ] at q7_0 q7_1
      have f7 := blk_free h7'
      clear KO' g7
      go_upto_region 3 with fail
      go_cut [10] (fun s10 wx => s10 = .bool ok ∧ Below wc.heap.size wc wx)
      case first =>
        rcases oc with ⟨rfl, e⟩ | ⟨rfl, h, e⟩ | ⟨rfl, y, h, e⟩
        · cases e
          go_wp2_with fail
          go_meet
          exact ⟨rfl, (by repeat (first | (with_reducible assumption) | (with_reducible exact Below.refl _ _) | (with_reducible refine Below.alloc ?_ (by first | omega | (simp; omega) | (simp; done) | (dsimp only; omega)) _) | (with_reducible refine Below.setCell ?_ (by first | omega | (simp; omega) | (simp; done) | (dsimp only; omega)) _) | (with_reducible refine Below.drew ?_) | (with_reducible refine Below.trans ?_ (Below.mono (by assumption) (by first | omega | (simp; omega) | (simp; done) | (dsimp only; omega))))))⟩
        · cases e
          have hq : (((srt la).length : Int) == 1) = false := by rw [Bool.eq_false_iff]; intro h'; exact h (by have := beq_iff_eq.1 h'; omega)
          go_wp2_with fail
          go_meet
          exact ⟨by first | rfl | simp [hq], (by repeat (first | (with_reducible assumption) | (with_reducible exact Below.refl _ _) | (with_reducible refine Below.alloc ?_ (by first | omega | (simp; omega) | (simp; done) | (dsimp only; omega)) _) | (with_reducible refine Below.setCell ?_ (by first | omega | (simp; omega) | (simp; done) | (dsimp only; omega)) _) | (with_reducible refine Below.drew ?_) | (with_reducible refine Below.trans ?_ (Below.mono (by assumption) (by first | omega | (simp; omega) | (simp; done) | (dsimp only; omega))))))⟩
        · cases e
          rw [h] at q7_1
          go_wp2_with fail
          go_meet
          exact ⟨rfl, (by repeat (first | (with_reducible assumption) | (with_reducible exact Below.refl _ _) | (with_reducible refine Below.alloc ?_ (by first | omega | (simp; omega) | (simp; done) | (dsimp only; omega)) _) | (with_reducible refine Below.setCell ?_ (by first | omega | (simp; omega) | (simp; done) | (dsimp only; omega)) _) | (with_reducible refine Below.drew ?_) | (with_reducible refine Below.trans ?_ (Below.mono (by assumption) (by first | omega | (simp; omega) | (simp; done) | (dsimp only; omega))))))⟩
      case rest =>
        obtain ⟨rfl, hb⟩ := hcut
        have r7'' := r7'.mono hb
        have hraE := hraD.mono hb
        have hrbE := hrbD.mono hb
        have h7'' := (hb.block _ z7).trans h7'
        replace q0_0 := (hb.cell (p := ⟨w.heap.size, 0, none⟩) z0).trans q0_0
        replace q0_1 := (hb.cell (p := ⟨w.heap.size, 1, none⟩) z0).trans q0_1
        replace q1_0 := (hb.cell (p := ⟨w.heap.size + 1, 0, none⟩) z1).trans q1_0
        replace q1_1 := (hb.cell (p := ⟨w.heap.size + 1, 1, none⟩) z1).trans q1_1
        replace z0 := Nat.lt_of_lt_of_le z0 hb.size
        replace z1 := Nat.lt_of_lt_of_le z1 hb.size
        replace q7_0 := (hb.cell (p := ⟨b7, 0, none⟩) z7).trans q7_0
        replace q7_1 := (hb.cell (p := ⟨b7, 1, none⟩) z7).trans q7_1
        replace z7 := Nat.lt_of_lt_of_le z7 hb.size
        replace HW := HW.trans (hb.mono HW.size)
        clear hb r7' h7' hraD hrbD f7
        have f7 := blk_free h7''
        go_upto_region 4 with fail
        go_cut [51] (fun s51 wx => s51 = .bool false ∧ Below wc.heap.size wc wx)
        case first =>
          rcases oc with ⟨rfl, e⟩ | ⟨rfl, h, e⟩ | ⟨rfl, y, h, e⟩
          · cases e
            go_wp2_with fail
            go_meet
            exact ⟨rfl, (by repeat (first | (with_reducible assumption) | (with_reducible exact Below.refl _ _) | (with_reducible refine Below.alloc ?_ (by first | omega | (simp; omega) | (simp; done) | (dsimp only; omega)) _) | (with_reducible refine Below.setCell ?_ (by first | omega | (simp; omega) | (simp; done) | (dsimp only; omega)) _) | (with_reducible refine Below.drew ?_) | (with_reducible refine Below.trans ?_ (Below.mono (by assumption) (by first | omega | (simp; omega) | (simp; done) | (dsimp only; omega))))))⟩
          · cases e
            go_wp2_with fail
            go_meet
            exact ⟨rfl, (by repeat (first | (with_reducible assumption) | (with_reducible exact Below.refl _ _) | (with_reducible refine Below.alloc ?_ (by first | omega | (simp; omega) | (simp; done) | (dsimp only; omega)) _) | (with_reducible refine Below.setCell ?_ (by first | omega | (simp; omega) | (simp; done) | (dsimp only; omega)) _) | (with_reducible refine Below.drew ?_) | (with_reducible refine Below.trans ?_ (Below.mono (by assumption) (by first | omega | (simp; omega) | (simp; done) | (dsimp only; omega))))))⟩
          · cases e
            rw [h] at q7_1 r7''
            obtain ⟨b', o', rfl, hcell, hlt⟩ := r7''.cell (k := 0) (by simp)
            simp only [Nat.add_zero, List.getElem_cons_zero] at hcell
            go_wp2_with fail
            go_meet
            exact ⟨by first | rfl | simp, (by repeat (first | (with_reducible assumption) | (with_reducible exact Below.refl _ _) | (with_reducible refine Below.alloc ?_ (by first | omega | (simp; omega) | (simp; done) | (dsimp only; omega)) _) | (with_reducible refine Below.setCell ?_ (by first | omega | (simp; omega) | (simp; done) | (dsimp only; omega)) _) | (with_reducible refine Below.drew ?_) | (with_reducible refine Below.trans ?_ (Below.mono (by assumption) (by first | omega | (simp; omega) | (simp; done) | (dsimp only; omega))))))⟩
        case rest =>
          obtain ⟨rfl, hb⟩ := hcut
          have r8 := r7''.mono hb
          have hraF := hraE.mono hb
          have hrbF := hrbE.mono hb
          have h8 := (hb.block _ z7).trans h7''
          replace q0_0 := (hb.cell (p := ⟨w.heap.size, 0, none⟩) z0).trans q0_0
          replace q0_1 := (hb.cell (p := ⟨w.heap.size, 1, none⟩) z0).trans q0_1
          replace q1_0 := (hb.cell (p := ⟨w.heap.size + 1, 0, none⟩) z1).trans q1_0
          replace q1_1 := (hb.cell (p := ⟨w.heap.size + 1, 1, none⟩) z1).trans q1_1
          replace z0 := Nat.lt_of_lt_of_le z0 hb.size
          replace z1 := Nat.lt_of_lt_of_le z1 hb.size
          replace q7_0 := (hb.cell (p := ⟨b7, 0, none⟩) z7).trans q7_0
          replace q7_1 := (hb.cell (p := ⟨b7, 1, none⟩) z7).trans q7_1
          replace z7 := Nat.lt_of_lt_of_le z7 hb.size
          replace HW := HW.trans (hb.mono HW.size)
          clear hb r7'' h7'' hraE hrbE f7 oc
          have KE := names_Equal na nb la lb A B ca cb wc (by omega) (by omega) hza hraF hrbF
          rw [may_eq, must_eq] at KE
          have KE' := Lib.hid KE
          clear KE
          have KL : ∀ (X : Option Addr) (c : Nat) (w' : World), SRow w' X (srt (meetL la lb)) → Calls Try.prog 10 #[.agg #[.bool (na && nb), .slice X (srt (meetL la lb)).length c]] w' fun e w'' => e = .returned (.int .i64 (lenS (na && nb) (srt (meetL la lb)))) ∧ Below w'.heap.size w' w'' :=
            fun X c w' h => r7_Len (na && nb) (srt (meetL la lb)) X c w' (by omega) h
          generalize lenS (na && nb) (srt (meetL la lb)) = L at KE' KL
          have KA := fun (w' : World) h => r7_Len na la A ca w' hma h
          have KB := fun (w' : World) h => r7_Len nb lb B cb w' hmb h
          generalize lenS na la = lA at KE' KA
          generalize lenS nb lb = lB at KE' KB
          have KL' := Lib.hid KL
          have KA' := Lib.hid KA
          have KB' := Lib.hid KB
          clear KL KA KB
          go_upto_region 6 with fail
          go_cut [11, 12] (fun s11 s12 wx => s11 = .bool (decide (0 < L)) ∧ s12 = .bool (decide (0 < L) && lA == 1 && lB == 1) ∧ Below wc.heap.size wc wx)
          case first =>
            go_wp2_with fail
            go_at_call 25
            refine KE'.out.mono ?_
            rintro e x1 ⟨rfl, hb1⟩
            go_wp2_with fail
            go_meet
            exact ⟨rfl, rfl, (by repeat (first | (with_reducible assumption) | (with_reducible exact Below.refl _ _) | (with_reducible refine Below.alloc ?_ (by first | omega | (simp; omega) | (simp; done) | (dsimp only; omega)) _) | (with_reducible refine Below.setCell ?_ (by first | omega | (simp; omega) | (simp; done) | (dsimp only; omega)) _) | (with_reducible refine Below.drew ?_) | (with_reducible refine Below.trans ?_ (Below.mono (by assumption) (by first | omega | (simp; omega) | (simp; done) | (dsimp only; omega))))))⟩
          case rest =>
            obtain ⟨rfl, rfl, hb⟩ := hcut
            have r9 := r8.mono hb
            have hraG := hraF.mono hb
            have hrbG := hrbF.mono hb
            have h9 := (hb.block _ z7).trans h8
            replace q0_0 := (hb.cell (p := ⟨w.heap.size, 0, none⟩) z0).trans q0_0
            replace q0_1 := (hb.cell (p := ⟨w.heap.size, 1, none⟩) z0).trans q0_1
            replace q1_0 := (hb.cell (p := ⟨w.heap.size + 1, 0, none⟩) z1).trans q1_0
            replace q1_1 := (hb.cell (p := ⟨w.heap.size + 1, 1, none⟩) z1).trans q1_1
            replace z0 := Nat.lt_of_lt_of_le z0 hb.size
            replace z1 := Nat.lt_of_lt_of_le z1 hb.size
            replace q7_0 := (hb.cell (p := ⟨b7, 0, none⟩) z7).trans q7_0
            replace q7_1 := (hb.cell (p := ⟨b7, 1, none⟩) z7).trans q7_1
            replace z7 := Nat.lt_of_lt_of_le z7 hb.size
            replace HW := HW.trans (hb.mono HW.size)
            clear hb r8 h8 hraF hrbF KE'
            have KM := Lib.hid (r7_Meet na nb la lb A B ca cb wc (by omega) (by omega) hraG hrbG)
            go_upto_region 7 with fail
            go_cut [13] (fun s13 wx => s13 = .bool (decide (0 < L)) ∧ Below wc.heap.size wc wx)
            case first =>
              go_wp2_with fail
              go_at_call 16
              refine KM.out.mono ?_
              rintro e x1 ⟨⟨v1, rfl, A1, c1, rfl, i1, j1, r1, n1, s1⟩, hb1⟩
              go_wp2_with fail
              go_at_call 10
              refine (KL'.out _ _ _ r1).mono ?_
              rintro e x2 ⟨rfl, hb2⟩
              go_wp2_with fail
              go_meet
              exact ⟨by first | rfl | simp, hb1.trans (hb2.mono hb1.size)⟩
            case rest =>
              obtain ⟨rfl, hb⟩ := hcut
              have r10 := r9.mono hb
              have h10 := (hb.block _ z7).trans h9
              replace q0_0 := (hb.cell (p := ⟨w.heap.size, 0, none⟩) z0).trans q0_0
              replace q0_1 := (hb.cell (p := ⟨w.heap.size, 1, none⟩) z0).trans q0_1
              replace q1_0 := (hb.cell (p := ⟨w.heap.size + 1, 0, none⟩) z1).trans q1_0
              replace q1_1 := (hb.cell (p := ⟨w.heap.size + 1, 1, none⟩) z1).trans q1_1
              replace z0 := Nat.lt_of_lt_of_le z0 hb.size
              replace z1 := Nat.lt_of_lt_of_le z1 hb.size
              replace q7_0 := (hb.cell (p := ⟨b7, 0, none⟩) z7).trans q7_0
              replace q7_1 := (hb.cell (p := ⟨b7, 1, none⟩) z7).trans q7_1
              replace z7 := Nat.lt_of_lt_of_le z7 hb.size
              replace HW := HW.trans (hb.mono HW.size)
              clear hb r9 h9 hraG hrbG KM KL'
              generalize decide (0 < L) = bo at *
              have f7 := blk_free h10
              obtain ⟨wo, rfl⟩ : ∃ wo : World, wo = wc := ⟨_, rfl⟩
              go_upto_region 8 with fail
              go_cut [] (fun wx => wx = wo.setCell ⟨b7, 0, none⟩ (.bool (na && !null)))
              case first =>
                cases na <;> cases null
                all_goals
                  go_wp2_with fail
                  go_meet
                  rfl
              case rest =>
                have hs := congrArg (fun x : World => x.heap.size) hcut
                have hsz : ∀ (u : World) (p : Addr) (v : Value), (u.setCell p v).heap.size = u.heap.size := fun u p v => by simp
                (try dsimp only at hs)
                rw [hsz] at hs
                have far : ∀ p : Addr, p.block ≠ b7 → wc.cell? p = wo.cell? p := fun p h => by rw [hcut]; exact World.cell?_setCell_far _ _ _ _ (fun e => h e.symm)
                have h11 : wc.heap[b7]? = some (.cells #[.bool (na && !null), .slice A7 (srt la).length c7] 24) := by
                  rw [hcut]; exact blk_set1 h10
                have r11 := r10.far (fun a e hne p hp => far p (by rw [hp]; exact f7ne a e hne))
                have HWX : Below w.heap.size w wc := by rw [hcut]; exact (by repeat (first | (with_reducible assumption) | (with_reducible exact Below.refl _ _) | (with_reducible refine Below.alloc ?_ (by first | omega | (simp; omega) | (simp; done) | (dsimp only; omega)) _) | (with_reducible refine Below.setCell ?_ (by first | omega | (simp; omega) | (simp; done) | (dsimp only; omega)) _) | (with_reducible refine Below.drew ?_) | (with_reducible refine Below.trans ?_ (Below.mono (by assumption) (by first | omega | (simp; omega) | (simp; done) | (dsimp only; omega))))))
                have hraX := hra.mono HWX
                have hrbX := hrb.mono HWX
                replace q0_0 := (far ⟨w.heap.size, 0, none⟩ (by dsimp only; omega)).trans q0_0
                replace q0_1 := (far ⟨w.heap.size, 1, none⟩ (by dsimp only; omega)).trans q0_1
                replace q1_0 := (far ⟨w.heap.size + 1, 0, none⟩ (by dsimp only; omega)).trans q1_0
                replace q1_1 := (far ⟨w.heap.size + 1, 1, none⟩ (by dsimp only; omega)).trans q1_1
                rw [← hs] at z0 z1 z7
                have g7 := blk_cell h11
                replace q7_0 := g7 0
                replace q7_1 := g7 1
                simp only [List.getElem?_toArray, List.getElem?_cons_zero, List.getElem?_cons_succ] at q7_0 q7_1
                clear g7 far hs hsz hcut r10 h10 HW h11 f7
                go_upto_region 9 with fail
                cases bo <;> cases hA : lA == 1 <;> cases hB : lB == 1
                all_goals
                  refine region_seqg (W := wc) [_, _, _, _, _, _, _, _, _, _, _, _, _, _, _, _, _, _, _, _, _, _, _, _, _, _, _, _, _] [] rfl (by kernel_rfl) (by kernel_rfl) (by repeat (first | (with_reducible assumption) | (with_reducible exact Below.refl _ _) | (with_reducible refine Below.alloc ?_ (by first | omega | (simp; omega) | (simp; done) | (dsimp only; omega)) _) | (with_reducible refine Below.setCell ?_ (by first | omega | (simp; omega) | (simp; done) | (dsimp only; omega)) _) | (with_reducible refine Below.drew ?_) | (with_reducible refine Below.trans ?_ (Below.mono (by assumption) (by first | omega | (simp; omega) | (simp; done) | (dsimp only; omega)))))) (fun fin hfin => ?_)
                  iterate 2
                    first
                      | (refine SeqG.yes (v := ?_) (A' := ?_) rfl (fun γ => by rfl) ?_ ?_ ?_
                         rotate_left 2
                         · intro γ w' K hS hK
                           obtain ⟨hc, hf⟩ := bcell hS
                           have hz := hS.size
                           go_simp
                           first
                             | exact hK.out _ (Below.refl _ _)
                             | (go_at_call 10; (with_reducible refine (KA'.out w' (hraX.mono hS)).mono ?_); rintro e w1 ⟨rfl, hb1⟩; exact hK.out _ hb1)
                             | (go_at_call 10; (with_reducible refine (KB'.out w' (hrbX.mono hS)).mono ?_); rintro e w1 ⟨rfl, hb1⟩; exact hK.out _ hb1)
                             | (go_at_call 23; (with_reducible refine (law07_lives w').mono ?_); rintro e w1 ⟨rfl, hb1⟩; exact hK.out _ hb1)
                             | trace_state
                         · intro γ; simp only [Act.put, List.setIfInBounds_toArray, List.set_cons_zero, List.set_cons_succ]; exact rfl)
                      | (refine SeqG.no (A' := ?_) rfl (fun γ => by rfl) ?_ ?_
                         rotate_left
                         · intro γ; simp only [Act.put, List.setIfInBounds_toArray, List.set_cons_zero, List.set_cons_succ]; exact rfl)
                  refine SeqG.make (k := 2) (A' := ?_) (fun g => .agg #[.bool (na && !null), .slice (gA g) (srt la).length (g 2)]) (RSetG (srt la)) rfl (fun γ => by rfl) (RSetG.stable _) ?_ ?_ ?_
                  rotate_left
                  · intro γ w' K hS hF hK
                    obtain ⟨hc, hf⟩ := bcell hS
                    have hz := hS.size
                    go_simp
                    (go_at_call 26; refine (names_Without na null la A ca w' (by omega) hza (hraX.mono hS)).mono ?_; rintro e w1 ⟨⟨v, rfl, hset⟩, hb1⟩; obtain ⟨g, rfl, hg⟩ := SetV.ghost hset (by omega) (lo := w'.heap.size); exact hK.out g w1 hb1 hg)
                  · intro γ; simp only [Act.put, List.setIfInBounds_toArray, List.set_cons_zero, List.set_cons_succ]; exact rfl
                  iterate 1
                    first
                      | (refine SeqG.yes (v := ?_) (A' := ?_) rfl (fun γ => by rfl) ?_ ?_ ?_
                         rotate_left 2
                         · intro γ w' K hS hK
                           obtain ⟨hc, hf⟩ := bcell hS
                           have hz := hS.size
                           go_simp
                           first
                             | exact hK.out _ (Below.refl _ _)
                             | (go_at_call 10; (with_reducible refine (KA'.out w' (hraX.mono hS)).mono ?_); rintro e w1 ⟨rfl, hb1⟩; exact hK.out _ hb1)
                             | (go_at_call 10; (with_reducible refine (KB'.out w' (hrbX.mono hS)).mono ?_); rintro e w1 ⟨rfl, hb1⟩; exact hK.out _ hb1)
                             | (go_at_call 23; (with_reducible refine (law07_lives w').mono ?_); rintro e w1 ⟨rfl, hb1⟩; exact hK.out _ hb1)
                             | trace_state
                         · intro γ; simp only [Act.put, List.setIfInBounds_toArray, List.set_cons_zero, List.set_cons_succ]; exact rfl)
                      | (refine SeqG.no (A' := ?_) rfl (fun γ => by rfl) ?_ ?_
                         rotate_left
                         · intro γ; simp only [Act.put, List.setIfInBounds_toArray, List.set_cons_zero, List.set_cons_succ]; exact rfl)
                  refine SeqG.make (k := 4) (A' := ?_) (fun _ => .bool true) (fun _ _ _ _ => True) rfl (fun γ => by rfl) (Stable.true) ?_ ?_ ?_
                  rotate_left
                  · intro γ w' K hS hF hK
                    obtain ⟨hc, hf⟩ := bcell hS
                    have hz := hS.size
                    obtain ⟨_, _, _, _, r2, m2, t2, n2, _⟩ := hF (2, RSetG (srt la)) (by simp) (reachL_spec (of_decide_eq_true (by kernel_rfl)))
                    go_simp
                    (go_at_call 12; refine (exact_refl (na && !null) (srt la) _ A7 _ c7 w' (by omega) r2 (r11.mono hS)).mono ?_; rintro e w1 ⟨rfl, hb1⟩; exact hK.out (fun _ => 0) w1 hb1 trivial)
                  · intro γ; simp only [Act.put, List.setIfInBounds_toArray, List.set_cons_zero, List.set_cons_succ]; exact rfl
                  iterate 24
                    first
                      | (refine SeqG.yes (v := ?_) (A' := ?_) rfl (fun γ => by rfl) ?_ ?_ ?_
                         rotate_left 2
                         · intro γ w' K hS hK
                           obtain ⟨hc, hf⟩ := bcell hS
                           have hz := hS.size
                           go_simp
                           first
                             | exact hK.out _ (Below.refl _ _)
                             | (go_at_call 10; (with_reducible refine (KA'.out w' (hraX.mono hS)).mono ?_); rintro e w1 ⟨rfl, hb1⟩; exact hK.out _ hb1)
                             | (go_at_call 10; (with_reducible refine (KB'.out w' (hrbX.mono hS)).mono ?_); rintro e w1 ⟨rfl, hb1⟩; exact hK.out _ hb1)
                             | (go_at_call 23; (with_reducible refine (law07_lives w').mono ?_); rintro e w1 ⟨rfl, hb1⟩; exact hK.out _ hb1)
                             | trace_state
                         · intro γ; simp only [Act.put, List.setIfInBounds_toArray, List.set_cons_zero, List.set_cons_succ]; exact rfl)
                      | (refine SeqG.no (A' := ?_) rfl (fun γ => by rfl) ?_ ?_
                         rotate_left
                         · intro γ; simp only [Act.put, List.setIfInBounds_toArray, List.set_cons_zero, List.set_cons_succ]; exact rfl)
                  refine SeqG.nil (hfin.out _ _ ?_)
                  clear hfin fin
                  intro γ lo hi w1 hB1 hF hD
                  clear hF hD
                  refine TailL.nil ?_
                  go_wp2
                  go_ret
                  exact ⟨rfl, (by repeat (first | (with_reducible assumption) | (with_reducible exact Below.refl _ _) | (with_reducible refine Below.alloc ?_ (by first | omega | (simp; omega) | (simp; done) | (dsimp only; omega)) _) | (with_reducible refine Below.setCell ?_ (by first | omega | (simp; omega) | (simp; done) | (dsimp only; omega)) _) | (with_reducible refine Below.drew ?_) | (with_reducible refine Below.trans ?_ (Below.mono (by assumption) (by first | omega | (simp; omega) | (simp; done) | (dsimp only; omega))))))⟩
end Go.Proofs.Ytnbpdkcnldeljaa
