/- X-PARTIAL Which sets have all of which, and which are the same, string by string: layer 7. -/
import Derived.Test.YtnbpdkcnldeljaaNamI
import Derived.BigCall
namespace Go.Proofs.Ytnbpdkcnldeljaa
open Go.RowKit

def allIn (la lb : List Str) : Bool := la.all (fun x => hasL lb x)

def leqS (na : Bool) (la : List Str) (nb : Bool) (lb : List Str) : Bool := allIn la lb && (nb || !na)

theorem allIn_take (la lb : List Str) (k : Nat) (h : k < la.length) : allIn (la.take (k + 1)) lb = (allIn (la.take k) lb && hasL lb la[k]) := by
  unfold allIn
  rw [take_snoc' la k h, List.all_append]
  simp

theorem allIn_miss {la lb : List Str} {k : Nat} (h : k < la.length) (he : hasL lb la[k] = false) : allIn la lb = false := by
  cases hh : allIn la lb
  · rfl
  · unfold allIn at hh
    rw [List.all_eq_true] at hh
    rw [hh _ (List.getElem_mem h)] at he
    cases he

theorem allIn_iff (la lb : List Str) : allIn la lb = true ↔ ∀ x, x ∈ la → x ∈ lb := by
  unfold allIn
  rw [List.all_eq_true]
  constructor
  · intro h x hx; exact (hasL_iff _ _).1 (h x hx)
  · intro h x hx; exact (hasL_iff _ _).2 (h x hx)

def LeqRel (la lb : List Str) (W : World) (i : Value) (wx : World) : Prop := ∃ k : Nat, k ≤ la.length ∧ i = .int .i64 k ∧ allIn (la.take k) lb = true ∧ Below W.heap.size W wx

set_option maxRecDepth 100000 in
set_option maxHeartbeats 4000000 in
theorem names_Leq (na nb : Bool) (la lb : List Str) (A B : Option Addr) (ca cb : Nat) (w : World) (ha : la.length ≤ 9223372036854775807) (hb : lb.length ≤ 9223372036854775807) (hra : SRow w A la) (hrb : SRow w B lb) :
    Calls Try.prog 17 #[.agg #[.bool na, .slice A la.length ca], .agg #[.bool nb, .slice B lb.length cb]] w fun e w' => e = .returned (.bool (leqS na la nb lb)) ∧ Below w.heap.size w w' := by
  go_enter Try.func17, Try.ntmps17
  go_upto_region 1 with fail
  generalize hW : ((w.alloc (.cells #[.bool na, .slice A la.length ca] 24)).alloc (.cells #[.bool nb, .slice B lb.length cb] 24)) = W
  have q0_0 : W.cell? ⟨w.heap.size, 0, none⟩ = some (.bool na) := by rw [← hW]; simp [go_sem]
  have q0_1 : W.cell? ⟨w.heap.size, 1, none⟩ = some (.slice A la.length ca) := by rw [← hW]; simp [go_sem]
  have q1_0 : W.cell? ⟨w.heap.size + 1, 0, none⟩ = some (.bool nb) := by rw [← hW]; simp [go_sem]
  have q1_1 : W.cell? ⟨w.heap.size + 1, 1, none⟩ = some (.slice B lb.length cb) := by rw [← hW]; simp [go_sem]
  have z0 : w.heap.size < W.heap.size := by rw [← hW]; first | (simp; done) | (simp; omega)
  have z1 : w.heap.size + 1 < W.heap.size := by rw [← hW]; first | (simp; done) | (simp; omega)
  have HW : Below w.heap.size w W := by rw [← hW]; exact (by repeat (first | (with_reducible assumption) | (with_reducible exact Below.refl _ _) | (with_reducible refine Below.alloc ?_ (by first | omega | (simp; omega) | (simp; done) | (dsimp only; omega)) _) | (with_reducible refine Below.setCell ?_ (by first | omega | (simp; omega) | (simp; done) | (dsimp only; omega)) _) | (with_reducible refine Below.drew ?_) | (with_reducible refine Below.trans ?_ (Below.mono (by assumption) (by first | omega | (simp; omega) | (simp; done) | (dsimp only; omega))))))
  clear hW
  have hraW := hra.mono HW
  have hrbW := hrb.mono HW
  go_wp2
  go_loopw [6, 10] (fun _ i wx => LeqRel la lb W i wx) (fun _ i _ => la.length - (intOf i).toNat)
  case atStart => exact ⟨0, Nat.zero_le _, rfl, rfl, Below.refl _ _⟩
  case round =>
    obtain ⟨k, hk, rfl, hall, hB⟩ := hrel
    have hrax := hraW.mono hB
    have HWX := HW.trans (hB.mono HW.size)
    have p0 := (hB.cell (p := ⟨w.heap.size, 0, none⟩) z0).trans q0_0
    have p1 := (hB.cell (p := ⟨w.heap.size + 1, 0, none⟩) z1).trans q1_0
    have p2 := (hB.cell (p := ⟨w.heap.size + 1, 1, none⟩) z1).trans q1_1
    have hBs := hB.size
    have y0 : w.heap.size < wr.heap.size := by omega
    have y1 : w.heap.size + 1 < wr.heap.size := by omega
    by_cases hlt : k < la.length
    · obtain ⟨b, o, rfl, hc, hbl⟩ := hrax.cell hlt
      have hs := allIn_take la lb k hlt
      rw [hall, Bool.true_and] at hs
      have HL := Lib.hid (names_listed nb lb B cb la[k] wr hb (hrbW.mono hB))
      have hmiss := fun h => allIn_miss (lb := lb) hlt h
      generalize la[k] = x at *
      generalize hasL lb x = hx at *
      cases hx
      · have HT := Lib.hid (show leqS na la nb lb = false by unfold leqS; rw [hmiss rfl]; rfl)
        clear hs hmiss hrax
        go_wp2_with (go_at_call 27; (with_reducible refine (HL.out).mono ?_); rintro e w1 ⟨rfl, hb1⟩; obtain ⟨hc1, hf1⟩ := bcell hb1; have hz1 := hb1.size; (try simp at hz1); (try have hy1 := Nat.lt_of_succ_le hz1); (try have hv1 := Nat.lt_of_succ_lt hy1); (try have hw10 : w.heap.size < w1.heap.size := by omega); (try have hw11 : w.heap.size + 1 < w1.heap.size := by omega); (try have hw12 : w.heap.size + 1 + 1 < w1.heap.size := by omega); (try have hw13 : w.heap.size + 1 + 1 + 1 < w1.heap.size := by omega))
        go_ret
        exact ⟨ret_bool HT.out.symm, (by repeat (first | (with_reducible assumption) | (with_reducible exact Below.refl _ _) | (with_reducible refine Below.alloc ?_ (by first | omega | (simp; omega) | (simp; done) | (dsimp only; omega)) _) | (with_reducible refine Below.setCell ?_ (by first | omega | (simp; omega) | (simp; done) | (dsimp only; omega)) _) | (with_reducible refine Below.drew ?_) | (with_reducible refine Below.trans ?_ (Below.mono (by assumption) (by first | omega | (simp; omega) | (simp; done) | (dsimp only; omega))))))⟩
      · have HS := Lib.hid hs
        clear hs hmiss hrax
        go_wp2_with (go_at_call 27; (with_reducible refine (HL.out).mono ?_); rintro e w1 ⟨rfl, hb1⟩; obtain ⟨hc1, hf1⟩ := bcell hb1; have hz1 := hb1.size; (try simp at hz1); (try have hy1 := Nat.lt_of_succ_le hz1); (try have hv1 := Nat.lt_of_succ_lt hy1); (try have hw10 : w.heap.size < w1.heap.size := by omega); (try have hw11 : w.heap.size + 1 < w1.heap.size := by omega); (try have hw12 : w.heap.size + 1 + 1 < w1.heap.size := by omega); (try have hw13 : w.heap.size + 1 + 1 + 1 < w1.heap.size := by omega))
        go_roundw
        case rel => exact ⟨k + 1, by omega, by go_num, HS.out, hB.trans (hb1.mono hBs)⟩
        case measure => simp [intOf]; omega
    · obtain rfl : k = la.length := by omega
      rw [List.take_length] at hall
      have HT := Lib.hid (show leqS na la nb lb = (nb || !na) by unfold leqS; rw [hall]; rfl)
      clear hrax hall
      cases nb <;> cases na
      all_goals
        go_wp2
        go_ret
        exact ⟨ret_bool (by rw [HT.out]; rfl), HWX⟩

set_option maxHeartbeats 2000000 in
theorem names_Same (na nb : Bool) (la lb : List Str) (A B : Option Addr) (ca cb : Nat) (w : World) (ha : la.length ≤ 9223372036854775807) (hb : lb.length ≤ 9223372036854775807) (hra : SRow w A la) (hrb : SRow w B lb) :
    Calls Try.prog 19 #[.agg #[.bool na, .slice A la.length ca], .agg #[.bool nb, .slice B lb.length cb]] w fun e w' => e = .returned (.bool (leqS na la nb lb && leqS nb lb na la)) ∧ Below w.heap.size w w' := by
  have H1 := fun w' h => names_Leq na nb la lb A B ca cb w' ha hb (hra.mono h) (hrb.mono h)
  have H2 := fun w' h => names_Leq nb na lb la B A cb ca w' hb ha (hrb.mono h) (hra.mono h)
  generalize leqS na la nb lb = x at *
  generalize leqS nb lb na la = y at *
  have H1' := Lib.hid H1
  have H2' := Lib.hid H2
  clear H1 H2
  cases x
  all_goals
    go_enter Try.func19, Try.ntmps19
    go_upto_region 1 with fail
    generalize hW : ((w.alloc (.cells #[.bool na, .slice A la.length ca] 24)).alloc (.cells #[.bool nb, .slice B lb.length cb] 24)) = W
    have q0_0 : W.cell? ⟨w.heap.size, 0, none⟩ = some (.bool na) := by rw [← hW]; simp [go_sem]
    have q0_1 : W.cell? ⟨w.heap.size, 1, none⟩ = some (.slice A la.length ca) := by rw [← hW]; simp [go_sem]
    have q1_0 : W.cell? ⟨w.heap.size + 1, 0, none⟩ = some (.bool nb) := by rw [← hW]; simp [go_sem]
    have q1_1 : W.cell? ⟨w.heap.size + 1, 1, none⟩ = some (.slice B lb.length cb) := by rw [← hW]; simp [go_sem]
    have z0 : w.heap.size < W.heap.size := by rw [← hW]; first | (simp; done) | (simp; omega)
    have z1 : w.heap.size + 1 < W.heap.size := by rw [← hW]; first | (simp; done) | (simp; omega)
    have HW : Below w.heap.size w W := by rw [← hW]; exact (by repeat (first | (with_reducible assumption) | (with_reducible exact Below.refl _ _) | (with_reducible refine Below.alloc ?_ (by first | omega | (simp; omega) | (simp; done) | (dsimp only; omega)) _) | (with_reducible refine Below.setCell ?_ (by first | omega | (simp; omega) | (simp; done) | (dsimp only; omega)) _) | (with_reducible refine Below.drew ?_) | (with_reducible refine Below.trans ?_ (Below.mono (by assumption) (by first | omega | (simp; omega) | (simp; done) | (dsimp only; omega))))))
    clear hW
    have h1 := H1'.out W HW
    go_wp2_with (first | (go_at_call 17; (with_reducible refine (h1).mono ?_); rintro e w1 ⟨rfl, hb1⟩; obtain ⟨hc1, hf1⟩ := bcell hb1; have hz1 := hb1.size; (try simp at hz1); (try have hy1 := Nat.lt_of_succ_le hz1); (try have hv1 := Nat.lt_of_succ_lt hy1); (try have hw10 : w.heap.size < w1.heap.size := by omega); (try have hw11 : w.heap.size + 1 < w1.heap.size := by omega); (try have hw12 : w.heap.size + 1 + 1 < w1.heap.size := by omega); (try have hw13 : w.heap.size + 1 + 1 + 1 < w1.heap.size := by omega)) | (go_at_call 17; (with_reducible refine (H2'.out _ (HW.trans (hb1.mono HW.size))).mono ?_); rintro e w2 ⟨rfl, hb2⟩; obtain ⟨hc2, hf2⟩ := bcell hb2; have hz2 := hb2.size; (try simp at hz2); (try have hy2 := Nat.lt_of_succ_le hz2); (try have hv2 := Nat.lt_of_succ_lt hy2); (try have hw20 : w.heap.size < w2.heap.size := by omega); (try have hw21 : w.heap.size + 1 < w2.heap.size := by omega); (try have hw22 : w.heap.size + 1 + 1 < w2.heap.size := by omega); (try have hw23 : w.heap.size + 1 + 1 + 1 < w2.heap.size := by omega)))
    go_ret
    exact ⟨rfl, (by repeat (first | (with_reducible assumption) | (with_reducible exact Below.refl _ _) | (with_reducible refine Below.alloc ?_ (by first | omega | (simp; omega) | (simp; done) | (dsimp only; omega)) _) | (with_reducible refine Below.setCell ?_ (by first | omega | (simp; omega) | (simp; done) | (dsimp only; omega)) _) | (with_reducible refine Below.drew ?_) | (with_reducible refine Below.trans ?_ (Below.mono (by assumption) (by first | omega | (simp; omega) | (simp; done) | (dsimp only; omega))))))⟩

set_option maxRecDepth 100000 in
set_option maxHeartbeats 4000000 in
theorem r7_Leq (na nb : Bool) (la lb : List Str) (A B : Option Addr) (ca cb : Nat) (w : World) (ha : la.length ≤ 9223372036854775807) (hb : lb.length ≤ 9223372036854775807) (hra : SRow w A la) (hrb : SRow w B lb) :
    Calls Try.prog 18 #[.agg #[.bool na, .slice A la.length ca], .agg #[.bool nb, .slice B lb.length cb]] w fun e w' => e = .returned (.bool (leqS na la nb lb)) ∧ Below w.heap.size w w' := by
  go_enter Try.func18, Try.ntmps18
  go_upto_region 1 with fail
  generalize hW : ((w.alloc (.cells #[.bool na, .slice A la.length ca] 24)).alloc (.cells #[.bool nb, .slice B lb.length cb] 24)) = W
  have q0_0 : W.cell? ⟨w.heap.size, 0, none⟩ = some (.bool na) := by rw [← hW]; simp [go_sem]
  have q0_1 : W.cell? ⟨w.heap.size, 1, none⟩ = some (.slice A la.length ca) := by rw [← hW]; simp [go_sem]
  have q1_0 : W.cell? ⟨w.heap.size + 1, 0, none⟩ = some (.bool nb) := by rw [← hW]; simp [go_sem]
  have q1_1 : W.cell? ⟨w.heap.size + 1, 1, none⟩ = some (.slice B lb.length cb) := by rw [← hW]; simp [go_sem]
  have z0 : w.heap.size < W.heap.size := by rw [← hW]; first | (simp; done) | (simp; omega)
  have z1 : w.heap.size + 1 < W.heap.size := by rw [← hW]; first | (simp; done) | (simp; omega)
  have HW : Below w.heap.size w W := by rw [← hW]; exact (by repeat (first | (with_reducible assumption) | (with_reducible exact Below.refl _ _) | (with_reducible refine Below.alloc ?_ (by first | omega | (simp; omega) | (simp; done) | (dsimp only; omega)) _) | (with_reducible refine Below.setCell ?_ (by first | omega | (simp; omega) | (simp; done) | (dsimp only; omega)) _) | (with_reducible refine Below.drew ?_) | (with_reducible refine Below.trans ?_ (Below.mono (by assumption) (by first | omega | (simp; omega) | (simp; done) | (dsimp only; omega))))))
  clear hW
  have hraW := hra.mono HW
  have hrbW := hrb.mono HW
  go_wp2
  go_loopw [5] (fun i wx => LeqRel la lb W i wx) (fun i _ => la.length - (intOf i).toNat)
  case atStart => exact ⟨0, Nat.zero_le _, rfl, rfl, Below.refl _ _⟩
  case round =>
    obtain ⟨k, hk, rfl, hall, hB⟩ := hrel
    have hrax := hraW.mono hB
    have HWX := HW.trans (hB.mono HW.size)
    have p0 := (hB.cell (p := ⟨w.heap.size, 0, none⟩) z0).trans q0_0
    have p01 := (hB.cell (p := ⟨w.heap.size, 1, none⟩) z0).trans q0_1
    have p1 := (hB.cell (p := ⟨w.heap.size + 1, 0, none⟩) z1).trans q1_0
    have p2 := (hB.cell (p := ⟨w.heap.size + 1, 1, none⟩) z1).trans q1_1
    have hBs := hB.size
    have y0 : w.heap.size < wr.heap.size := by omega
    have y1 : w.heap.size + 1 < wr.heap.size := by omega
    by_cases hlt : k < la.length
    · obtain ⟨b, o, rfl, hc, hbl⟩ := hrax.cell hlt
      have hs := allIn_take la lb k hlt
      rw [hall, Bool.true_and] at hs
      have hbI : SRow wr B lb := hrbW.mono hB
      have HL : Hid (∀ w', Below wr.heap.size wr w' → Calls Try.prog 28 #[.slice B lb.length cb, encStr la[k]] w' fun e w'' => e = .returned (.bool (hasL lb la[k])) ∧ w' = w'') := Lib.hid (fun w' h => r7_In lb B cb la[k] w' hb (hbI.mono h))
      have hmiss := fun h => allIn_miss (lb := lb) hlt h
      generalize la[k] = x at *
      generalize hasL lb x = hx at *
      go_upto_region 4 with fail
      refine region_seq (S := fun w' => Below wr.heap.size wr w') rfl (by kernel_rfl) (by kernel_rfl) (by repeat (first | (with_reducible assumption) | (with_reducible exact Below.refl _ _) | (with_reducible refine Below.alloc ?_ (by first | omega | (simp; omega) | (simp; done) | (dsimp only; omega)) _) | (with_reducible refine Below.setCell ?_ (by first | omega | (simp; omega) | (simp; done) | (dsimp only; omega)) _) | (with_reducible refine Below.drew ?_) | (with_reducible refine Below.trans ?_ (Below.mono (by assumption) (by first | omega | (simp; omega) | (simp; done) | (dsimp only; omega)))))) (fun fin hfin => ?_)
      iterate 9
        first
          | (refine SeqL.yes (v := ?_) (A' := ?_) rfl (by rfl) ?_ ?_ ?_
             rotate_left 2
             · intro w' K hS hK
               obtain ⟨hc, hf⟩ := bcell hS
               have hz := hS.size
               go_simp
               first
                 | exact hK.out _ hS
                 | (go_at_call 28; (with_reducible refine (HL.out _ (by assumption)).mono ?_); rintro e w1 ⟨rfl, rfl⟩; exact hK.out _ hS)
                 | trace_state
             · simp only [Act.put, List.setIfInBounds_toArray, List.set_cons_zero, List.set_cons_succ]; exact rfl)
          | (refine SeqL.no (A' := ?_) rfl (by rfl) ?_ ?_
             rotate_left
             · simp only [Act.put, List.setIfInBounds_toArray, List.set_cons_zero, List.set_cons_succ]; exact rfl)
      refine SeqL.nil (hfin.out _ ?_)
      clear hfin fin
      intro w1 hS1
      have hS1s := hS1.size
      cases hx
      · have HT := Lib.hid (show leqS na la nb lb = false by unfold leqS; rw [hmiss rfl]; rfl)
        clear hs hmiss hrax HL hbI
        go_wp2
        go_ret
        exact ⟨ret_bool HT.out.symm, (by repeat (first | (with_reducible assumption) | (with_reducible exact Below.refl _ _) | (with_reducible refine Below.alloc ?_ (by first | omega | (simp; omega) | (simp; done) | (dsimp only; omega)) _) | (with_reducible refine Below.setCell ?_ (by first | omega | (simp; omega) | (simp; done) | (dsimp only; omega)) _) | (with_reducible refine Below.drew ?_) | (with_reducible refine Below.trans ?_ (Below.mono (by assumption) (by first | omega | (simp; omega) | (simp; done) | (dsimp only; omega))))))⟩
      · have HS := Lib.hid hs
        clear hs hmiss hrax HL hbI
        go_wp2
        go_roundw
        case rel => exact ⟨k + 1, by omega, by go_num, HS.out, hB.trans (hS1.mono hBs)⟩
        case measure => simp [intOf]; omega
    · obtain rfl : k = la.length := by omega
      rw [List.take_length] at hall
      have HT := Lib.hid (show leqS na la nb lb = (nb || !na) by unfold leqS; rw [hall]; rfl)
      clear hrax hall
      cases nb <;> cases na
      all_goals
        go_wp2
        go_ret
        exact ⟨ret_bool (by rw [HT.out]; rfl), HWX⟩

def ExaRel (la lb : List Str) (W : World) (i : Value) (wx : World) : Prop := ∃ k : Nat, k ≤ la.length ∧ i = .int .i64 k ∧ la.take k = lb.take k ∧ Below W.heap.size W wx

set_option maxRecDepth 100000 in
set_option maxHeartbeats 4000000 in
theorem r7_Exact (na nb : Bool) (la lb : List Str) (A B : Option Addr) (ca cb : Nat) (w : World) (ha : la.length ≤ 9223372036854775807) (_hb : lb.length ≤ 9223372036854775807) (hra : SRow w A la) (hrb : SRow w B lb) :
    Calls Try.prog 12 #[.agg #[.bool na, .slice A la.length ca], .agg #[.bool nb, .slice B lb.length cb]] w fun e w' => e = .returned (.bool (na == nb && la == lb)) ∧ Below w.heap.size w w' := by
  by_cases hn : na = nb
  · subst hn
    have kn : (na != na) = false := by simp
    by_cases hl : la.length = lb.length
    · have kl : ((la.length : Int) != (lb.length : Int)) = false := by rw [hl]; simp
      have HLN := Lib.hid hl
      clear hl
      go_enter Try.func12, Try.ntmps12
      go_upto_region 1 with fail
      generalize hW : ((w.alloc (.cells #[.bool na, .slice A la.length ca] 24)).alloc (.cells #[.bool na, .slice B lb.length cb] 24)) = W
      have q0_0 : W.cell? ⟨w.heap.size, 0, none⟩ = some (.bool na) := by rw [← hW]; simp [go_sem]
      have q0_1 : W.cell? ⟨w.heap.size, 1, none⟩ = some (.slice A la.length ca) := by rw [← hW]; simp [go_sem]
      have q1_0 : W.cell? ⟨w.heap.size + 1, 0, none⟩ = some (.bool na) := by rw [← hW]; simp [go_sem]
      have q1_1 : W.cell? ⟨w.heap.size + 1, 1, none⟩ = some (.slice B lb.length cb) := by rw [← hW]; simp [go_sem]
      have z0 : w.heap.size < W.heap.size := by rw [← hW]; first | (simp; done) | (simp; omega)
      have z1 : w.heap.size + 1 < W.heap.size := by rw [← hW]; first | (simp; done) | (simp; omega)
      have HW : Below w.heap.size w W := by rw [← hW]; exact (by repeat (first | (with_reducible assumption) | (with_reducible exact Below.refl _ _) | (with_reducible refine Below.alloc ?_ (by first | omega | (simp; omega) | (simp; done) | (dsimp only; omega)) _) | (with_reducible refine Below.setCell ?_ (by first | omega | (simp; omega) | (simp; done) | (dsimp only; omega)) _) | (with_reducible refine Below.drew ?_) | (with_reducible refine Below.trans ?_ (Below.mono (by assumption) (by first | omega | (simp; omega) | (simp; done) | (dsimp only; omega))))))
      clear hW
      have hraW := hra.mono HW
      have hrbW := hrb.mono HW
      go_wp2
      go_loopw [5] (fun i wx => ExaRel la lb W i wx) (fun i _ => la.length - (intOf i).toNat)
      case atStart => exact ⟨0, Nat.zero_le _, rfl, rfl, Below.refl _ _⟩
      case round =>
        obtain ⟨k, hk, rfl, heq, hB⟩ := hrel
        have hrax := hraW.mono hB
        have hrbx := hrbW.mono hB
        have HWX := HW.trans (hB.mono HW.size)
        have p01 := (hB.cell (p := ⟨w.heap.size, 1, none⟩) z0).trans q0_1
        have p2 := (hB.cell (p := ⟨w.heap.size + 1, 1, none⟩) z1).trans q1_1
        have hBs := hB.size
        have y0 : w.heap.size < wr.heap.size := by omega
        have y1 : w.heap.size + 1 < wr.heap.size := by omega
        by_cases hlt : k < la.length
        · have hlt2 : k < lb.length := by have := HLN.out; omega
          obtain ⟨b, o, rfl, hc, hbl⟩ := hrax.cell hlt
          obtain ⟨b2, o2, rfl, hc2, hbl2⟩ := hrbx.cell hlt2
          have s1 := take_snoc' la k hlt
          have s2 := take_snoc' lb k hlt2
          cases hx : la[k] == lb[k]
          · have hne : (la == lb) = false := by
              cases h : la == lb
              · rfl
              · have e : la = lb := by simpa using h
                have : la[k] = lb[k] := by simp [e]
                rw [this] at hx
                simp at hx
            have HT := Lib.hid (show (na == na && la == lb) = false by rw [hne, Bool.and_false])
            clear s1 s2 hrax hrbx hne heq
            generalize la[k] = x at *
            generalize lb[k] = y at *
            go_upto_region 6 with fail
            refine region_seq (S := fun w' => Below wr.heap.size wr w') rfl (by kernel_rfl) (by kernel_rfl) (by repeat (first | (with_reducible assumption) | (with_reducible exact Below.refl _ _) | (with_reducible refine Below.alloc ?_ (by first | omega | (simp; omega) | (simp; done) | (dsimp only; omega)) _) | (with_reducible refine Below.setCell ?_ (by first | omega | (simp; omega) | (simp; done) | (dsimp only; omega)) _) | (with_reducible refine Below.drew ?_) | (with_reducible refine Below.trans ?_ (Below.mono (by assumption) (by first | omega | (simp; omega) | (simp; done) | (dsimp only; omega)))))) (fun fin hfin => ?_)
            iterate 11
              first
                | (refine SeqL.yes (v := ?_) (A' := ?_) rfl (by rfl) ?_ ?_ ?_
                   rotate_left 2
                   · intro w' K hS hK
                     obtain ⟨hc, hf⟩ := bcell hS
                     have hz := hS.size
                     go_simp
                     first
                       | exact hK.out _ hS
                       | trace_state
                   · simp only [Act.put, List.setIfInBounds_toArray, List.set_cons_zero, List.set_cons_succ]; exact rfl)
                | (refine SeqL.no (A' := ?_) rfl (by rfl) ?_ ?_
                   rotate_left
                   · simp only [Act.put, List.setIfInBounds_toArray, List.set_cons_zero, List.set_cons_succ]; exact rfl)
            refine SeqL.nil (hfin.out _ ?_)
            clear hfin fin
            intro w1 hS1
            go_wp2
            go_ret
            exact ⟨ret_bool HT.out.symm, (by repeat (first | (with_reducible assumption) | (with_reducible exact Below.refl _ _) | (with_reducible refine Below.alloc ?_ (by first | omega | (simp; omega) | (simp; done) | (dsimp only; omega)) _) | (with_reducible refine Below.setCell ?_ (by first | omega | (simp; omega) | (simp; done) | (dsimp only; omega)) _) | (with_reducible refine Below.drew ?_) | (with_reducible refine Below.trans ?_ (Below.mono (by assumption) (by first | omega | (simp; omega) | (simp; done) | (dsimp only; omega))))))⟩
          · have e : la[k] = lb[k] := by simpa using hx
            have HS := Lib.hid (show la.take (k + 1) = lb.take (k + 1) by rw [s1, s2, heq, e])
            clear s1 s2 hrax hrbx e heq
            generalize la[k] = x at *
            generalize lb[k] = y at *
            go_upto_region 6 with fail
            refine region_seq (S := fun w' => Below wr.heap.size wr w') rfl (by kernel_rfl) (by kernel_rfl) (by repeat (first | (with_reducible assumption) | (with_reducible exact Below.refl _ _) | (with_reducible refine Below.alloc ?_ (by first | omega | (simp; omega) | (simp; done) | (dsimp only; omega)) _) | (with_reducible refine Below.setCell ?_ (by first | omega | (simp; omega) | (simp; done) | (dsimp only; omega)) _) | (with_reducible refine Below.drew ?_) | (with_reducible refine Below.trans ?_ (Below.mono (by assumption) (by first | omega | (simp; omega) | (simp; done) | (dsimp only; omega)))))) (fun fin hfin => ?_)
            iterate 11
              first
                | (refine SeqL.yes (v := ?_) (A' := ?_) rfl (by rfl) ?_ ?_ ?_
                   rotate_left 2
                   · intro w' K hS hK
                     obtain ⟨hc, hf⟩ := bcell hS
                     have hz := hS.size
                     go_simp
                     first
                       | exact hK.out _ hS
                       | trace_state
                   · simp only [Act.put, List.setIfInBounds_toArray, List.set_cons_zero, List.set_cons_succ]; exact rfl)
                | (refine SeqL.no (A' := ?_) rfl (by rfl) ?_ ?_
                   rotate_left
                   · simp only [Act.put, List.setIfInBounds_toArray, List.set_cons_zero, List.set_cons_succ]; exact rfl)
            refine SeqL.nil (hfin.out _ ?_)
            clear hfin fin
            intro w1 hS1
            go_wp2
            go_roundw
            case rel => exact ⟨k + 1, by omega, by go_num, HS.out, hB.trans (hS1.mono hBs)⟩
            case measure => simp [intOf]; omega
        · obtain rfl : k = la.length := by omega
          have e : la = lb := by
            rw [List.take_length, HLN.out, List.take_length] at heq
            exact heq
          have HT := Lib.hid (show (na == na && la == lb) = true by rw [e]; simp)
          clear hrax hrbx e heq
          go_wp2
          go_ret
          exact ⟨ret_bool HT.out.symm, HWX⟩
    · have kl : ((la.length : Int) != (lb.length : Int)) = true := by rw [bne_iff_ne]; omega
      have hne : (la == lb) = false := by
        cases h : la == lb
        · rfl
        · have e : la = lb := by simpa using h
          exact absurd (by rw [e]) hl
      have HT := Lib.hid (show (na == na && la == lb) = false by rw [hne, Bool.and_false])
      clear hne
      go_enter Try.func12, Try.ntmps12
      go_wp2
      go_ret
      exact ⟨ret_bool HT.out.symm, (by repeat (first | (with_reducible assumption) | (with_reducible exact Below.refl _ _) | (with_reducible refine Below.alloc ?_ (by first | omega | (simp; omega) | (simp; done) | (dsimp only; omega)) _) | (with_reducible refine Below.setCell ?_ (by first | omega | (simp; omega) | (simp; done) | (dsimp only; omega)) _) | (with_reducible refine Below.drew ?_) | (with_reducible refine Below.trans ?_ (Below.mono (by assumption) (by first | omega | (simp; omega) | (simp; done) | (dsimp only; omega))))))⟩
  · have kn : (na != nb) = true := by simpa using hn
    have HT := Lib.hid (show (na == nb && la == lb) = false by rw [beq_eq_false_iff_ne.2 hn]; rfl)
    go_enter Try.func12, Try.ntmps12
    go_wp2
    go_ret
    exact ⟨ret_bool HT.out.symm, (by repeat (first | (with_reducible assumption) | (with_reducible exact Below.refl _ _) | (with_reducible refine Below.alloc ?_ (by first | omega | (simp; omega) | (simp; done) | (dsimp only; omega)) _) | (with_reducible refine Below.setCell ?_ (by first | omega | (simp; omega) | (simp; done) | (dsimp only; omega)) _) | (with_reducible refine Below.drew ?_) | (with_reducible refine Below.trans ?_ (Below.mono (by assumption) (by first | omega | (simp; omega) | (simp; done) | (dsimp only; omega))))))⟩

set_option maxHeartbeats 2000000 in
theorem r7_Len (n : Bool) (l : List Str) (A : Option Addr) (c : Nat) (w : World) (hm : (l.length + 1) * 16 ≤ 140737488355328) (hr : SRow w A l) :
    Calls Try.prog 10 #[.agg #[.bool n, .slice A l.length c]] w fun e w' => e = .returned (.int .i64 (lenS n l)) ∧ Below w.heap.size w w' := by
  have hsl := srt_len_le l
  have E : lenS n l = (srt l).length + (if n then 1 else 0) := rfl
  have kf := fun (w : World) (x y : Value) => (by kernel_rfl : (Instr.field 24 (.agg #[x, y]) 1).run Try.prog w = .ok y w)
  have HE := Lib.hid E
  clear E
  generalize lenS n l = r at *
  cases n
  · go_enter Try.func10, Try.ntmps10
    go_upto_region 1 with fail
    generalize hW : (w.alloc (.cells #[.bool false, .slice A l.length c] 24)) = W
    have q0_0 : W.cell? ⟨w.heap.size, 0, none⟩ = some (.bool false) := by rw [← hW]; simp [go_sem]
    have q0_1 : W.cell? ⟨w.heap.size, 1, none⟩ = some (.slice A l.length c) := by rw [← hW]; simp [go_sem]
    have z0 : w.heap.size < W.heap.size := by rw [← hW]; first | (simp; done) | (simp; omega)
    have HW : Below w.heap.size w W := by rw [← hW]; exact (by repeat (first | (with_reducible assumption) | (with_reducible exact Below.refl _ _) | (with_reducible refine Below.alloc ?_ (by first | omega | (simp; omega) | (simp; done) | (dsimp only; omega)) _) | (with_reducible refine Below.setCell ?_ (by first | omega | (simp; omega) | (simp; done) | (dsimp only; omega)) _) | (with_reducible refine Below.drew ?_) | (with_reducible refine Below.trans ?_ (Below.mono (by assumption) (by first | omega | (simp; omega) | (simp; done) | (dsimp only; omega))))))
    clear hW
    have HR := Lib.hid (r7_Clean false l A c W hm (hr.mono HW))
    unfold SetV at HR
    generalize (srt l).length = sl at *
    go_wp2_with (go_at_call 20; (with_reducible refine (HR.out).mono ?_); rintro e w1 ⟨⟨v1, rfl, A1, c1, rfl, k1, k2, k3, k4, k5⟩, hb1⟩; obtain ⟨hc1, hf1⟩ := bcell hb1; have hz1 := hb1.size; (try simp at hz1); (try have hy1 := Nat.lt_of_succ_le hz1); (try have hv1 := Nat.lt_of_succ_lt hy1); (try have hw10 : w.heap.size < w1.heap.size := by omega); (try have hw11 : w.heap.size + 1 < w1.heap.size := by omega); (try have hw12 : w.heap.size + 1 + 1 < w1.heap.size := by omega); (try have hw13 : w.heap.size + 1 + 1 + 1 < w1.heap.size := by omega))
    go_ret
    exact ⟨ret_int (by rw [HE.out]; simp <;> go_num), (by repeat (first | (with_reducible assumption) | (with_reducible exact Below.refl _ _) | (with_reducible refine Below.alloc ?_ (by first | omega | (simp; omega) | (simp; done) | (dsimp only; omega)) _) | (with_reducible refine Below.setCell ?_ (by first | omega | (simp; omega) | (simp; done) | (dsimp only; omega)) _) | (with_reducible refine Below.drew ?_) | (with_reducible refine Below.trans ?_ (Below.mono (by assumption) (by first | omega | (simp; omega) | (simp; done) | (dsimp only; omega))))))⟩
  · go_enter Try.func10, Try.ntmps10
    go_upto_region 1 with fail
    generalize hW : (w.alloc (.cells #[.bool true, .slice A l.length c] 24)) = W
    have q0_0 : W.cell? ⟨w.heap.size, 0, none⟩ = some (.bool true) := by rw [← hW]; simp [go_sem]
    have q0_1 : W.cell? ⟨w.heap.size, 1, none⟩ = some (.slice A l.length c) := by rw [← hW]; simp [go_sem]
    have z0 : w.heap.size < W.heap.size := by rw [← hW]; first | (simp; done) | (simp; omega)
    have HW : Below w.heap.size w W := by rw [← hW]; exact (by repeat (first | (with_reducible assumption) | (with_reducible exact Below.refl _ _) | (with_reducible refine Below.alloc ?_ (by first | omega | (simp; omega) | (simp; done) | (dsimp only; omega)) _) | (with_reducible refine Below.setCell ?_ (by first | omega | (simp; omega) | (simp; done) | (dsimp only; omega)) _) | (with_reducible refine Below.drew ?_) | (with_reducible refine Below.trans ?_ (Below.mono (by assumption) (by first | omega | (simp; omega) | (simp; done) | (dsimp only; omega))))))
    clear hW
    have HR := Lib.hid (r7_Clean true l A c W hm (hr.mono HW))
    unfold SetV at HR
    generalize (srt l).length = sl at *
    go_wp2_with (go_at_call 20; (with_reducible refine (HR.out).mono ?_); rintro e w1 ⟨⟨v1, rfl, A1, c1, rfl, k1, k2, k3, k4, k5⟩, hb1⟩; obtain ⟨hc1, hf1⟩ := bcell hb1; have hz1 := hb1.size; (try simp at hz1); (try have hy1 := Nat.lt_of_succ_le hz1); (try have hv1 := Nat.lt_of_succ_lt hy1); (try have hw10 : w.heap.size < w1.heap.size := by omega); (try have hw11 : w.heap.size + 1 < w1.heap.size := by omega); (try have hw12 : w.heap.size + 1 + 1 < w1.heap.size := by omega); (try have hw13 : w.heap.size + 1 + 1 + 1 < w1.heap.size := by omega))
    go_ret
    exact ⟨ret_int (by rw [HE.out]; simp <;> go_num), (by repeat (first | (with_reducible assumption) | (with_reducible exact Below.refl _ _) | (with_reducible refine Below.alloc ?_ (by first | omega | (simp; omega) | (simp; done) | (dsimp only; omega)) _) | (with_reducible refine Below.setCell ?_ (by first | omega | (simp; omega) | (simp; done) | (dsimp only; omega)) _) | (with_reducible refine Below.drew ?_) | (with_reducible refine Below.trans ?_ (Below.mono (by assumption) (by first | omega | (simp; omega) | (simp; done) | (dsimp only; omega))))))⟩

end Go.Proofs.Ytnbpdkcnldeljaa
