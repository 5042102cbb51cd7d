/- X-PARTIAL What meets of sets are: layer 7. -/
import Derived.Test.YtnbpdkcnldeljaaNamL
namespace Go.Proofs.Ytnbpdkcnldeljaa
open Go.RowKit

def meetL (la lb : List Str) : List Str := la.filter (fun x => hasL lb x)

theorem meetL_take (la lb : List Str) (k : Nat) (h : k < la.length) : meetL (la.take (k + 1)) lb = if hasL lb la[k] then meetL (la.take k) lb ++ [la[k]] else meetL (la.take k) lb := by
  unfold meetL
  rw [take_snoc' la k h, List.filter_append]
  split
  · next hh => rw [List.filter_cons_of_pos hh]; rfl
  · next hh => rw [List.filter_cons_of_neg hh]; simp

theorem meetL_len (la lb : List Str) : (meetL la lb).length ≤ la.length := List.length_filter_le _ _

theorem mem_meetL (la lb : List Str) (x : Str) : x ∈ meetL la lb ↔ x ∈ la ∧ x ∈ lb := by
  unfold meetL
  rw [List.mem_filter, hasL_iff]

def MeetRel (la lb : List Str) (W : World) (v5 i : Value) (wx : World) : Prop := ∃ k : Nat, k ≤ la.length ∧ i = .int .i64 k ∧ OwnS wx W.heap.size v5 (meetL (la.take k) lb) ∧ Below W.heap.size W wx

set_option maxRecDepth 100000 in
set_option maxHeartbeats 4000000 in
theorem names_Meet (na nb : Bool) (la lb : List Str) (A B : Option Addr) (ca cb : Nat) (w : World) (ha : la.length * 16 ≤ 140737488355328) (hb : lb.length ≤ 9223372036854775807) (hra : SRow w A la) (hrb : SRow w B lb) :
    Calls Try.prog 15 #[.agg #[.bool na, .slice A la.length ca], .agg #[.bool nb, .slice B lb.length cb]] w fun e w' => (∃ v', e = .returned v' ∧ SetV (w.heap.size + 3) w' v' (na && nb) (srt (meetL la lb))) ∧ Below w.heap.size w w' := by
  go_enter Try.func15, Try.ntmps15
  go_upto_region 1 with fail
  generalize hW : (((w.alloc (.cells #[.bool na, .slice A la.length ca] 24)).alloc (.cells #[.bool nb, .slice B lb.length cb] 24)).alloc (.cells #[.bool false, .slice none 0 0] 24)) = W
  have q0_0 : W.cell? ⟨w.heap.size, 0, none⟩ = some (.bool na) := by rw [← hW]; simp [go_sem]
  have q0_1 : W.cell? ⟨w.heap.size, 1, none⟩ = some (.slice A la.length ca) := by rw [← hW]; simp [go_sem]
  have q1_0 : W.cell? ⟨w.heap.size + 1, 0, none⟩ = some (.bool nb) := by rw [← hW]; simp [go_sem]
  have q1_1 : W.cell? ⟨w.heap.size + 1, 1, none⟩ = some (.slice B lb.length cb) := by rw [← hW]; simp [go_sem]
  have q2_0 : W.cell? ⟨w.heap.size + 1 + 1, 0, none⟩ = some (.bool false) := by rw [← hW]; simp [go_sem]
  have q2_1 : W.cell? ⟨w.heap.size + 1 + 1, 1, none⟩ = some (.slice none 0 0) := by rw [← hW]; simp [go_sem]
  have f0 : ∀ o, W.frozen? ⟨w.heap.size, o, none⟩ = false := by intro o; rw [← hW]; simp [go_sem]
  have f1 : ∀ o, W.frozen? ⟨w.heap.size + 1, o, none⟩ = false := by intro o; rw [← hW]; simp [go_sem]
  have f2 : ∀ o, W.frozen? ⟨w.heap.size + 1 + 1, o, none⟩ = false := by intro o; rw [← hW]; simp [go_sem]
  have z0 : w.heap.size < W.heap.size := by rw [← hW]; first | (simp; done) | (simp; omega)
  have z1 : w.heap.size + 1 < W.heap.size := by rw [← hW]; first | (simp; done) | (simp; omega)
  have z2 : w.heap.size + 1 + 1 < W.heap.size := by rw [← hW]; first | (simp; done) | (simp; omega)
  have HW : Below w.heap.size w W := by rw [← hW]; exact (by repeat (first | (with_reducible assumption) | (with_reducible exact Below.refl _ _) | (with_reducible refine Below.alloc ?_ (by first | omega | (simp; omega) | (simp; done) | (dsimp only; omega)) _) | (with_reducible refine Below.setCell ?_ (by first | omega | (simp; omega) | (simp; done) | (dsimp only; omega)) _) | (with_reducible refine Below.drew ?_) | (with_reducible refine Below.trans ?_ (Below.mono (by assumption) (by first | omega | (simp; omega) | (simp; done) | (dsimp only; omega))))))
  clear hW
  have hraW := hra.mono HW
  have hrbW := hrb.mono HW
  clear f0 f1
  go_wp2
  go_loopw [5, 7, 11] (fun v5 _ i wx => MeetRel la lb W v5 i wx) (fun _ _ i _ => la.length - (intOf i).toNat)
  case atStart => exact ⟨0, Nat.zero_le _, rfl, OwnS.nil _ _, Below.refl _ _⟩
  case round =>
    obtain ⟨k, hk, rfl, hown, hB⟩ := hrel
    have hrax := hraW.mono hB
    have HWX := HW.trans (hB.mono HW.size)
    have p0 := (hB.cell (p := ⟨w.heap.size, 0, none⟩) z0).trans q0_0
    have p1 := (hB.cell (p := ⟨w.heap.size + 1, 0, none⟩) z1).trans q1_0
    have p2 := (hB.cell (p := ⟨w.heap.size + 1, 1, none⟩) z1).trans q1_1
    have hBs := hB.size
    have y0 : w.heap.size < wr.heap.size := by omega
    have y1 : w.heap.size + 1 < wr.heap.size := by omega
    have y2 : w.heap.size + 1 + 1 < wr.heap.size := by omega
    by_cases hlt : k < la.length
    · obtain ⟨b, o, rfl, hc, hbl⟩ := hrax.cell hlt
      have hs := meetL_take la lb k hlt
      have hml := meetL_len (la.take k) lb
      have htl : (la.take k).length = k := by rw [List.length_take]; omega
      have HL := Lib.hid (names_listed nb lb B cb la[k] wr hb (hrbW.mono hB))
      generalize la[k] = x at *
      generalize hasL lb x = hx at *
      cases hx
      · rw [if_neg (by decide)] at hs
        have HS := Lib.hid hs
        clear hs hrax
        go_wp2_with (go_at_call 27; (with_reducible refine (HL.out).mono ?_); rintro e w1 ⟨rfl, hb1⟩; obtain ⟨hc1, hf1⟩ := bcell hb1; have hz1 := hb1.size; (try simp at hz1); (try have hy1 := Nat.lt_of_succ_le hz1); (try have hv1 := Nat.lt_of_succ_lt hy1); (try have hw10 : w.heap.size < w1.heap.size := by omega); (try have hw11 : w.heap.size + 1 < w1.heap.size := by omega); (try have hw12 : w.heap.size + 1 + 1 < w1.heap.size := by omega); (try have hw13 : w.heap.size + 1 + 1 + 1 < w1.heap.size := by omega))
        go_roundw
        case rel => exact ⟨k + 1, by omega, by go_num, by rw [HS.out]; exact hown.mono hb1, hB.trans (hb1.mono hBs)⟩
        case measure => simp [intOf]; omega
      · rw [if_pos rfl] at hs
        have HS := Lib.hid hs
        clear hs hrax
        go_wp2_with (first | (go_at_call 27; (with_reducible refine (HL.out).mono ?_); rintro e w1 ⟨rfl, hb1⟩; obtain ⟨hc1, hf1⟩ := bcell hb1; have hz1 := hb1.size; (try simp at hz1); (try have hy1 := Nat.lt_of_succ_le hz1); (try have hv1 := Nat.lt_of_succ_lt hy1); (try have hw10 : w.heap.size < w1.heap.size := by omega); (try have hw11 : w.heap.size + 1 < w1.heap.size := by omega); (try have hw12 : w.heap.size + 1 + 1 < w1.heap.size := by omega); (try have hw13 : w.heap.size + 1 + 1 + 1 < w1.heap.size := by omega)) | (at_builtin; refine wpList_append_ss rfl _ _ rfl W.heap.size u5 (meetL (la.take k) lb) [x] rfl ((hown.mono hb1).mono (by repeat (first | (with_reducible assumption) | (with_reducible exact Below.refl _ _) | (with_reducible refine Below.alloc ?_ (by first | omega | (simp; omega) | (simp; done) | (dsimp only; omega)) _) | (with_reducible refine Below.setCell ?_ (by first | omega | (simp; omega) | (simp; done) | (dsimp only; omega)) _) | (with_reducible refine Below.drew ?_) | (with_reducible refine Below.trans ?_ (Below.mono (by assumption) (by first | omega | (simp; omega) | (simp; done) | (dsimp only; omega))))))) (some ⟨w1.heap.size, 0, none⟩) 1 rfl (fun e => by cases e) (srow_one _ _) (by simp; omega) (by simp; omega) ?_))
        intro v' w' hown' hg hbk
        have hNB : Below W.heap.size W w' := Below.grown (w := w1.alloc (.cells #[encStr x] 9)) (by repeat (first | (with_reducible assumption) | (with_reducible exact Below.refl _ _) | (with_reducible refine Below.alloc ?_ (by first | omega | (simp; omega) | (simp; done) | (dsimp only; omega)) _) | (with_reducible refine Below.setCell ?_ (by first | omega | (simp; omega) | (simp; done) | (dsimp only; omega)) _) | (with_reducible refine Below.drew ?_) | (with_reducible refine Below.trans ?_ (Below.mono (by assumption) (by first | omega | (simp; omega) | (simp; done) | (dsimp only; omega)))))) hg (by simp; omega) (fun j e => (hown.lt j e).1)
        clear hg hbk hown hB
        go_wp2
        go_roundw
        case rel => exact ⟨k + 1, by omega, by go_num, by rw [HS.out]; exact hown', hNB⟩
        case measure => simp [intOf]; omega
    · obtain rfl : k = la.length := by omega
      rw [List.take_length] at hown
      have hml := meetL_len la lb
      obtain ⟨A2, c2, rfl, k1, k2, k3, k4⟩ := hown.row
      have h0 := fun b => names_Of b (meetL la lb) A2 c2 wr (by omega) k4 k3
      have p3 := (hB.cell (p := ⟨w.heap.size + 1 + 1, 0, none⟩) z2).trans q2_0
      have p4 := (hB.cell (p := ⟨w.heap.size + 1 + 1, 1, none⟩) z2).trans q2_1
      have fr := fun o => (hB.frozen (p := ⟨w.heap.size + 1 + 1, o, none⟩) z2).trans (f2 o)
      generalize (meetL la lb).length = ml at *
      clear hrax hown hB k1 k2 k3 k4 hml
      cases na
      · have HO := Lib.hid (h0 false)
        clear h0
        go_wp2_with fail
        go_at_call 22
        refine HO.out.mono ?_
        rintro e w3 ⟨⟨v3, rfl, ⟨A3, c3, rfl, j1, j2, j3, j4, j5⟩⟩, hb3⟩
        obtain ⟨hc3, hf3⟩ := bcell hb3
        go_wp2
        have HW3 := HWX.trans (hb3.mono HWX.size)
        refine bodyPost_ret (by simp [results, Try.results15, go_sem, *] <;> rfl) rfl ⟨⟨_, rfl, ?_⟩, (by repeat (first | (with_reducible assumption) | (with_reducible exact Below.refl _ _) | (with_reducible refine Below.alloc ?_ (by first | omega | (simp; omega) | (simp; done) | (dsimp only; omega)) _) | (with_reducible refine Below.setCell ?_ (by first | omega | (simp; omega) | (simp; done) | (dsimp only; omega)) _) | (with_reducible refine Below.drew ?_) | (with_reducible refine Below.trans ?_ (Below.mono (by assumption) (by first | omega | (simp; omega) | (simp; done) | (dsimp only; omega))))))⟩
        exact SetV.store j1 j2 j3 j4 (fun a e => ⟨by have := (j5 a e).1; omega, (j5 a e).2⟩) (by omega) _ _
      · have HO := Lib.hid (h0 nb)
        clear h0
        go_wp2_with fail
        go_at_call 22
        refine HO.out.mono ?_
        rintro e w3 ⟨⟨v3, rfl, ⟨A3, c3, rfl, j1, j2, j3, j4, j5⟩⟩, hb3⟩
        obtain ⟨hc3, hf3⟩ := bcell hb3
        go_wp2
        have HW3 := HWX.trans (hb3.mono HWX.size)
        refine bodyPost_ret (by simp [results, Try.results15, go_sem, *] <;> rfl) rfl ⟨⟨_, rfl, ?_⟩, (by repeat (first | (with_reducible assumption) | (with_reducible exact Below.refl _ _) | (with_reducible refine Below.alloc ?_ (by first | omega | (simp; omega) | (simp; done) | (dsimp only; omega)) _) | (with_reducible refine Below.setCell ?_ (by first | omega | (simp; omega) | (simp; done) | (dsimp only; omega)) _) | (with_reducible refine Below.drew ?_) | (with_reducible refine Below.trans ?_ (Below.mono (by assumption) (by first | omega | (simp; omega) | (simp; done) | (dsimp only; omega))))))⟩
        exact SetV.store j1 j2 j3 j4 (fun a e => ⟨by have := (j5 a e).1; omega, (j5 a e).2⟩) (by omega) _ _

set_option maxRecDepth 100000 in
set_option maxHeartbeats 4000000 in
theorem r7_Meet (na nb : Bool) (la lb : List Str) (A B : Option Addr) (ca cb : Nat) (w : World) (ha : (la.length + 1) * 16 ≤ 140737488355328) (hb : lb.length ≤ 9223372036854775807) (hra : SRow w A la) (hrb : SRow w B lb) :
    Calls Try.prog 16 #[.agg #[.bool na, .slice A la.length ca], .agg #[.bool nb, .slice B lb.length cb]] w fun e w' => (∃ v', e = .returned v' ∧ SetV (w.heap.size + 3) w' v' (na && nb) (srt (meetL la lb))) ∧ Below w.heap.size w w' := by
  go_enter Try.func16, Try.ntmps16
  go_upto_region 1 with fail
  generalize hW : (((w.alloc (.cells #[.bool na, .slice A la.length ca] 24)).alloc (.cells #[.bool nb, .slice B lb.length cb] 24)).alloc (.cells #[.bool false, .slice none 0 0] 24)) = W
  have q0_0 : W.cell? ⟨w.heap.size, 0, none⟩ = some (.bool na) := by rw [← hW]; simp [go_sem]
  have q0_1 : W.cell? ⟨w.heap.size, 1, none⟩ = some (.slice A la.length ca) := by rw [← hW]; simp [go_sem]
  have q1_0 : W.cell? ⟨w.heap.size + 1, 0, none⟩ = some (.bool nb) := by rw [← hW]; simp [go_sem]
  have q1_1 : W.cell? ⟨w.heap.size + 1, 1, none⟩ = some (.slice B lb.length cb) := by rw [← hW]; simp [go_sem]
  have q2_0 : W.cell? ⟨w.heap.size + 1 + 1, 0, none⟩ = some (.bool false) := by rw [← hW]; simp [go_sem]
  have q2_1 : W.cell? ⟨w.heap.size + 1 + 1, 1, none⟩ = some (.slice none 0 0) := by rw [← hW]; simp [go_sem]
  have f0 : ∀ o, W.frozen? ⟨w.heap.size, o, none⟩ = false := by intro o; rw [← hW]; simp [go_sem]
  have f1 : ∀ o, W.frozen? ⟨w.heap.size + 1, o, none⟩ = false := by intro o; rw [← hW]; simp [go_sem]
  have f2 : ∀ o, W.frozen? ⟨w.heap.size + 1 + 1, o, none⟩ = false := by intro o; rw [← hW]; simp [go_sem]
  have z0 : w.heap.size < W.heap.size := by rw [← hW]; first | (simp; done) | (simp; omega)
  have z1 : w.heap.size + 1 < W.heap.size := by rw [← hW]; first | (simp; done) | (simp; omega)
  have z2 : w.heap.size + 1 + 1 < W.heap.size := by rw [← hW]; first | (simp; done) | (simp; omega)
  have HW : Below w.heap.size w W := by rw [← hW]; exact (by repeat (first | (with_reducible assumption) | (with_reducible exact Below.refl _ _) | (with_reducible refine Below.alloc ?_ (by first | omega | (simp; omega) | (simp; done) | (dsimp only; omega)) _) | (with_reducible refine Below.setCell ?_ (by first | omega | (simp; omega) | (simp; done) | (dsimp only; omega)) _) | (with_reducible refine Below.drew ?_) | (with_reducible refine Below.trans ?_ (Below.mono (by assumption) (by first | omega | (simp; omega) | (simp; done) | (dsimp only; omega))))))
  clear hW
  have hraW := hra.mono HW
  have hrbW := hrb.mono HW
  clear f0 f1
  go_wp2
  go_loopw [5, 6] (fun v5 i wx => MeetRel la lb W v5 i wx) (fun _ i _ => la.length - (intOf i).toNat)
  case atStart => exact ⟨0, Nat.zero_le _, rfl, OwnS.nil _ _, Below.refl _ _⟩
  case round =>
    obtain ⟨k, hk, rfl, hown, hB⟩ := hrel
    have hrax := hraW.mono hB
    have HWX := HW.trans (hB.mono HW.size)
    have p0 := (hB.cell (p := ⟨w.heap.size, 0, none⟩) z0).trans q0_0
    have p01 := (hB.cell (p := ⟨w.heap.size, 1, none⟩) z0).trans q0_1
    have p1 := (hB.cell (p := ⟨w.heap.size + 1, 0, none⟩) z1).trans q1_0
    have p2 := (hB.cell (p := ⟨w.heap.size + 1, 1, none⟩) z1).trans q1_1
    have hBs := hB.size
    have y0 : w.heap.size < wr.heap.size := by omega
    have y1 : w.heap.size + 1 < wr.heap.size := by omega
    have y2 : w.heap.size + 1 + 1 < wr.heap.size := by omega
    by_cases hlt : k < la.length
    · obtain ⟨b, o, rfl, hc, hbl⟩ := hrax.cell hlt
      have hs := meetL_take la lb k hlt
      have hml := meetL_len (la.take k) lb
      have htl : (la.take k).length = k := by rw [List.length_take]; omega
      have hbI : SRow wr B lb := hrbW.mono hB
      have HL : Hid (∀ w', Below wr.heap.size wr w' → Calls Try.prog 28 #[.slice B lb.length cb, encStr la[k]] w' fun e w'' => e = .returned (.bool (hasL lb la[k])) ∧ w' = w'') := Lib.hid (fun w' h => r7_In lb B cb la[k] w' hb (hbI.mono h))
      generalize la[k] = x at *
      generalize hasL lb x = hx at *
      go_upto_region 5 with fail
      refine region_seq (S := fun w' => Below wr.heap.size wr w') rfl (by kernel_rfl) (by kernel_rfl) (by repeat (first | (with_reducible assumption) | (with_reducible exact Below.refl _ _) | (with_reducible refine Below.alloc ?_ (by first | omega | (simp; omega) | (simp; done) | (dsimp only; omega)) _) | (with_reducible refine Below.setCell ?_ (by first | omega | (simp; omega) | (simp; done) | (dsimp only; omega)) _) | (with_reducible refine Below.drew ?_) | (with_reducible refine Below.trans ?_ (Below.mono (by assumption) (by first | omega | (simp; omega) | (simp; done) | (dsimp only; omega)))))) (fun fin hfin => ?_)
      iterate 8
        first
          | (refine SeqL.yes (v := ?_) (A' := ?_) rfl (by rfl) ?_ ?_ ?_
             rotate_left 2
             · intro w' K hS hK
               obtain ⟨hc, hf⟩ := bcell hS
               have hz := hS.size
               go_simp
               first
                 | exact hK.out _ hS
                 | (go_at_call 28; (with_reducible refine (HL.out _ (by assumption)).mono ?_); rintro e w1 ⟨rfl, rfl⟩; exact hK.out _ hS)
                 | trace_state
             · simp only [Act.put, List.setIfInBounds_toArray, List.set_cons_zero, List.set_cons_succ]; exact rfl)
          | (refine SeqL.no (A' := ?_) rfl (by rfl) ?_ ?_
             rotate_left
             · simp only [Act.put, List.setIfInBounds_toArray, List.set_cons_zero, List.set_cons_succ]; exact rfl)
      refine SeqL.nil (hfin.out _ ?_)
      clear hfin fin
      intro w1 hS1
      have hS1s := hS1.size
      obtain ⟨hc1, hf1⟩ := bcell hS1
      cases hx
      · rw [if_neg (by decide)] at hs
        have HS := Lib.hid hs
        clear hs hrax HL hbI
        go_wp2
        go_roundw
        case rel => exact ⟨k + 1, by omega, by go_num, by rw [HS.out]; exact hown.mono hS1, hB.trans (hS1.mono hBs)⟩
        case measure => simp [intOf]; omega
      · rw [if_pos rfl] at hs
        have HS := Lib.hid hs
        clear hs hrax HL hbI
        go_wp2_with (at_builtin; refine wpList_append_ss rfl _ _ rfl W.heap.size u5 (meetL (la.take k) lb) [x] rfl ((hown.mono hS1).mono (by repeat (first | (with_reducible assumption) | (with_reducible exact Below.refl _ _) | (with_reducible refine Below.alloc ?_ (by first | omega | (simp; omega) | (simp; done) | (dsimp only; omega)) _) | (with_reducible refine Below.setCell ?_ (by first | omega | (simp; omega) | (simp; done) | (dsimp only; omega)) _) | (with_reducible refine Below.drew ?_) | (with_reducible refine Below.trans ?_ (Below.mono (by assumption) (by first | omega | (simp; omega) | (simp; done) | (dsimp only; omega))))))) (some ⟨w1.heap.size, 0, none⟩) 1 rfl (fun e => by cases e) (srow_one _ _) (by simp; omega) (by simp; omega) ?_)
        intro v' w' hown' hg hbk
        have hNB : Below W.heap.size W w' := Below.grown (w := w1.alloc (.cells #[encStr x] 9)) (by repeat (first | (with_reducible assumption) | (with_reducible exact Below.refl _ _) | (with_reducible refine Below.alloc ?_ (by first | omega | (simp; omega) | (simp; done) | (dsimp only; omega)) _) | (with_reducible refine Below.setCell ?_ (by first | omega | (simp; omega) | (simp; done) | (dsimp only; omega)) _) | (with_reducible refine Below.drew ?_) | (with_reducible refine Below.trans ?_ (Below.mono (by assumption) (by first | omega | (simp; omega) | (simp; done) | (dsimp only; omega)))))) hg (by simp; omega) (fun j e => (hown.lt j e).1)
        clear hg hbk hown hB
        go_wp2
        go_roundw
        case rel => exact ⟨k + 1, by omega, by go_num, by rw [HS.out]; exact hown', hNB⟩
        case measure => simp [intOf]; omega
    · obtain rfl : k = la.length := by omega
      rw [List.take_length] at hown
      have hml := meetL_len la lb
      obtain ⟨A2, c2, rfl, k1, k2, k3, k4⟩ := hown.row
      have h0 := fun b => r7_Clean b (meetL la lb) A2 c2 wr (by omega) k3
      have p3 := (hB.cell (p := ⟨w.heap.size + 1 + 1, 0, none⟩) z2).trans q2_0
      have p4 := (hB.cell (p := ⟨w.heap.size + 1 + 1, 1, none⟩) z2).trans q2_1
      have fr := fun o => (hB.frozen (p := ⟨w.heap.size + 1 + 1, o, none⟩) z2).trans (f2 o)
      generalize (meetL la lb).length = ml at *
      clear hrax hown hB k1 k2 k3 k4 hml
      cases na
      · have HO := Lib.hid (h0 false)
        clear h0
        go_wp2_with fail
        go_at_call 20
        refine HO.out.mono ?_
        rintro e w3 ⟨⟨v3, rfl, ⟨A3, c3, rfl, j1, j2, j3, j4, j5⟩⟩, hb3⟩
        obtain ⟨hc3, hf3⟩ := bcell hb3
        go_wp2
        have HW3 := HWX.trans (hb3.mono HWX.size)
        refine bodyPost_ret (by simp [results, Try.results16, go_sem, *] <;> rfl) rfl ⟨⟨_, rfl, ?_⟩, (by repeat (first | (with_reducible assumption) | (with_reducible exact Below.refl _ _) | (with_reducible refine Below.alloc ?_ (by first | omega | (simp; omega) | (simp; done) | (dsimp only; omega)) _) | (with_reducible refine Below.setCell ?_ (by first | omega | (simp; omega) | (simp; done) | (dsimp only; omega)) _) | (with_reducible refine Below.drew ?_) | (with_reducible refine Below.trans ?_ (Below.mono (by assumption) (by first | omega | (simp; omega) | (simp; done) | (dsimp only; omega))))))⟩
        exact SetV.store j1 j2 j3 j4 (fun a e => ⟨by have := (j5 a e).1; omega, (j5 a e).2⟩) (by omega) _ _
      · have HO := Lib.hid (h0 nb)
        clear h0
        go_wp2_with fail
        go_at_call 20
        refine HO.out.mono ?_
        rintro e w3 ⟨⟨v3, rfl, ⟨A3, c3, rfl, j1, j2, j3, j4, j5⟩⟩, hb3⟩
        obtain ⟨hc3, hf3⟩ := bcell hb3
        go_wp2
        have HW3 := HWX.trans (hb3.mono HWX.size)
        refine bodyPost_ret (by simp [results, Try.results16, go_sem, *] <;> rfl) rfl ⟨⟨_, rfl, ?_⟩, (by repeat (first | (with_reducible assumption) | (with_reducible exact Below.refl _ _) | (with_reducible refine Below.alloc ?_ (by first | omega | (simp; omega) | (simp; done) | (dsimp only; omega)) _) | (with_reducible refine Below.setCell ?_ (by first | omega | (simp; omega) | (simp; done) | (dsimp only; omega)) _) | (with_reducible refine Below.drew ?_) | (with_reducible refine Below.trans ?_ (Below.mono (by assumption) (by first | omega | (simp; omega) | (simp; done) | (dsimp only; omega))))))⟩
        exact SetV.store j1 j2 j3 j4 (fun a e => ⟨by have := (j5 a e).1; omega, (j5 a e).2⟩) (by omega) _ _

end Go.Proofs.Ytnbpdkcnldeljaa
