/- What the document's joins are, and meets of sets: layer 7. -/
import Derived.Test.YtdpnphnafidpiaaNamK
namespace Go.Proofs.Ytdpnphnafidpiaa
open Go.RowKit

theorem names_Join (na nb : Bool) (la lb : List Str) (A B : Option Addr) (ca cb : Nat) (w : World) (hm : (la.length + lb.length) * 16 ≤ 140737488355328) (hza : A = none → ca = 0) (hzb : B = none → cb = 0) (hra : SRow w A la) (hrb : SRow w B lb) :
    Calls Try.prog 46 #[.agg #[.bool na, .slice A la.length ca], .agg #[.bool nb, .slice B lb.length cb]] w fun e w' => (∃ v', e = .returned v' ∧ SetV (w.heap.size + 3) w' v' (na || nb) (srt (la ++ lb))) ∧ Below w.heap.size w w' := by
  cases na
  · exact names_Join_f nb la lb A B ca cb w hm hza hzb hra hrb
  · exact names_Join_t nb la lb A B ca cb w hm hza hzb hra hrb

set_option maxRecDepth 100000 in
set_option maxHeartbeats 4000000 in
theorem r7_Join (na nb : Bool) (la lb : List Str) (A B : Option Addr) (ca cb : Nat) (w : World) (hm : (la.length + lb.length + 1) * 16 ≤ 140737488355328) (hza : A = none → ca = 0) (hzb : B = none → cb = 0) (hra : SRow w A la) (hrb : SRow w B lb) :
    Calls Try.prog 19 #[.agg #[.bool na, .slice A la.length ca], .agg #[.bool nb, .slice B lb.length cb]] w fun e w' => (∃ v', e = .returned v' ∧ SetV (w.heap.size + 3) w' v' (na || nb) (srt (la ++ lb))) ∧ Below w.heap.size w w' := by
  cases na
  · go_enter Try.func19, Try.ntmps19
    go_upto_region 1 with fail
    generalize hW : (((w.alloc (.cells #[.bool false, .slice A la.length ca] 28)).alloc (.cells #[.bool nb, .slice B lb.length cb] 28)).alloc (.cells #[.bool false, .slice none 0 0] 28)) = W
    have q0_0 : W.cell? ⟨w.heap.size, 0, none⟩ = some (.bool false) := by rw [← hW]; simp [go_sem]
    have q0_1 : W.cell? ⟨w.heap.size, 1, none⟩ = some (.slice A la.length ca) := by rw [← hW]; simp [go_sem]
    have q1_0 : W.cell? ⟨w.heap.size + 1, 0, none⟩ = some (.bool nb) := by rw [← hW]; simp [go_sem]
    have q1_1 : W.cell? ⟨w.heap.size + 1, 1, none⟩ = some (.slice B lb.length cb) := by rw [← hW]; simp [go_sem]
    have q2_0 : W.cell? ⟨w.heap.size + 1 + 1, 0, none⟩ = some (.bool false) := by rw [← hW]; simp [go_sem]
    have q2_1 : W.cell? ⟨w.heap.size + 1 + 1, 1, none⟩ = some (.slice none 0 0) := by rw [← hW]; simp [go_sem]
    have f0 : ∀ o, W.frozen? ⟨w.heap.size, o, none⟩ = false := by intro o; rw [← hW]; simp [go_sem]
    have f1 : ∀ o, W.frozen? ⟨w.heap.size + 1, o, none⟩ = false := by intro o; rw [← hW]; simp [go_sem]
    have f2 : ∀ o, W.frozen? ⟨w.heap.size + 1 + 1, o, none⟩ = false := by intro o; rw [← hW]; simp [go_sem]
    have z0 : w.heap.size < W.heap.size := by rw [← hW]; first | (simp; done) | (simp; omega)
    have z1 : w.heap.size + 1 < W.heap.size := by rw [← hW]; first | (simp; done) | (simp; omega)
    have z2 : w.heap.size + 1 + 1 < W.heap.size := by rw [← hW]; first | (simp; done) | (simp; omega)
    have HW : Below w.heap.size w W := by rw [← hW]; exact (by repeat (first | (with_reducible assumption) | (with_reducible exact Below.refl _ _) | (with_reducible refine Below.alloc ?_ (by first | omega | (simp; omega) | (simp; done) | (dsimp only; omega)) _) | (with_reducible refine Below.setCell ?_ (by first | omega | (simp; omega) | (simp; done) | (dsimp only; omega)) _) | (with_reducible refine Below.drew ?_) | (with_reducible refine Below.trans ?_ (Below.mono (by assumption) (by first | omega | (simp; omega) | (simp; done) | (dsimp only; omega))))))
    clear hW
    have hraW := hra.mono HW
    have hrbW := hrb.mono HW
    go_wp2_with (at_builtin; refine wpList_append_ss rfl _ _ rfl W.heap.size (.slice none 0 0) [] la rfl (OwnS.nil _ _) A ca rfl hza hraW (by simp; omega) (Nat.le_refl _) ?_)
    intro v5 w1 hown hg hb
    have HB1 : Below W.heap.size W w1 := (Below.refl _ _).grown hg (Nat.le_refl _) (fun k e => by cases e)
    have hB1s := HB1.size
    have hrb1 := hrbW.mono HB1
    obtain ⟨hc1, hf1⟩ := bcell HB1
    clear hg hb hraW
    go_wp2_with (at_builtin; refine wpList_append_ss rfl _ _ rfl W.heap.size v5 la lb rfl hown B cb rfl hzb hrb1 (by omega) hB1s ?_)
    intro v6 w2 hown2 hg2 hb2
    have HB2 : Below W.heap.size W w2 := HB1.grown hg2 hB1s (fun k e => (hown.lt k e).1)
    have HB2s := HB2.size
    obtain ⟨A2, c2, rfl, k1, k2, k3, k4⟩ := hown2.row
    have h0 := r7_Clean (false || nb) (la ++ lb) A2 c2 w2 (by simp; omega) k3
    simp only [Bool.false_or, List.length_append] at h0
    have HO := Lib.hid h0
    obtain ⟨hc2, hf2⟩ := bcell HB2
    clear h0 hown2 k3 k1 k2 k4 hown hg2 hb2 hc1 hf1 HB1 hB1s hrb1
    go_wp2_with fail
    go_at_call 14
    refine HO.out.mono ?_
    rintro e w3 ⟨⟨v3, rfl, ⟨A3, c3, rfl, j1, j2, j3, j4, j5⟩⟩, hb3⟩
    obtain ⟨hc3, hf3⟩ := bcell hb3
    have hq0 : w.heap.size < w2.heap.size := by omega
    have hq1 : w.heap.size + 1 < w2.heap.size := by omega
    have hq2 : w.heap.size + 1 + 1 < w2.heap.size := by omega
    go_wp2
    have HB3 := HB2.trans (hb3.mono HB2s)
    have HW3 := HW.trans (HB3.mono HW.size)
    refine bodyPost_ret (by simp [results, Try.results19, go_sem, *] <;> rfl) rfl ⟨⟨_, rfl, ?_⟩, (by repeat (first | (with_reducible assumption) | (with_reducible exact Below.refl _ _) | (with_reducible refine Below.alloc ?_ (by first | omega | (simp; omega) | (simp; done) | (dsimp only; omega)) _) | (with_reducible refine Below.setCell ?_ (by first | omega | (simp; omega) | (simp; done) | (dsimp only; omega)) _) | (with_reducible refine Below.drew ?_) | (with_reducible refine Below.trans ?_ (Below.mono (by assumption) (by first | omega | (simp; omega) | (simp; done) | (dsimp only; omega))))))⟩
    exact SetV.store j1 j2 j3 j4 (fun a e => ⟨by have := (j5 a e).1; omega, (j5 a e).2⟩) (by omega) _ _
  · go_enter Try.func19, Try.ntmps19
    go_upto_region 1 with fail
    generalize hW : (((w.alloc (.cells #[.bool true, .slice A la.length ca] 28)).alloc (.cells #[.bool nb, .slice B lb.length cb] 28)).alloc (.cells #[.bool false, .slice none 0 0] 28)) = W
    have q0_0 : W.cell? ⟨w.heap.size, 0, none⟩ = some (.bool true) := by rw [← hW]; simp [go_sem]
    have q0_1 : W.cell? ⟨w.heap.size, 1, none⟩ = some (.slice A la.length ca) := by rw [← hW]; simp [go_sem]
    have q1_0 : W.cell? ⟨w.heap.size + 1, 0, none⟩ = some (.bool nb) := by rw [← hW]; simp [go_sem]
    have q1_1 : W.cell? ⟨w.heap.size + 1, 1, none⟩ = some (.slice B lb.length cb) := by rw [← hW]; simp [go_sem]
    have q2_0 : W.cell? ⟨w.heap.size + 1 + 1, 0, none⟩ = some (.bool false) := by rw [← hW]; simp [go_sem]
    have q2_1 : W.cell? ⟨w.heap.size + 1 + 1, 1, none⟩ = some (.slice none 0 0) := by rw [← hW]; simp [go_sem]
    have f0 : ∀ o, W.frozen? ⟨w.heap.size, o, none⟩ = false := by intro o; rw [← hW]; simp [go_sem]
    have f1 : ∀ o, W.frozen? ⟨w.heap.size + 1, o, none⟩ = false := by intro o; rw [← hW]; simp [go_sem]
    have f2 : ∀ o, W.frozen? ⟨w.heap.size + 1 + 1, o, none⟩ = false := by intro o; rw [← hW]; simp [go_sem]
    have z0 : w.heap.size < W.heap.size := by rw [← hW]; first | (simp; done) | (simp; omega)
    have z1 : w.heap.size + 1 < W.heap.size := by rw [← hW]; first | (simp; done) | (simp; omega)
    have z2 : w.heap.size + 1 + 1 < W.heap.size := by rw [← hW]; first | (simp; done) | (simp; omega)
    have HW : Below w.heap.size w W := by rw [← hW]; exact (by repeat (first | (with_reducible assumption) | (with_reducible exact Below.refl _ _) | (with_reducible refine Below.alloc ?_ (by first | omega | (simp; omega) | (simp; done) | (dsimp only; omega)) _) | (with_reducible refine Below.setCell ?_ (by first | omega | (simp; omega) | (simp; done) | (dsimp only; omega)) _) | (with_reducible refine Below.drew ?_) | (with_reducible refine Below.trans ?_ (Below.mono (by assumption) (by first | omega | (simp; omega) | (simp; done) | (dsimp only; omega))))))
    clear hW
    have hraW := hra.mono HW
    have hrbW := hrb.mono HW
    go_wp2_with (at_builtin; refine wpList_append_ss rfl _ _ rfl W.heap.size (.slice none 0 0) [] la rfl (OwnS.nil _ _) A ca rfl hza hraW (by simp; omega) (Nat.le_refl _) ?_)
    intro v5 w1 hown hg hb
    have HB1 : Below W.heap.size W w1 := (Below.refl _ _).grown hg (Nat.le_refl _) (fun k e => by cases e)
    have hB1s := HB1.size
    have hrb1 := hrbW.mono HB1
    obtain ⟨hc1, hf1⟩ := bcell HB1
    clear hg hb hraW
    go_wp2_with (at_builtin; refine wpList_append_ss rfl _ _ rfl W.heap.size v5 la lb rfl hown B cb rfl hzb hrb1 (by omega) hB1s ?_)
    intro v6 w2 hown2 hg2 hb2
    have HB2 : Below W.heap.size W w2 := HB1.grown hg2 hB1s (fun k e => (hown.lt k e).1)
    have HB2s := HB2.size
    obtain ⟨A2, c2, rfl, k1, k2, k3, k4⟩ := hown2.row
    have h0 := r7_Clean (true || nb) (la ++ lb) A2 c2 w2 (by simp; omega) k3
    simp only [Bool.true_or, List.length_append] at h0
    have HO := Lib.hid h0
    obtain ⟨hc2, hf2⟩ := bcell HB2
    clear h0 hown2 k3 k1 k2 k4 hown hg2 hb2 hc1 hf1 HB1 hB1s hrb1
    go_wp2_with fail
    go_at_call 14
    refine HO.out.mono ?_
    rintro e w3 ⟨⟨v3, rfl, ⟨A3, c3, rfl, j1, j2, j3, j4, j5⟩⟩, hb3⟩
    obtain ⟨hc3, hf3⟩ := bcell hb3
    have hq0 : w.heap.size < w2.heap.size := by omega
    have hq1 : w.heap.size + 1 < w2.heap.size := by omega
    have hq2 : w.heap.size + 1 + 1 < w2.heap.size := by omega
    go_wp2
    have HB3 := HB2.trans (hb3.mono HB2s)
    have HW3 := HW.trans (HB3.mono HW.size)
    refine bodyPost_ret (by simp [results, Try.results19, go_sem, *] <;> rfl) rfl ⟨⟨_, rfl, ?_⟩, (by repeat (first | (with_reducible assumption) | (with_reducible exact Below.refl _ _) | (with_reducible refine Below.alloc ?_ (by first | omega | (simp; omega) | (simp; done) | (dsimp only; omega)) _) | (with_reducible refine Below.setCell ?_ (by first | omega | (simp; omega) | (simp; done) | (dsimp only; omega)) _) | (with_reducible refine Below.drew ?_) | (with_reducible refine Below.trans ?_ (Below.mono (by assumption) (by first | omega | (simp; omega) | (simp; done) | (dsimp only; omega))))))⟩
    exact SetV.store j1 j2 j3 j4 (fun a e => ⟨by have := (j5 a e).1; omega, (j5 a e).2⟩) (by omega) _ _
end Go.Proofs.Ytdpnphnafidpiaa
