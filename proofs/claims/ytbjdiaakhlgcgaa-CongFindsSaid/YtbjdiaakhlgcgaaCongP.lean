/- What cong.Meet returns. Layer 5. -/
import Derived.Test.YtbjdiaakhlgcgaaCongO
namespace Go.Proofs.Ytbjdiaakhlgcgaa
open Go.RowKit

def Cg.meetC (x y : Cg) : Cg :=
  if x.s = false then Cg.zero else if y.s = false then Cg.zero else if x.agrees y = false then Cg.zero else
    if x.m = 0 then x else if y.m = 0 then y else
      if lcmI x.m y.m ≤ 9223372036854775807 then Cg.of (lcmI x.m y.m) (x.r + x.m * x.stepsI y) else if x.m < y.m then y else x
def Cg.meet (a b : Cg) : Cg := Cg.meetC a.clean b.clean

set_option maxRecDepth 100000 in
set_option maxHeartbeats 4000000 in
theorem cong_meet (a b : Cg) (ha : a.ok) (hb : b.ok) (w : World) :
    Calls Try.prog 42 #[.agg #[.bool a.s, .int .i64 a.m, .int .i64 a.r], .agg #[.bool b.s, .int .i64 b.m, .int .i64 b.r]] w fun e w' => e = .returned (.agg #[.bool (a.meet b).s, .int .i64 (a.meet b).m, .int .i64 (a.meet b).r]) ∧ Below w.heap.size w w' := by
  have HA := Lib.hid (cong_clean a ha.1)
  have HB := Lib.hid (cong_clean b hb.1)
  have ox := Cg.clean_std ha
  have oy := Cg.clean_std hb
  have e : a.meet b = Cg.meetC a.clean b.clean := rfl
  rw [e]; clear e
  generalize a.clean = x at *
  generalize b.clean = y at *
  have HE : Hid (Cg.meetC x y = if x.s = false then Cg.zero else if y.s = false then Cg.zero else if x.agrees y = false then Cg.zero else
    if x.m = 0 then x else if y.m = 0 then y else
      if lcmI x.m y.m ≤ 9223372036854775807 then Cg.of (lcmI x.m y.m) (x.r + x.m * x.stepsI y) else if x.m < y.m then y else x) := Lib.hid rfl
  have HG : Hid (∀ w, Calls Try.prog 54 #[.agg #[.bool x.s, .int .i64 x.m, .int .i64 x.r], .agg #[.bool y.s, .int .i64 y.m, .int .i64 y.r]] w fun e w' => e = .returned (.bool (x.agrees y)) ∧ Below w.heap.size w w') := Lib.hid (cong_agree x y ox.1.1 ox.2.1 oy.1.1 oy.2.1)
  have hdr : ∀ w : World, w.drew.heap.size = w.heap.size := fun _ => rfl
  go_enter Try.func42, Try.ntmps42
  go_upto_region 1 with fail
  have hh0 := al3_0 w (.cells #[.bool a.s, .int .i64 a.m, .int .i64 a.r] 45) (.cells #[.bool b.s, .int .i64 b.m, .int .i64 b.r] 45) (.cells #[.bool false, .int .i64 0, .int .i64 0] 45)
  have hh1 := al3_1 w (.cells #[.bool a.s, .int .i64 a.m, .int .i64 a.r] 45) (.cells #[.bool b.s, .int .i64 b.m, .int .i64 b.r] 45) (.cells #[.bool false, .int .i64 0, .int .i64 0] 45)
  have hh2 := al3_2 w (.cells #[.bool a.s, .int .i64 a.m, .int .i64 a.r] 45) (.cells #[.bool b.s, .int .i64 b.m, .int .i64 b.r] 45) (.cells #[.bool false, .int .i64 0, .int .i64 0] 45)
  generalize hW : ((w.alloc (.cells #[.bool a.s, .int .i64 a.m, .int .i64 a.r] 45)).alloc (.cells #[.bool b.s, .int .i64 b.m, .int .i64 b.r] 45)).alloc (.cells #[.bool false, .int .i64 0, .int .i64 0] 45) = W at *
  have HW : Below w.heap.size w W := by rw [← hW]; exact (by repeat (first | (with_reducible assumption) | (with_reducible exact Below.refl _ _) | (with_reducible refine Below.alloc ?_ (by first | omega | (simp; omega) | (simp; done) | (dsimp only; omega)) _) | (with_reducible refine Below.setCell ?_ (by first | omega | (simp; omega) | (simp; done) | (dsimp only; omega)) _) | (with_reducible refine Below.drew ?_) | (with_reducible refine Below.trans ?_ (Below.mono (by assumption) (by first | omega | (simp; omega) | (simp; done) | (dsimp only; omega))))))
  clear hW
  have q0_0 := blk_cell hh0 0
  have q0_1 := blk_cell hh0 1
  have q0_2 := blk_cell hh0 2
  have q1_0 := blk_cell hh1 0
  have q1_1 := blk_cell hh1 1
  have q1_2 := blk_cell hh1 2
  simp only [List.getElem?_toArray, List.getElem?_cons_zero, List.getElem?_cons_succ] at q0_0 q0_1 q0_2 q1_0 q1_1 q1_2
  have z0 := blk_lt hh0
  have z1 := blk_lt hh1
  have z2 := blk_lt hh2
  have f0 := blk_free hh0
  have f1 := blk_free hh1
  have K0 := Lib.hid hh0; have K1 := Lib.hid hh1; have K2 := Lib.hid hh2; clear hh0 hh1 hh2
  refine region_seqg (W := W) [_, _, _, _] [_, _] rfl (by kernel_rfl) (by kernel_rfl) (by repeat (first | (with_reducible assumption) | (with_reducible exact Below.refl _ _) | (with_reducible refine Below.alloc ?_ (by first | omega | (simp; omega) | (simp; done) | (dsimp only; omega)) _) | (with_reducible refine Below.setCell ?_ (by first | omega | (simp; omega) | (simp; done) | (dsimp only; omega)) _) | (with_reducible refine Below.drew ?_) | (with_reducible refine Below.trans ?_ (Below.mono (by assumption) (by first | omega | (simp; omega) | (simp; done) | (dsimp only; omega)))))) (fun fin hfin => ?_)
  iterate 4
    first
      | (refine SeqG.yes (v := ?_) (A' := ?_) rfl (fun γ => by rfl) ?_ ?_ ?_
         rotate_left 2
         · intro γ w' K hS hK
           obtain ⟨hc, hf⟩ := bcell hS
           have hz := hS.size
           go_simp
           first
             | exact hK.out _ (Below.refl _ _)
             | (go_at_call 53; (with_reducible refine (HA.out _).mono ?_); rintro e w1 ⟨rfl, hb1⟩; exact hK.out _ hb1)
             | (go_at_call 53; (with_reducible refine (HB.out _).mono ?_); rintro e w1 ⟨rfl, hb1⟩; exact hK.out _ hb1)
             | trace_state
         · intro γ; simp only [Act.put, List.setIfInBounds_toArray, List.set_cons_zero, List.set_cons_succ]; exact rfl)
      | (refine SeqG.no (A' := ?_) rfl (fun γ => by rfl) ?_ ?_
         rotate_left
         · intro γ; simp only [Act.put, List.setIfInBounds_toArray, List.set_cons_zero, List.set_cons_succ]; exact rfl)
  refine SeqG.nil (hfin.out _ _ ?_)
  clear hfin fin
  intro γ lo hi w1 hB1 hF hD
  clear hD
  obtain ⟨hc, hf⟩ := bcell hB1
  have hz := hB1.size
  refine TailL.cons (fun K hK => ?_)
  go_simp
  refine hK.out _ _ ?_
  clear hK K
  refine TailL.cons (fun K hK => ?_)
  go_simp
  refine hK.out _ _ ?_
  clear hK K
  refine TailL.nil ?_
  generalize hX : (((((w1.setCell ⟨w.heap.size, 0, none⟩ (.bool x.s)).setCell ⟨w.heap.size, 1, none⟩ (.int .i64 x.m)).setCell ⟨w.heap.size, 2, none⟩ (.int .i64 x.r)).setCell ⟨w.heap.size + 1, 0, none⟩ (.bool y.s)).setCell ⟨w.heap.size + 1, 1, none⟩ (.int .i64 y.m)).setCell ⟨w.heap.size + 1, 2, none⟩ (.int .i64 y.r) = X
  have HX : Below w.heap.size w X := by rw [← hX]; exact (by repeat (first | (with_reducible assumption) | (with_reducible exact Below.refl _ _) | (with_reducible refine Below.alloc ?_ (by first | omega | (simp; omega) | (simp; done) | (dsimp only; omega)) _) | (with_reducible refine Below.setCell ?_ (by first | omega | (simp; omega) | (simp; done) | (dsimp only; omega)) _) | (with_reducible refine Below.drew ?_) | (with_reducible refine Below.trans ?_ (Below.mono (by assumption) (by first | omega | (simp; omega) | (simp; done) | (dsimp only; omega))))))
  have p0 : X.heap[w.heap.size]? = some (.cells #[.bool x.s, .int .i64 x.m, .int .i64 x.r] 45) := by
    rw [← hX]
    iterate 3 (refine (Below.heap_setCell _ _ _ _ (by dsimp only; omega)).trans ?_)
    refine blk_set3 (c0 := .bool a.s) (c1 := .int .i64 a.m) (c2 := .int .i64 a.r) ?_
    rw [hB1.block _ z0]; exact K0.out
  have p1 : X.heap[w.heap.size + 1]? = some (.cells #[.bool y.s, .int .i64 y.m, .int .i64 y.r] 45) := by
    rw [← hX]
    refine blk_set3 (c0 := .bool b.s) (c1 := .int .i64 b.m) (c2 := .int .i64 b.r) ?_
    iterate 3 (refine (Below.heap_setCell _ _ _ _ (by dsimp only; omega)).trans ?_)
    rw [hB1.block _ z1]; exact K1.out
  have p2 : X.heap[w.heap.size + 1 + 1]? = some (.cells #[.bool false, .int .i64 0, .int .i64 0] 45) := by
    rw [← hX]
    iterate 6 (refine (Below.heap_setCell _ _ _ _ (by dsimp only; omega)).trans ?_)
    rw [hB1.block _ z2]; exact K2.out
  clear hX hc hf hz K0 K1 K2 q0_0 q0_1 q0_2 q1_0 q1_1 q1_2 z0 z1 z2 f0 f1 hB1 HW HA HB
  have q0_0 := blk_cell p0 0
  have q0_1 := blk_cell p0 1
  have q0_2 := blk_cell p0 2
  have q1_0 := blk_cell p1 0
  have q1_1 := blk_cell p1 1
  have q1_2 := blk_cell p1 2
  have q2_0 := blk_cell p2 0
  have q2_1 := blk_cell p2 1
  have q2_2 := blk_cell p2 2
  simp only [List.getElem?_toArray, List.getElem?_cons_zero, List.getElem?_cons_succ] at q0_0 q0_1 q0_2 q1_0 q1_1 q1_2 q2_0 q2_1 q2_2
  have z0 := blk_lt p0
  have z1 := blk_lt p1
  have z2 := blk_lt p2
  have f2 := blk_free p2
  clear p0 p1 p2
  cases hs : x.s
  · have E' := HE.out
    rw [if_pos hs] at E'
    have E := Lib.hid E'; clear E' HE HG
    rw [hs] at q0_0
    go_wp2
    refine bodyPost_ret (by simp [results, Try.results42, go_sem, *] <;> rfl) rfl ⟨by rw [E.out]; rfl, (by repeat (first | (with_reducible assumption) | (with_reducible exact Below.refl _ _) | (with_reducible refine Below.alloc ?_ (by first | omega | (simp; omega) | (simp; done) | (dsimp only; omega)) _) | (with_reducible refine Below.setCell ?_ (by first | omega | (simp; omega) | (simp; done) | (dsimp only; omega)) _) | (with_reducible refine Below.drew ?_) | (with_reducible refine Below.trans ?_ (Below.mono (by assumption) (by first | omega | (simp; omega) | (simp; done) | (dsimp only; omega))))))⟩
  · cases hs' : y.s
    · have E' := HE.out
      rw [if_neg (by rw [hs]; decide), if_pos hs'] at E'
      have E := Lib.hid E'; clear E' HE HG
      rw [hs] at q0_0
      rw [hs'] at q1_0
      go_wp2
      refine bodyPost_ret (by simp [results, Try.results42, go_sem, *] <;> rfl) rfl ⟨by rw [E.out]; rfl, (by repeat (first | (with_reducible assumption) | (with_reducible exact Below.refl _ _) | (with_reducible refine Below.alloc ?_ (by first | omega | (simp; omega) | (simp; done) | (dsimp only; omega)) _) | (with_reducible refine Below.setCell ?_ (by first | omega | (simp; omega) | (simp; done) | (dsimp only; omega)) _) | (with_reducible refine Below.drew ?_) | (with_reducible refine Below.trans ?_ (Below.mono (by assumption) (by first | omega | (simp; omega) | (simp; done) | (dsimp only; omega))))))⟩
    · have HE2 : Hid _ := Lib.hid (HE.out.trans ((if_neg (by rw [hs]; decide)).trans (if_neg (by rw [hs']; decide))))
      have HG2 := HG.out
      rw [hs, hs'] at HG2
      have HGG := Lib.hid HG2
      rw [hs] at q0_0
      rw [hs'] at q1_0
      clear HG HG2 HE
      cases hag : x.agrees y
      · have E := Lib.hid (HE2.out.trans (if_pos hag))
        rw [hag] at HGG
        clear HE2
        go_wp2_with (go_at_call 54; (with_reducible refine (HGG.out _).mono ?_); rintro e w1 ⟨rfl, hb1⟩; obtain ⟨hc1, hf1⟩ := bcell hb1; have hz1 := hb1.size; (try simp at hz1); (try have hy1 := Nat.lt_of_succ_le hz1); (try have hv1 := Nat.lt_of_succ_lt hy1); (try have hw10 : w.heap.size < w1.heap.size := by omega); (try have hw11 : w.heap.size + 1 < w1.heap.size := by omega); (try have hw12 : w.heap.size + 1 + 1 < w1.heap.size := by omega); (try have hw13 : w.heap.size + 1 + 1 + 1 < w1.heap.size := by omega))
        refine bodyPost_ret (by simp [results, Try.results42, go_sem, *] <;> rfl) rfl ⟨by rw [E.out]; rfl, (by repeat (first | (with_reducible assumption) | (with_reducible exact Below.refl _ _) | (with_reducible refine Below.alloc ?_ (by first | omega | (simp; omega) | (simp; done) | (dsimp only; omega)) _) | (with_reducible refine Below.setCell ?_ (by first | omega | (simp; omega) | (simp; done) | (dsimp only; omega)) _) | (with_reducible refine Below.drew ?_) | (with_reducible refine Below.trans ?_ (Below.mono (by assumption) (by first | omega | (simp; omega) | (simp; done) | (dsimp only; omega))))))⟩
      · have HE3 := Lib.hid (HE2.out.trans (if_neg (by rw [hag]; decide)))
        rw [hag] at HGG
        clear HE2
        by_cases hx0 : x.m = 0
        · have E := Lib.hid (HE3.out.trans (if_pos hx0))
          have k0 : (x.m == 0) = true := by simpa using hx0
          clear HE3 hx0
          go_wp2_with (go_at_call 54; (with_reducible refine (HGG.out _).mono ?_); rintro e w1 ⟨rfl, hb1⟩; obtain ⟨hc1, hf1⟩ := bcell hb1; have hz1 := hb1.size; (try simp at hz1); (try have hy1 := Nat.lt_of_succ_le hz1); (try have hv1 := Nat.lt_of_succ_lt hy1); (try have hw10 : w.heap.size < w1.heap.size := by omega); (try have hw11 : w.heap.size + 1 < w1.heap.size := by omega); (try have hw12 : w.heap.size + 1 + 1 < w1.heap.size := by omega); (try have hw13 : w.heap.size + 1 + 1 + 1 < w1.heap.size := by omega))
          refine bodyPost_ret (by simp [results, Try.results42, go_sem, *] <;> rfl) rfl ⟨by rw [E.out, hs], (by repeat (first | (with_reducible assumption) | (with_reducible exact Below.refl _ _) | (with_reducible refine Below.alloc ?_ (by first | omega | (simp; omega) | (simp; done) | (dsimp only; omega)) _) | (with_reducible refine Below.setCell ?_ (by first | omega | (simp; omega) | (simp; done) | (dsimp only; omega)) _) | (with_reducible refine Below.drew ?_) | (with_reducible refine Below.trans ?_ (Below.mono (by assumption) (by first | omega | (simp; omega) | (simp; done) | (dsimp only; omega))))))⟩
        · have HE4 := Lib.hid (HE3.out.trans (if_neg hx0))
          have k0 : (x.m == 0) = false := by simpa using hx0
          clear HE3
          by_cases hy0 : y.m = 0
          · have E := Lib.hid (HE4.out.trans (if_pos hy0))
            have k1 : (y.m == 0) = true := by simpa using hy0
            clear HE4 hy0
            go_wp2_with (go_at_call 54; (with_reducible refine (HGG.out _).mono ?_); rintro e w1 ⟨rfl, hb1⟩; obtain ⟨hc1, hf1⟩ := bcell hb1; have hz1 := hb1.size; (try simp at hz1); (try have hy1 := Nat.lt_of_succ_le hz1); (try have hv1 := Nat.lt_of_succ_lt hy1); (try have hw10 : w.heap.size < w1.heap.size := by omega); (try have hw11 : w.heap.size + 1 < w1.heap.size := by omega); (try have hw12 : w.heap.size + 1 + 1 < w1.heap.size := by omega); (try have hw13 : w.heap.size + 1 + 1 + 1 < w1.heap.size := by omega))
            refine bodyPost_ret (by simp [results, Try.results42, go_sem, *] <;> rfl) rfl ⟨by rw [E.out, hs'], (by repeat (first | (with_reducible assumption) | (with_reducible exact Below.refl _ _) | (with_reducible refine Below.alloc ?_ (by first | omega | (simp; omega) | (simp; done) | (dsimp only; omega)) _) | (with_reducible refine Below.setCell ?_ (by first | omega | (simp; omega) | (simp; done) | (dsimp only; omega)) _) | (with_reducible refine Below.drew ?_) | (with_reducible refine Below.trans ?_ (Below.mono (by assumption) (by first | omega | (simp; omega) | (simp; done) | (dsimp only; omega))))))⟩
          · have HE5 := Lib.hid (HE4.out.trans (if_neg hy0))
            have k1 : (y.m == 0) = false := by simpa using hy0
            clear HE4
            have h1 : 0 < x.m := by have := ox.2.1; omega
            have h2 : 0 < y.m := by have := oy.2.1; omega
            obtain ⟨c, ec, k0', k1', c0, c1, l0, -, -, -, -, -⟩ := crt ox oy h1 h2 hag
            have HS := cong_steps x y ox oy h1 h2 hag
            rw [hs, hs'] at HS
            have HST := Lib.hid HS
            clear HS
            have HC0 := cong_common x y ox.1.1 (by omega) oy.1.1 (by omega)
            rw [hs, hs'] at HC0
            have HCC := Lib.hid HC0
            clear HC0
            obtain ⟨g, a', b', i, e1, hg, e2, e3, e4, e5, pa, pb, -, -, -, -, -, e7⟩ := gcd_parts h1 h2
            rw [e1] at HCC
            have hxm := ox.1.1
            have hym := oy.1.1
            have hxr := ox.2.2.2 h1
            unfold I64 at hxm hym
            have t1 : x.m.tdiv g = a' := by rw [Int.tdiv_eq_ediv_of_nonneg (by omega)]; exact e4
            have a1 : a' ≤ x.m := by rw [← e4]; exact Int.ediv_le_self _ (by omega)
            have b1 : b' ≤ y.m := by rw [← e5]; exact Int.ediv_le_self _ (by omega)
            have el : a' * y.m = lcmI x.m y.m := by unfold lcmI; rw [e1, e4]
            have lB : lcmI x.m y.m ≤ 9223372036854775807 * 9223372036854775807 := by rw [e7]; exact Int.mul_le_mul (by omega) (by omega) (by omega) (by omega)
            have hm := wide_mul a' y.m (by unfold I64; omega) (by unfold I64; omega)
            rw [el] at hm
            have HM := Lib.hid hm
            clear hm
            have hi := wide_int (hiW (lcmI x.m y.m)) (loW (lcmI x.m y.m)) (I64_hi (by unfold I128; omega)) (U64.lo _)
            rw [wv_hilo] at hi
            have HI := Lib.hid hi
            clear hi e7 el e5 e3 e2 e1 i pb
            have g0 : (g == 0) = false := by simp; omega
            have g1 : ¬ g = 0 := by omega
            have w1 : IntKind.i64.wrap a' = a' := IntWalk.i64_in _ (by omega)
            have HEC := Lib.hid ec
            have HO : Hid (lcmI x.m y.m ≤ 9223372036854775807 → ∀ w, Calls Try.prog 35 #[.int .i64 (lcmI x.m y.m), .int .i64 c] w fun e w' => e = .returned (.agg #[.bool (Cg.of (lcmI x.m y.m) c).s, .int .i64 (Cg.of (lcmI x.m y.m) c).m, .int .i64 (Cg.of (lcmI x.m y.m) c).r]) ∧ Below w.heap.size w w') := Lib.hid (fun h w => cong_of _ _ (by unfold I64; omega) w)
            rw [← ec] at HE5
            have HKB := Lib.hid (show x.r + x.m * x.stepsI y = c from ec.symm)
            clear ec
            generalize hk : x.m * x.stepsI y = xk at *
            generalize x.stepsI y = k at *
            generalize lcmI x.m y.m = l at *
            generalize hiW l = lh at *
            generalize loW l = ll at *
            have ec := HKB.out
            go_wp2_with (go_at_call 54; (with_reducible refine (HGG.out _).mono ?_); rintro e w1 ⟨rfl, hb1⟩; obtain ⟨hc1, hf1⟩ := bcell hb1; have hz1 := hb1.size; (try simp at hz1); (try have hy1 := Nat.lt_of_succ_le hz1); (try have hv1 := Nat.lt_of_succ_lt hy1); (try have hw10 : w.heap.size < w1.heap.size := by omega); (try have hw11 : w.heap.size + 1 < w1.heap.size := by omega); (try have hw12 : w.heap.size + 1 + 1 < w1.heap.size := by omega); (try have hw13 : w.heap.size + 1 + 1 + 1 < w1.heap.size := by omega))
            obtain ⟨Y, rfl⟩ : ∃ Y : World, Y = w1 := ⟨_, rfl⟩
            have HY : Below w.heap.size w Y := (by repeat (first | (with_reducible assumption) | (with_reducible exact Below.refl _ _) | (with_reducible refine Below.alloc ?_ (by first | omega | (simp; omega) | (simp; done) | (dsimp only; omega)) _) | (with_reducible refine Below.setCell ?_ (by first | omega | (simp; omega) | (simp; done) | (dsimp only; omega)) _) | (with_reducible refine Below.drew ?_) | (with_reducible refine Below.trans ?_ (Below.mono (by assumption) (by first | omega | (simp; omega) | (simp; done) | (dsimp only; omega))))))
            replace q0_0 := (hb1.cell (p := ⟨w.heap.size, 0, none⟩) z0).trans q0_0
            replace q0_1 := (hb1.cell (p := ⟨w.heap.size, 1, none⟩) z0).trans q0_1
            replace q0_2 := (hb1.cell (p := ⟨w.heap.size, 2, none⟩) z0).trans q0_2
            replace q1_0 := (hb1.cell (p := ⟨w.heap.size + 1, 0, none⟩) z1).trans q1_0
            replace q1_1 := (hb1.cell (p := ⟨w.heap.size + 1, 1, none⟩) z1).trans q1_1
            replace q1_2 := (hb1.cell (p := ⟨w.heap.size + 1, 2, none⟩) z1).trans q1_2
            replace q2_0 := (hb1.cell (p := ⟨w.heap.size + 1 + 1, 0, none⟩) z2).trans q2_0
            replace q2_1 := (hb1.cell (p := ⟨w.heap.size + 1 + 1, 1, none⟩) z2).trans q2_1
            replace q2_2 := (hb1.cell (p := ⟨w.heap.size + 1 + 1, 2, none⟩) z2).trans q2_2
            have f2' : ∀ o, Y.frozen? ⟨w.heap.size + 1 + 1, o, none⟩ = false := fun o => (hb1.frozen (p := ⟨w.heap.size + 1 + 1, o, none⟩) z2).trans (f2 o)
            replace z0 := Nat.lt_of_lt_of_le z0 hb1.size
            replace z1 := Nat.lt_of_lt_of_le z1 hb1.size
            replace z2 := Nat.lt_of_lt_of_le z2 hb1.size
            have HSX := Lib.hid hs
            have HSY := Lib.hid hs'
            clear hb1 hc1 hf1 f2 HX hF lo hi γ hs hs' hag ox oy ha hb
            refine region_seqg (W := Y) [_, _, _, _, _, _, _, _, _, _] [_] rfl (by kernel_rfl) (by kernel_rfl) (by repeat (first | (with_reducible assumption) | (with_reducible exact Below.refl _ _) | (with_reducible refine Below.alloc ?_ (by first | omega | (simp; omega) | (simp; done) | (dsimp only; omega)) _) | (with_reducible refine Below.setCell ?_ (by first | omega | (simp; omega) | (simp; done) | (dsimp only; omega)) _) | (with_reducible refine Below.drew ?_) | (with_reducible refine Below.trans ?_ (Below.mono (by assumption) (by first | omega | (simp; omega) | (simp; done) | (dsimp only; omega)))))) (fun fin hfin => ?_)
            iterate 9
              first
                | (refine SeqG.yes (v := ?_) (A' := ?_) rfl (fun γ => by rfl) ?_ ?_ ?_
                   rotate_left 2
                   · intro γ w' K hS hK
                     obtain ⟨hc, hf⟩ := bcell hS
                     have hz := hS.size
                     go_simp
                     first
                       | exact hK.out _ (Below.refl _ _)
                       | (go_at_call 56; (with_reducible refine (HCC.out _).mono ?_); rintro e w1 ⟨rfl, hb1⟩; exact hK.out _ hb1)
                       | (go_at_call 55; (with_reducible refine (HM.out _).mono ?_); rintro e w1 ⟨rfl, hb1⟩; exact hK.out _ hb1)
                       | trace_state
                   · intro γ; simp only [Act.put, List.setIfInBounds_toArray, List.set_cons_zero, List.set_cons_succ]; exact rfl)
                | (refine SeqG.no (A' := ?_) rfl (fun γ => by rfl) ?_ ?_
                   rotate_left
                   · intro γ; simp only [Act.put, List.setIfInBounds_toArray, List.set_cons_zero, List.set_cons_succ]; exact rfl)
            refine SeqG.make (k := 9) (A' := ?_) (fun g => .pointer (some ⟨g 0, 0, none⟩)) (RCell #[.int .i64 0, .int .u64 0] 59) rfl (fun γ => by rfl) (RCell.stable _ _) ?_ ?_ ?_
            rotate_left
            · intro γ w' K hS _ hK
              have hm := RCell.made (#[.int .i64 0, .int .u64 0]) (59) w'
              have HK := Lib.hid (hK.out (fun _ => w'.heap.size) (w'.alloc (.cells #[.int .i64 0, .int .u64 0] 59)) ((Below.refl _ _).alloc (Nat.le_refl _) _) hm); clear hK hm
              go_simp
              exact HK.out
            · intro γ; simp only [Act.put, List.setIfInBounds_toArray, List.set_cons_zero, List.set_cons_succ]; exact rfl
            refine SeqG.nil (hfin.out _ _ ?_)
            clear hfin fin
            intro γ lo hi w1 hB1 hF hD
            replace hF := listF1 hF
            dsimp only at hF
            clear hD
            obtain ⟨y6, _, y7, o7, p7, h7⟩ := hF
            have hzy := hB1.size
            generalize γ 9 0 = b5 at *
            have g7 := blk_cell h7
            have f7 := blk_free h7
            have x7 := blk_lt h7
            have K7 := Lib.hid h7; clear h7
            refine TailL.cons (fun K hK => ?_)
            go_simp
            refine hK.out _ _ ?_
            clear hK K
            refine TailL.nil ?_
            generalize hX : (w1.setCell ⟨b5, 0, none⟩ (.int .i64 lh)).setCell ⟨b5, 1, none⟩ (.int .u64 ll) = X2
            have HX2 : Below Y.heap.size Y X2 := by rw [← hX]; exact (by repeat (first | (with_reducible assumption) | (with_reducible exact Below.refl _ _) | (with_reducible refine Below.alloc ?_ (by first | omega | (simp; omega) | (simp; done) | (dsimp only; omega)) _) | (with_reducible refine Below.setCell ?_ (by first | omega | (simp; omega) | (simp; done) | (dsimp only; omega)) _) | (with_reducible refine Below.drew ?_) | (with_reducible refine Below.trans ?_ (Below.mono (by assumption) (by first | omega | (simp; omega) | (simp; done) | (dsimp only; omega))))))
            have p7' : X2.heap[b5]? = some (.cells #[.int .i64 lh, .int .u64 ll] 59) := by rw [← hX]; exact blk_set2 K7.out
            clear hX
            have q7_0 := blk_cell p7' 0
            have q7_1 := blk_cell p7' 1
            simp only [List.getElem?_toArray, List.getElem?_cons_zero, List.getElem?_cons_succ] at q7_0 q7_1
            have z7 := blk_lt p7'
            obtain ⟨hcx, hfx⟩ := bcell HX2
            have hzx := HX2.size
            have v0 : w.heap.size < X2.heap.size := by omega
            have v1 : w.heap.size + 1 < X2.heap.size := by omega
            have v2 : w.heap.size + 1 + 1 < X2.heap.size := by omega
            clear hB1 K7 g7 f7 x7 o7 p7 y7 y6
            by_cases hl : l ≤ 9223372036854775807
            · have hi1 : isI l = true := (isI_iff l).2 (by unfold I64; omega)
              have hi2 : intI l = l := by unfold intI; rw [if_pos hi1]
              have HII := HI.out
              rw [hi1, hi2] at HII
              have HI2 := Lib.hid HII
              have HO2 := Lib.hid (HO.out hl)
              have E := Lib.hid (HE5.out.trans (if_pos hl))
              clear HII hi1 hi2 HI HE5 HO HKB
              have wk : IntKind.i64.wrap xk = xk := IntWalk.i64_in _ (by omega)
              have wc : IntKind.i64.wrap c = c := IntWalk.i64_in _ (by omega)
              go_wp2_with (go_at_call 57; (with_reducible refine (HI2.out _).mono ?_); rintro e w1 ⟨rfl, hb1⟩; obtain ⟨hc1, hf1⟩ := bcell hb1; have hz1 := hb1.size; (try simp at hz1); (try have hy1 := Nat.lt_of_succ_le hz1); (try have hv1 := Nat.lt_of_succ_lt hy1); (try have hw10 : w.heap.size < w1.heap.size := by omega); (try have hw11 : w.heap.size + 1 < w1.heap.size := by omega); (try have hw12 : w.heap.size + 1 + 1 < w1.heap.size := by omega); (try have hw13 : w.heap.size + 1 + 1 + 1 < w1.heap.size := by omega))
              obtain ⟨Z, rfl⟩ : ∃ Z : World, Z = w1 := ⟨_, rfl⟩
              have t0 : w.heap.size < Z.heap.size := by omega
              have t1' : w.heap.size + 1 < Z.heap.size := by omega
              have t2 : w.heap.size + 1 + 1 < Z.heap.size := by omega
              refine region_seqg (W := Z) [_, _, _, _, _, _, _, _, _, _, _] [_] rfl (by kernel_rfl) (by kernel_rfl) (by repeat (first | (with_reducible assumption) | (with_reducible exact Below.refl _ _) | (with_reducible refine Below.alloc ?_ (by first | omega | (simp; omega) | (simp; done) | (dsimp only; omega)) _) | (with_reducible refine Below.setCell ?_ (by first | omega | (simp; omega) | (simp; done) | (dsimp only; omega)) _) | (with_reducible refine Below.drew ?_) | (with_reducible refine Below.trans ?_ (Below.mono (by assumption) (by first | omega | (simp; omega) | (simp; done) | (dsimp only; omega)))))) (fun fin hfin => ?_)
              iterate 11
                first
                  | (refine SeqG.yes (v := ?_) (A' := ?_) rfl (fun γ => by rfl) ?_ ?_ ?_
                     rotate_left 2
                     · intro γ w' K hS hK
                       obtain ⟨hc, hf⟩ := bcell hS
                       have hz := hS.size
                       go_simp
                       first
                         | exact hK.out _ (Below.refl _ _)
                         | (go_at_call 58; (with_reducible refine (HST.out _).mono ?_); rintro e w1 ⟨rfl, hb1⟩; exact hK.out _ hb1)
                         | (go_at_call 35; (with_reducible refine (HO2.out _).mono ?_); rintro e w1 ⟨rfl, hb1⟩; exact hK.out _ hb1)
                         | trace_state
                     · intro γ; simp only [Act.put, List.setIfInBounds_toArray, List.set_cons_zero, List.set_cons_succ]; exact rfl)
                  | (refine SeqG.no (A' := ?_) rfl (fun γ => by rfl) ?_ ?_
                     rotate_left
                     · intro γ; simp only [Act.put, List.setIfInBounds_toArray, List.set_cons_zero, List.set_cons_succ]; exact rfl)
              refine SeqG.nil (hfin.out _ _ ?_)
              clear hfin fin
              intro γ lo hi w1 hB1 hF hD
              clear hD
              obtain ⟨hcz, hfz⟩ := bcell hB1
              have hzz := hB1.size
              have s2 : w.heap.size + 1 + 1 < w1.heap.size := by omega
              refine TailL.cons (fun K hK => ?_)
              go_simp
              refine hK.out _ _ ?_
              clear hK K
              refine TailL.nil ?_
              go_wp2
              refine bodyPost_ret (by simp [results, Try.results42, go_sem, *] <;> rfl) rfl ⟨by rw [E.out], (by repeat (first | (with_reducible assumption) | (with_reducible exact Below.refl _ _) | (with_reducible refine Below.alloc ?_ (by first | omega | (simp; omega) | (simp; done) | (dsimp only; omega)) _) | (with_reducible refine Below.setCell ?_ (by first | omega | (simp; omega) | (simp; done) | (dsimp only; omega)) _) | (with_reducible refine Below.drew ?_) | (with_reducible refine Below.trans ?_ (Below.mono (by assumption) (by first | omega | (simp; omega) | (simp; done) | (dsimp only; omega))))))⟩
            · have hi1 : isI l = false := by
                cases h : isI l
                · rfl
                · have := (isI_iff l).1 h; unfold I64 at this; omega
              have HII := HI.out
              rw [hi1] at HII
              have HI2 := Lib.hid HII
              have HE6 := Lib.hid (HE5.out.trans (if_neg hl))
              clear HII hi1 HI HE5 HO HKB ec hk
              by_cases hlt : x.m < y.m
              · have E := Lib.hid (HE6.out.trans (if_pos hlt))
                clear HE6
                go_wp2_with (go_at_call 57; (with_reducible refine (HI2.out _).mono ?_); rintro e w1 ⟨rfl, hb1⟩; obtain ⟨hc1, hf1⟩ := bcell hb1; have hz1 := hb1.size; (try simp at hz1); (try have hy1 := Nat.lt_of_succ_le hz1); (try have hv1 := Nat.lt_of_succ_lt hy1); (try have hw10 : w.heap.size < w1.heap.size := by omega); (try have hw11 : w.heap.size + 1 < w1.heap.size := by omega); (try have hw12 : w.heap.size + 1 + 1 < w1.heap.size := by omega); (try have hw13 : w.heap.size + 1 + 1 + 1 < w1.heap.size := by omega))
                refine bodyPost_ret (by simp [results, Try.results42, go_sem, *] <;> rfl) rfl ⟨by rw [E.out, HSY.out], (by repeat (first | (with_reducible assumption) | (with_reducible exact Below.refl _ _) | (with_reducible refine Below.alloc ?_ (by first | omega | (simp; omega) | (simp; done) | (dsimp only; omega)) _) | (with_reducible refine Below.setCell ?_ (by first | omega | (simp; omega) | (simp; done) | (dsimp only; omega)) _) | (with_reducible refine Below.drew ?_) | (with_reducible refine Below.trans ?_ (Below.mono (by assumption) (by first | omega | (simp; omega) | (simp; done) | (dsimp only; omega))))))⟩
              · have E := Lib.hid (HE6.out.trans (if_neg hlt))
                clear HE6
                go_wp2_with (go_at_call 57; (with_reducible refine (HI2.out _).mono ?_); rintro e w1 ⟨rfl, hb1⟩; obtain ⟨hc1, hf1⟩ := bcell hb1; have hz1 := hb1.size; (try simp at hz1); (try have hy1 := Nat.lt_of_succ_le hz1); (try have hv1 := Nat.lt_of_succ_lt hy1); (try have hw10 : w.heap.size < w1.heap.size := by omega); (try have hw11 : w.heap.size + 1 < w1.heap.size := by omega); (try have hw12 : w.heap.size + 1 + 1 < w1.heap.size := by omega); (try have hw13 : w.heap.size + 1 + 1 + 1 < w1.heap.size := by omega))
                refine bodyPost_ret (by simp [results, Try.results42, go_sem, *] <;> rfl) rfl ⟨by rw [E.out, HSX.out], (by repeat (first | (with_reducible assumption) | (with_reducible exact Below.refl _ _) | (with_reducible refine Below.alloc ?_ (by first | omega | (simp; omega) | (simp; done) | (dsimp only; omega)) _) | (with_reducible refine Below.setCell ?_ (by first | omega | (simp; omega) | (simp; done) | (dsimp only; omega)) _) | (with_reducible refine Below.drew ?_) | (with_reducible refine Below.trans ?_ (Below.mono (by assumption) (by first | omega | (simp; omega) | (simp; done) | (dsimp only; omega))))))⟩
end Go.Proofs.Ytbjdiaakhlgcgaa
