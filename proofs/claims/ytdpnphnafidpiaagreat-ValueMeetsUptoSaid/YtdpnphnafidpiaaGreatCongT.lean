/- X-PARTIAL What sondageref05.Apart, Join return: layer 5. -/
import Derived.Test.YtdpnphnafidpiaaGreatCongI
import Derived.Test.YtdpnphnafidpiaaGreatRefZ
namespace Go.Proofs.YtdpnphnafidpiaaGreat
open Go.RowKit

theorem gcdI_assoc (x y z : Int) : gcdI (gcdI x y) z = gcdI x (gcdI y z) := by
  unfold gcdI
  rw [Int.toNat_natCast, Int.toNat_natCast, Nat.gcd_assoc]

set_option maxRecDepth 100000 in
set_option maxHeartbeats 2000000 in
theorem r5_apart (a b : Int) (ha : I64 a) (hb : I64 b) (w : World) :
    Calls Tryz.prog 101 #[.int .i64 a, .int .i64 b] w fun e w' => e = .returned (.int .u64 (apI a b)) ∧ Below w.heap.size w w' := by
  have key : ∀ x y : Int, I64 x → I64 y → y ≤ x → ∀ w, Calls Tryz.prog 110 #[.agg #[.int .i64 (hiW x), .int .u64 (loW x)], .agg #[.int .i64 (hiW y), .int .u64 (loW y)]] w fun e w' => e = .returned (.agg #[.int .i64 (hiW (x - y)), .int .u64 (x - y)]) ∧ Below w.heap.size w w' := by
    intro x y hx hy hle w
    have h := r_sub (hiW x) (loW x) (hiW y) (loW y) (U64.lo _) (U64.lo _) w
    unfold I64 at hx hy
    rw [wv_hilo, wv_hilo, wrap128_id (by unfold I128; omega)] at h
    have e : loW (x - y) = x - y := by unfold loW M64; omega
    rw [e] at h
    exact h
  have OA := Lib.hid (r_of a ha)
  have OB := Lib.hid (r_of b hb)
  have hfd : ∀ (h l : Int) (w : World), (Instr.field 47 (.agg #[.int .i64 h, .int .u64 l]) 1).run Tryz.prog w = .ok (.int .u64 l) w := fun h l w => by kernel_rfl
  by_cases h : a < b
  · have HS := Lib.hid (key b a hb ha (by omega))
    rw [show apI a b = b - a from if_neg (by omega)]
    generalize b - a = d at *
    clear key
    have h2 : ¬ b ≤ a := by omega
    go_enter Tryz.func101, Tryz.ntmps101
    go_wp2_with (first | (go_at_call 55; (with_reducible refine (OA.out _).mono ?_); rintro e w1 ⟨rfl, hb1⟩; obtain ⟨hc1, hf1⟩ := bcell hb1; have hz1 := hb1.size; (try simp at hz1); (try have hy1 := Nat.lt_of_succ_le hz1); (try have hv1 := Nat.lt_of_succ_lt hy1); (try have hw10 : w.heap.size < w1.heap.size := by omega); (try have hw11 : w.heap.size + 1 < w1.heap.size := by omega); (try have hw12 : w.heap.size + 1 + 1 < w1.heap.size := by omega); (try have hw13 : w.heap.size + 1 + 1 + 1 < w1.heap.size := by omega)) | (go_at_call 55; (with_reducible refine (OB.out _).mono ?_); rintro e w1 ⟨rfl, hb1⟩; obtain ⟨hc1, hf1⟩ := bcell hb1; have hz1 := hb1.size; (try simp at hz1); (try have hy1 := Nat.lt_of_succ_le hz1); (try have hv1 := Nat.lt_of_succ_lt hy1); (try have hw10 : w.heap.size < w1.heap.size := by omega); (try have hw11 : w.heap.size + 1 < w1.heap.size := by omega); (try have hw12 : w.heap.size + 1 + 1 < w1.heap.size := by omega); (try have hw13 : w.heap.size + 1 + 1 + 1 < w1.heap.size := by omega)) | (go_at_call 110; (with_reducible refine (HS.out _).mono ?_); rintro e w1 ⟨rfl, hb1⟩; obtain ⟨hc1, hf1⟩ := bcell hb1; have hz1 := hb1.size; (try simp at hz1); (try have hy1 := Nat.lt_of_succ_le hz1); (try have hv1 := Nat.lt_of_succ_lt hy1); (try have hw10 : w.heap.size < w1.heap.size := by omega); (try have hw11 : w.heap.size + 1 < w1.heap.size := by omega); (try have hw12 : w.heap.size + 1 + 1 < w1.heap.size := by omega); (try have hw13 : w.heap.size + 1 + 1 + 1 < w1.heap.size := by omega)))
    go_ret
    exact ⟨rfl, (by repeat (first | (with_reducible assumption) | (with_reducible exact Below.refl _ _) | (with_reducible refine Below.alloc ?_ (by first | omega | (simp; omega) | (simp; done) | (dsimp only; omega)) _) | (with_reducible refine Below.setCell ?_ (by first | omega | (simp; omega) | (simp; done) | (dsimp only; omega)) _) | (with_reducible refine Below.drew ?_) | (with_reducible refine Below.trans ?_ (Below.mono (by assumption) (by first | omega | (simp; omega) | (simp; done) | (dsimp only; omega))))))⟩
  · have HS := Lib.hid (key a b ha hb (by omega))
    have e : apI a b = a - b := by unfold apI; split <;> omega
    rw [e]
    clear e
    generalize a - b = d at *
    clear key
    have h2 : b ≤ a := by omega
    go_enter Tryz.func101, Tryz.ntmps101
    go_wp2_with (first | (go_at_call 55; (with_reducible refine (OA.out _).mono ?_); rintro e w1 ⟨rfl, hb1⟩; obtain ⟨hc1, hf1⟩ := bcell hb1; have hz1 := hb1.size; (try simp at hz1); (try have hy1 := Nat.lt_of_succ_le hz1); (try have hv1 := Nat.lt_of_succ_lt hy1); (try have hw10 : w.heap.size < w1.heap.size := by omega); (try have hw11 : w.heap.size + 1 < w1.heap.size := by omega); (try have hw12 : w.heap.size + 1 + 1 < w1.heap.size := by omega); (try have hw13 : w.heap.size + 1 + 1 + 1 < w1.heap.size := by omega)) | (go_at_call 55; (with_reducible refine (OB.out _).mono ?_); rintro e w1 ⟨rfl, hb1⟩; obtain ⟨hc1, hf1⟩ := bcell hb1; have hz1 := hb1.size; (try simp at hz1); (try have hy1 := Nat.lt_of_succ_le hz1); (try have hv1 := Nat.lt_of_succ_lt hy1); (try have hw10 : w.heap.size < w1.heap.size := by omega); (try have hw11 : w.heap.size + 1 < w1.heap.size := by omega); (try have hw12 : w.heap.size + 1 + 1 < w1.heap.size := by omega); (try have hw13 : w.heap.size + 1 + 1 + 1 < w1.heap.size := by omega)) | (go_at_call 110; (with_reducible refine (HS.out _).mono ?_); rintro e w1 ⟨rfl, hb1⟩; obtain ⟨hc1, hf1⟩ := bcell hb1; have hz1 := hb1.size; (try simp at hz1); (try have hy1 := Nat.lt_of_succ_le hz1); (try have hv1 := Nat.lt_of_succ_lt hy1); (try have hw10 : w.heap.size < w1.heap.size := by omega); (try have hw11 : w.heap.size + 1 < w1.heap.size := by omega); (try have hw12 : w.heap.size + 1 + 1 < w1.heap.size := by omega); (try have hw13 : w.heap.size + 1 + 1 + 1 < w1.heap.size := by omega)))
    go_ret
    exact ⟨rfl, (by repeat (first | (with_reducible assumption) | (with_reducible exact Below.refl _ _) | (with_reducible refine Below.alloc ?_ (by first | omega | (simp; omega) | (simp; done) | (dsimp only; omega)) _) | (with_reducible refine Below.setCell ?_ (by first | omega | (simp; omega) | (simp; done) | (dsimp only; omega)) _) | (with_reducible refine Below.drew ?_) | (with_reducible refine Below.trans ?_ (Below.mono (by assumption) (by first | omega | (simp; omega) | (simp; done) | (dsimp only; omega))))))⟩

set_option maxRecDepth 100000 in
set_option maxHeartbeats 2000000 in
theorem r5_join (a b : Cg) (ha : a.ok) (hb : b.ok) (w : World) :
    Calls Tryz.prog 73 #[.agg #[.bool a.s, .int .i64 a.m, .int .i64 a.r], .agg #[.bool b.s, .int .i64 b.m, .int .i64 b.r]] w fun e w' => e = .returned (.agg #[.bool (a.join b).s, .int .i64 (a.join b).m, .int .i64 (a.join b).r]) ∧ Below w.heap.size w w' := by
  have HA := Lib.hid (r5_clean a ha.1)
  have HB := Lib.hid (r5_clean b hb.1)
  have oa := Cg.clean_ok ha
  have ob := Cg.clean_ok hb
  have e : a.join b = Cg.joinC a.clean b.clean := rfl
  rw [e]; clear e
  generalize a.clean = x at *
  generalize b.clean = y at *
  have e1 : x.s = false → Cg.joinC x y = y := fun h => if_pos h
  have e2 : x.s = true → y.s = false → Cg.joinC x y = x := fun h h' => by unfold Cg.joinC; rw [if_neg (by rw [h]; decide), if_pos h']
  have e3 : x.s = true → y.s = true → Cg.joinC x y = if 9223372036854775807 < gcdI (gcdI x.m y.m) (apI x.r y.r) then Cg.of 1 0 else Cg.of (gcdI (gcdI x.m y.m) (apI x.r y.r)) x.r := fun h h' => by
    unfold Cg.joinC; rw [if_neg (by rw [h]; decide), if_neg (by rw [h']; decide)]
  have start : ∀ Q : World → Prop, (∀ X : World, X.heap[w.heap.size]? = some (.cells #[.bool x.s, .int .i64 x.m, .int .i64 x.r] 25) → Q X) → True := fun _ _ => trivial
  clear start
  go_enter Tryz.func73, Tryz.ntmps73
  go_upto_region 1 with fail
  have hh0 := al3_0 w (.cells #[.bool a.s, .int .i64 a.m, .int .i64 a.r] 25) (.cells #[.bool b.s, .int .i64 b.m, .int .i64 b.r] 25) (.cells #[.bool false, .int .i64 0, .int .i64 0] 25)
  have hh1 := al3_1 w (.cells #[.bool a.s, .int .i64 a.m, .int .i64 a.r] 25) (.cells #[.bool b.s, .int .i64 b.m, .int .i64 b.r] 25) (.cells #[.bool false, .int .i64 0, .int .i64 0] 25)
  have hh2 := al3_2 w (.cells #[.bool a.s, .int .i64 a.m, .int .i64 a.r] 25) (.cells #[.bool b.s, .int .i64 b.m, .int .i64 b.r] 25) (.cells #[.bool false, .int .i64 0, .int .i64 0] 25)
  generalize hW : ((w.alloc (.cells #[.bool a.s, .int .i64 a.m, .int .i64 a.r] 25)).alloc (.cells #[.bool b.s, .int .i64 b.m, .int .i64 b.r] 25)).alloc (.cells #[.bool false, .int .i64 0, .int .i64 0] 25) = W at *
  have HW : Below w.heap.size w W := by rw [← hW]; exact (by repeat (first | (with_reducible assumption) | (with_reducible exact Below.refl _ _) | (with_reducible refine Below.alloc ?_ (by first | omega | (simp; omega) | (simp; done) | (dsimp only; omega)) _) | (with_reducible refine Below.setCell ?_ (by first | omega | (simp; omega) | (simp; done) | (dsimp only; omega)) _) | (with_reducible refine Below.drew ?_) | (with_reducible refine Below.trans ?_ (Below.mono (by assumption) (by first | omega | (simp; omega) | (simp; done) | (dsimp only; omega))))))
  clear hW
  have q0_0 := blk_cell hh0 0
  have q0_1 := blk_cell hh0 1
  have q0_2 := blk_cell hh0 2
  have q1_0 := blk_cell hh1 0
  have q1_1 := blk_cell hh1 1
  have q1_2 := blk_cell hh1 2
  simp only [List.getElem?_toArray, List.getElem?_cons_zero, List.getElem?_cons_succ] at q0_0 q0_1 q0_2 q1_0 q1_1 q1_2
  have z0 := blk_lt hh0
  have z1 := blk_lt hh1
  have z2 := blk_lt hh2
  have f0 := blk_free hh0
  have f1 := blk_free hh1
  have K0 := Lib.hid hh0; have K1 := Lib.hid hh1; have K2 := Lib.hid hh2; clear hh0 hh1 hh2
  refine region_seqg (W := W) [_, _, _, _] [_, _] rfl (by kernel_rfl) (by kernel_rfl) (by repeat (first | (with_reducible assumption) | (with_reducible exact Below.refl _ _) | (with_reducible refine Below.alloc ?_ (by first | omega | (simp; omega) | (simp; done) | (dsimp only; omega)) _) | (with_reducible refine Below.setCell ?_ (by first | omega | (simp; omega) | (simp; done) | (dsimp only; omega)) _) | (with_reducible refine Below.drew ?_) | (with_reducible refine Below.trans ?_ (Below.mono (by assumption) (by first | omega | (simp; omega) | (simp; done) | (dsimp only; omega)))))) (fun fin hfin => ?_)
  iterate 4
    first
      | (refine SeqG.yes (v := ?_) (A' := ?_) rfl (fun γ => by rfl) ?_ ?_ ?_
         rotate_left 2
         · intro γ w' K hS hK
           obtain ⟨hc, hf⟩ := bcell hS
           have hz := hS.size
           go_simp
           first
             | exact hK.out _ (Below.refl _ _)
             | (go_at_call 18; (with_reducible refine (HA.out _).mono ?_); rintro e w1 ⟨rfl, hb1⟩; exact hK.out _ hb1)
             | (go_at_call 18; (with_reducible refine (HB.out _).mono ?_); rintro e w1 ⟨rfl, hb1⟩; exact hK.out _ hb1)
             | trace_state
         · intro γ; simp only [Act.put, List.setIfInBounds_toArray, List.set_cons_zero, List.set_cons_succ]; exact rfl)
      | (refine SeqG.no (A' := ?_) rfl (fun γ => by rfl) ?_ ?_
         rotate_left
         · intro γ; simp only [Act.put, List.setIfInBounds_toArray, List.set_cons_zero, List.set_cons_succ]; exact rfl)
  refine SeqG.nil (hfin.out _ _ ?_)
  clear hfin fin
  intro γ lo hi w1 hB1 hF hD
  clear hD
  obtain ⟨hc, hf⟩ := bcell hB1
  have hz := hB1.size
  refine TailL.cons (fun K hK => ?_)
  go_simp
  refine hK.out _ _ ?_
  clear hK K
  refine TailL.cons (fun K hK => ?_)
  go_simp
  refine hK.out _ _ ?_
  clear hK K
  refine TailL.nil ?_
  generalize hX : (((((w1.setCell ⟨w.heap.size, 0, none⟩ (.bool x.s)).setCell ⟨w.heap.size, 1, none⟩ (.int .i64 x.m)).setCell ⟨w.heap.size, 2, none⟩ (.int .i64 x.r)).setCell ⟨w.heap.size + 1, 0, none⟩ (.bool y.s)).setCell ⟨w.heap.size + 1, 1, none⟩ (.int .i64 y.m)).setCell ⟨w.heap.size + 1, 2, none⟩ (.int .i64 y.r) = X
  have HX : Below w.heap.size w X := by rw [← hX]; exact (by repeat (first | (with_reducible assumption) | (with_reducible exact Below.refl _ _) | (with_reducible refine Below.alloc ?_ (by first | omega | (simp; omega) | (simp; done) | (dsimp only; omega)) _) | (with_reducible refine Below.setCell ?_ (by first | omega | (simp; omega) | (simp; done) | (dsimp only; omega)) _) | (with_reducible refine Below.drew ?_) | (with_reducible refine Below.trans ?_ (Below.mono (by assumption) (by first | omega | (simp; omega) | (simp; done) | (dsimp only; omega))))))
  have p0 : X.heap[w.heap.size]? = some (.cells #[.bool x.s, .int .i64 x.m, .int .i64 x.r] 25) := by
    rw [← hX]
    iterate 3 (refine (Below.heap_setCell _ _ _ _ (by dsimp only; omega)).trans ?_)
    refine blk_set3 (c0 := .bool a.s) (c1 := .int .i64 a.m) (c2 := .int .i64 a.r) ?_
    rw [hB1.block _ z0]; exact K0.out
  have p1 : X.heap[w.heap.size + 1]? = some (.cells #[.bool y.s, .int .i64 y.m, .int .i64 y.r] 25) := by
    rw [← hX]
    refine blk_set3 (c0 := .bool b.s) (c1 := .int .i64 b.m) (c2 := .int .i64 b.r) ?_
    iterate 3 (refine (Below.heap_setCell _ _ _ _ (by dsimp only; omega)).trans ?_)
    rw [hB1.block _ z1]; exact K1.out
  have p2 : X.heap[w.heap.size + 1 + 1]? = some (.cells #[.bool false, .int .i64 0, .int .i64 0] 25) := by
    rw [← hX]
    iterate 6 (refine (Below.heap_setCell _ _ _ _ (by dsimp only; omega)).trans ?_)
    rw [hB1.block _ z2]; exact K2.out
  clear hX hc hf hz K0 K1 K2 q0_0 q0_1 q0_2 q1_0 q1_1 q1_2 z0 z1 z2 f0 f1 hB1 HW
  have q0_0 := blk_cell p0 0
  have q0_1 := blk_cell p0 1
  have q0_2 := blk_cell p0 2
  have q1_0 := blk_cell p1 0
  have q1_1 := blk_cell p1 1
  have q1_2 := blk_cell p1 2
  have q2_0 := blk_cell p2 0
  have q2_1 := blk_cell p2 1
  have q2_2 := blk_cell p2 2
  simp only [List.getElem?_toArray, List.getElem?_cons_zero, List.getElem?_cons_succ] at q0_0 q0_1 q0_2 q1_0 q1_1 q1_2 q2_0 q2_1 q2_2
  have z0 := blk_lt p0
  have z1 := blk_lt p1
  have z2 := blk_lt p2
  have f2 := blk_free p2
  clear p0 p1 p2
  have hdr : ∀ w : World, w.drew.heap.size = w.heap.size := fun _ => rfl
  cases hs : x.s
  · have E := Lib.hid (e1 hs); clear e1 e2 e3
    rw [hs] at q0_0
    go_wp2
    refine bodyPost_ret (by simp [results, Tryz.results73, go_sem, *] <;> rfl) rfl ⟨by rw [E.out], (by repeat (first | (with_reducible assumption) | (with_reducible exact Below.refl _ _) | (with_reducible refine Below.alloc ?_ (by first | omega | (simp; omega) | (simp; done) | (dsimp only; omega)) _) | (with_reducible refine Below.setCell ?_ (by first | omega | (simp; omega) | (simp; done) | (dsimp only; omega)) _) | (with_reducible refine Below.drew ?_) | (with_reducible refine Below.trans ?_ (Below.mono (by assumption) (by first | omega | (simp; omega) | (simp; done) | (dsimp only; omega))))))⟩
  · cases hs' : y.s
    · have E := Lib.hid (e2 hs hs'); clear e1 e2 e3
      rw [hs] at q0_0
      rw [hs'] at q1_0
      go_wp2
      refine bodyPost_ret (by simp [results, Tryz.results73, go_sem, *] <;> rfl) rfl ⟨by rw [E.out, hs], (by repeat (first | (with_reducible assumption) | (with_reducible exact Below.refl _ _) | (with_reducible refine Below.alloc ?_ (by first | omega | (simp; omega) | (simp; done) | (dsimp only; omega)) _) | (with_reducible refine Below.setCell ?_ (by first | omega | (simp; omega) | (simp; done) | (dsimp only; omega)) _) | (with_reducible refine Below.drew ?_) | (with_reducible refine Below.trans ?_ (Below.mono (by assumption) (by first | omega | (simp; omega) | (simp; done) | (dsimp only; omega))))))⟩
    · have E := Lib.hid (e3 hs hs'); clear e1 e2 e3
      rw [hs] at q0_0
      rw [hs'] at q1_0
      clear hs hs'
      have m1 := oa.2; have m2 := ob.2
      have m3 := oa.1.1; have m4 := ob.1.1
      have m5 := oa.1.2; have m6 := ob.1.2
      have hp : U64 (apI x.r y.r) := by unfold I64 at m5 m6; unfold U64 M64 apI; split <;> omega
      have hg0 := gcdI_nonneg x.m y.m
      have hg1 := gcdI_lt (b := 9223372036854775808) m1 m2 (by unfold I64 at m3; omega) (by unfold I64 at m4; omega)
      have hq0 := gcdI_nonneg y.m (apI x.r y.r)
      have hp0 := apI_nonneg x.r y.r
      have hq1 := gcdI_lt (b := 18446744073709551616) m2 hp0 (by unfold I64 at m4; omega) (by unfold U64 M64 at hp; omega)
      have G2 := Lib.hid (r5_apart x.r y.r m5 m6)
      have G1 := Lib.hid (r5_gcd' y.m (apI x.r y.r) (by unfold I64 at m4; unfold U64 M64; omega) hp)
      have G3 := Lib.hid (r5_gcd' x.m (gcdI y.m (apI x.r y.r)) (by unfold I64 at m3; unfold U64 M64; omega) (by unfold U64 M64; omega))
      have u1 : IntKind.u64.wrap x.m = x.m := by unfold I64 at m3; rw [wrapu]; omega
      have u2 : IntKind.u64.wrap y.m = y.m := by unfold I64 at m4; rw [wrapu]; omega
      have hh0 := gcdI_nonneg (gcdI x.m y.m) (apI x.r y.r)
      have ega := gcdI_assoc x.m y.m (apI x.r y.r)
      have HO : Hid (∀ g : Int, I64 g → ∀ w, Calls Tryz.prog 18 #[.agg #[.bool true, .int .i64 g, .int .i64 x.r]] w fun e w' => e = .returned (.agg #[.bool (Cg.of g x.r).s, .int .i64 (Cg.of g x.r).m, .int .i64 (Cg.of g x.r).r]) ∧ Below w.heap.size w w') := Lib.hid (fun g hg w => r5_clean ⟨true, g, x.r⟩ hg w)
      rw [← ega] at G3
      clear ega
      generalize gcdI (gcdI x.m y.m) (apI x.r y.r) = k at *
      generalize gcdI y.m (apI x.r y.r) = g at *
      generalize apI x.r y.r = d at *
      clear oa ob ha hb HA HB m3 m4 m5 m6 hg0 hg1 hp hp0 hq0 hq1
      go_wp2
      refine region_seq (S := fun w' => Below X.heap.size X w') rfl (by kernel_rfl) (by kernel_rfl) (by repeat (first | (with_reducible assumption) | (with_reducible exact Below.refl _ _) | (with_reducible refine Below.alloc ?_ (by first | omega | (simp; omega) | (simp; done) | (dsimp only; omega)) _) | (with_reducible refine Below.setCell ?_ (by first | omega | (simp; omega) | (simp; done) | (dsimp only; omega)) _) | (with_reducible refine Below.drew ?_) | (with_reducible refine Below.trans ?_ (Below.mono (by assumption) (by first | omega | (simp; omega) | (simp; done) | (dsimp only; omega)))))) (fun fin hfin => ?_)
      iterate 14
        first
          | (refine SeqL.yes (v := ?_) (A' := ?_) rfl (by rfl) ?_ ?_ ?_
             rotate_left 2
             · intro w' K hS hK
               obtain ⟨hc, hf⟩ := bcell hS
               have hz := hS.size
               go_simp
               first
                 | exact hK.out _ hS
                 | (go_at_call 21; (with_reducible refine (G1.out _).mono ?_); rintro e w1 ⟨rfl, hb1⟩; exact hK.out _ (hS.trans (hb1.mono hz)))
                 | (go_at_call 101; (with_reducible refine (G2.out _).mono ?_); rintro e w1 ⟨rfl, hb1⟩; exact hK.out _ (hS.trans (hb1.mono hz)))
                 | (go_at_call 21; (with_reducible refine (G3.out _).mono ?_); rintro e w1 ⟨rfl, hb1⟩; exact hK.out _ (hS.trans (hb1.mono hz)))
                 | trace_state
             · simp only [Act.put, List.setIfInBounds_toArray, List.set_cons_zero, List.set_cons_succ]; exact rfl)
          | (refine SeqL.no (A' := ?_) rfl (by rfl) ?_ ?_
             rotate_left
             · simp only [Act.put, List.setIfInBounds_toArray, List.set_cons_zero, List.set_cons_succ]; exact rfl)
      refine SeqL.nil (hfin.out _ ?_)
      clear hfin fin
      intro w1 hS1
      obtain ⟨hc, hf⟩ := bcell hS1
      have hz := hS1.size
      have v2 : w.heap.size + 1 + 1 < w1.heap.size := by omega
      have v0 : w.heap.size < w1.heap.size := by omega
      by_cases hk : 9223372036854775807 < k
      · go_wp2
        refine bodyPost_ret (by simp [results, Tryz.results73, go_sem, *] <;> rfl) rfl ⟨by rw [E.out, if_pos hk, Cg.of_pos 0 (by omega)]; rfl, (by repeat (first | (with_reducible assumption) | (with_reducible exact Below.refl _ _) | (with_reducible refine Below.alloc ?_ (by first | omega | (simp; omega) | (simp; done) | (dsimp only; omega)) _) | (with_reducible refine Below.setCell ?_ (by first | omega | (simp; omega) | (simp; done) | (dsimp only; omega)) _) | (with_reducible refine Below.drew ?_) | (with_reducible refine Below.trans ?_ (Below.mono (by assumption) (by first | omega | (simp; omega) | (simp; done) | (dsimp only; omega))))))⟩
      · have HO2 := Lib.hid (HO.out k (by unfold I64; omega))
        have hw : wrap64 k = k := by unfold wrap64; omega
        go_wp2_with (go_at_call 18; (with_reducible refine (HO2.out _).mono ?_); rintro e w1 ⟨rfl, hb1⟩; obtain ⟨hc1, hf1⟩ := bcell hb1; have hz1 := hb1.size; (try simp at hz1); (try have hy1 := Nat.lt_of_succ_le hz1); (try have hv1 := Nat.lt_of_succ_lt hy1); (try have hw10 : w.heap.size < w1.heap.size := by omega); (try have hw11 : w.heap.size + 1 < w1.heap.size := by omega); (try have hw12 : w.heap.size + 1 + 1 < w1.heap.size := by omega); (try have hw13 : w.heap.size + 1 + 1 + 1 < w1.heap.size := by omega))
        refine bodyPost_ret (by simp [results, Tryz.results73, go_sem, *] <;> rfl) rfl ⟨by rw [E.out, if_neg (by omega)], (by repeat (first | (with_reducible assumption) | (with_reducible exact Below.refl _ _) | (with_reducible refine Below.alloc ?_ (by first | omega | (simp; omega) | (simp; done) | (dsimp only; omega)) _) | (with_reducible refine Below.setCell ?_ (by first | omega | (simp; omega) | (simp; done) | (dsimp only; omega)) _) | (with_reducible refine Below.drew ?_) | (with_reducible refine Below.trans ?_ (Below.mono (by assumption) (by first | omega | (simp; omega) | (simp; done) | (dsimp only; omega))))))⟩
end Go.Proofs.YtdpnphnafidpiaaGreat
