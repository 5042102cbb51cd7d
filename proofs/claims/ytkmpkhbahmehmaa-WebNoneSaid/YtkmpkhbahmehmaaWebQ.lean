/- X-PARTIAL The law WebNone, walked: layer 29. -/
import Derived.Test.YtkmpkhbahmehmaaWebV
namespace Go.Proofs.Ytkmpkhbahmehmaa
open Go.RowKit Go.Lib

set_option maxRecDepth 100000 in
set_option maxHeartbeats 8000000 in
theorem law_webNone (x y : Ky) (l : List Ky) (A : Option Addr) (c : Nat) (w : World) (hr : KRow w A l) (hm : l.length * 24 ≤ 140737488351232) :
    Calls Try.prog 6 #[.agg #[encStr x.n, .int .i64 x.d], .agg #[encStr y.n, .int .i64 y.d], .slice A l.length c] w fun e w' => e = .returned (.bool true) ∧ Below w.heap.size w w' := by
  have hml := rowR_len l
  have HNA := Lib.hid (nil_add x y)
  have HND := Lib.hid (nil_drop x)
  have HNC := Lib.hid nil_clear
  have HNO := Lib.hid (nil_on x)
  have HNF := Lib.hid (nil_of y)
  have HNB := Lib.hid (fun v (h : KRow v A l) => nil_below l A c v h (by omega))
  have HNV := Lib.hid (fun v (h : KRow v A l) => nil_above l A c v h (by omega))
  have HRR := Lib.hid (fun v (h : KRow v A l) => r26_Row l A c v h (by omega))
  have HKS := Lib.hid (fun X Y d e v (h : KRow v X (rowR l)) (h' : KRow v Y (rowR l)) => r23_Keys (rowR l) X Y d e v h h' (by omega))
  have HLV := Lib.hid law29_lives
  generalize rowR l = rl at *
  go_enter Try.func6, Try.ntmps6
  go_upto_region 2 with fail
  have hb0 : Below w.heap.size w ((w.alloc (.cells #[encStr x.n, .int .i64 x.d] 24)).alloc (.cells #[encStr y.n, .int .i64 y.d] 24)) := ((Below.refl _ w).alloc (Nat.le_refl _) _).alloc (by simp) _
  have ka := al2_0 w (.cells #[encStr x.n, .int .i64 x.d] 24) (.cells #[encStr y.n, .int .i64 y.d] 24)
  have kb := al2_1 w (.cells #[encStr x.n, .int .i64 x.d] 24) (.cells #[encStr y.n, .int .i64 y.d] 24)
  generalize (w.alloc (.cells #[encStr x.n, .int .i64 x.d] 24)).alloc (.cells #[encStr y.n, .int .i64 y.d] 24) = W0 at *
  have ca := blk_cell ka
  have cb := blk_cell kb
  go_wp2_with fail
  go_at_call 19
  refine (HNA.out _).mono ?_
  rintro e w1 ⟨rfl, hb1⟩
  have ka1 := (hb1.block _ (blk_lt ka)).trans ka
  have kb1 := (hb1.block _ (blk_lt kb)).trans kb
  have hB1 := hb0.trans (hb1.mono hb0.size)
  clear ca cb hb1 ka kb hb0 HNA
  have ca := blk_cell ka1
  have cb := blk_cell kb1
  go_wp2_with fail
  go_at_call 20
  refine (HND.out _).mono ?_
  rintro e w2 ⟨rfl, hb2⟩
  have ka2 := (hb2.block _ (blk_lt ka1)).trans ka1
  have kb2 := (hb2.block _ (blk_lt kb1)).trans kb1
  have hB2 := hB1.trans (hb2.mono hB1.size)
  clear ca cb hb2 ka1 kb1 hB1 HND
  go_wp2_with fail
  go_at_call 21
  refine (HNC.out _).mono ?_
  rintro e w3 ⟨rfl, hb3⟩
  have ka3 := (hb3.block _ (blk_lt ka2)).trans ka2
  have kb3 := (hb3.block _ (blk_lt kb2)).trans kb2
  have hB3 := hB2.trans (hb3.mono hB2.size)
  clear hb3 ka2 kb2 hB2 HNC
  have HB := hB3
  have HRA := Lib.hid hr
  clear hr hB3
  have ca := blk_cell ka3
  go_wp2_with fail
  go_at_call 10
  refine (HNO.out _).mono ?_
  rintro e w4 ⟨rfl, hb⟩
  have kb4 := (hb.block _ (blk_lt kb3)).trans kb3
  replace HB := HB.trans (hb.mono HB.size)
  clear hb
  clear ca ka3 kb3
  have cb := blk_cell kb4
  go_wp2_with fail
  go_at_call 12
  refine (HNF.out _).mono ?_
  rintro e w5 ⟨rfl, hb⟩
  replace HB := HB.trans (hb.mono HB.size)
  clear hb
  clear cb kb4
  go_wp2_with fail
  go_at_call 15
  refine (HNB.out _ (HRA.out.mono HB)).mono ?_
  rintro e w6 ⟨⟨g4, n4, N4, rfl, ho⟩, hb⟩
  replace HB := HB.trans (hb.mono HB.size)
  clear hb
  have hn := ho.1
  subst hn
  have HX := Lib.hid ho.krow
  clear ho
  go_wp2_with fail
  go_at_call 22
  refine (HRR.out _ (HRA.out.mono HB)).mono ?_
  rintro e w7 ⟨⟨A5, c5, rfl, hr5⟩, hb⟩
  have HX2 := Lib.hid (HX.out.mono hb)
  have HY := Lib.hid hr5
  clear hr5 HX
  replace HB := HB.trans (hb.mono HB.size)
  clear hb
  go_wp2_with fail
  go_at_call 9
  refine (HKS.out _ _ _ _ _ HX2.out HY.out).mono ?_
  rintro e w8 ⟨rfl, hb⟩
  replace HB := HB.trans (hb.mono HB.size)
  clear hb
  clear HX2 HY
  go_wp2_with fail
  go_at_call 17
  refine (HNV.out _ (HRA.out.mono HB)).mono ?_
  rintro e w9 ⟨⟨g4, n4, N4, rfl, ho⟩, hb⟩
  replace HB := HB.trans (hb.mono HB.size)
  clear hb
  have hn := ho.1
  subst hn
  have HX := Lib.hid ho.krow
  clear ho
  go_wp2_with fail
  go_at_call 22
  refine (HRR.out _ (HRA.out.mono HB)).mono ?_
  rintro e w10 ⟨⟨A5, c5, rfl, hr5⟩, hb⟩
  have HX2 := Lib.hid (HX.out.mono hb)
  have HY := Lib.hid hr5
  clear hr5 HX
  replace HB := HB.trans (hb.mono HB.size)
  clear hb
  go_wp2_with fail
  go_at_call 9
  refine (HKS.out _ _ _ _ _ HX2.out HY.out).mono ?_
  rintro e w11 ⟨rfl, hb⟩
  replace HB := HB.trans (hb.mono HB.size)
  clear hb
  clear HX2 HY
  go_wp2_with fail
  go_at_call 14
  refine (HLV.out _).mono ?_
  rintro e w12 ⟨rfl, hb⟩
  replace HB := HB.trans (hb.mono HB.size)
  clear hb
  go_wp2_with fail
  go_ret
  exact ⟨rfl, HB⟩
end Go.Proofs.Ytkmpkhbahmehmaa
