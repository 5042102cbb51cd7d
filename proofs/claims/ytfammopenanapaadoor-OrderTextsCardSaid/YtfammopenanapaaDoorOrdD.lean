/- X-PARTIAL strings.Split at a blank, walked: layer 37. -/
import Derived.Test.YtfammopenanapaaDoorOrdC
import Derived.Test.YtfammopenanapaaDoorGrow
namespace Go.Proofs.YtfammopenanapaaDoor
open Go.RowKit Go.Lib

set_option maxRecDepth 1000000 in
set_option maxHeartbeats 4000000 in
theorem strings_genSplitB (s : Str) (w : World) (hm : s.length < 9223372036854775807) (hN : (splitB s).length ≤ 17592186044416) :
    Calls Tryd.prog 32 #[encStr s, encStr [32], .int .i64 0, .int .i64 (-1)] w fun e w' => (∃ g c : Nat, e = .returned (.slice (some ⟨g, 0, none⟩) (splitB s).length c) ∧ SRow w' (some ⟨g, 0, none⟩) (splitB s)) ∧ Below w.heap.size w w' := by
  have hlen := splitB_len s
  have hcl : s.count 32 ≤ s.length := List.count_le_length
  have HC := Lib.hid (strings_CountB s w)
  obtain ⟨q, hq⟩ : ∃ q, s.count 32 = q := ⟨_, rfl⟩
  rw [hq] at HC hcl hlen
  have hmk := run_make_row' (P := Tryd.prog) 42 9 (.string ⟨#[]⟩) 16 Tryd.underlying42 (by kernel_rfl) rfl .i64 .i64 (q + 1) (by omega) (by omega)
  rw [show ((q + 1 : Nat) : Int) = (q : Int) + 1 by omega] at hmk
  have i0 : (q : Int) ≤ 9223372036854775806 := by omega
  have i00 : (0 : Int) ≤ (q : Int) := by omega
  have i4 : (s.length : Int) ≤ 9223372036854775806 := by omega
  have i1 : (q : Int) + 1 ≤ (s.length : Int) + 1 := by omega
  have i2 : (q : Int) ≤ (s.length : Int) := by omega
  go_enter Tryd.func32, Tryd.ntmps32
  go_wp2_with fail
  go_at_call 40
  refine HC.out.mono ?_
  rintro e w1 ⟨rfl, rfl⟩
  clear HC
  go_wp2_with fail
  rw [show min (q : Int) (s.length : Int) = q from Int.min_eq_left i2, hmk]
  simp only [Result.andThen]
  rw [Oper.upon_value]
  go_wp2_with fail
  go_loopw [0, 10, 11] (fun v0 v10 _ wr => ∃ (k : Nat) (r : Str), k ≤ q ∧ v0 = encStr r ∧ v10 = .int .i64 k ∧ r.length ≤ s.length ∧ (splitB s).drop k = splitB r ∧ Below w1.heap.size w1 wr ∧ wr.ownsRow w1.heap.size 9 1 (.slice (some ⟨w1.heap.size, 0, none⟩) (q + 1) (q + 1)) (q + 1) (textsS (splitB s) k)) (fun _ v10 _ _ => q - (RowKit.intOf v10).toNat)
  case atStart =>
    refine ⟨0, s, Nat.zero_le _, rfl, rfl, Nat.le_refl _, rfl, ?_, ?_⟩
    · exact (Below.refl _ w1).alloc (Nat.le_refl _) _
    · rw [textsS_zero, hlen, ← toList_madeCells_one]
      exact World.ownsRow_lit w1 _ (q + 1) (Nat.le_refl _) (by unfold maxLen; omega) (by rw [size_madeCells, Nat.mul_one])
  case round =>
    obtain ⟨k, r, hk, rfl, rfl, hr, hd, hB, hown⟩ := hrel
    have HB := Lib.hid hB
    have HOW := Lib.hid hown
    have hgb : w1.heap.size < wr.heap.size := (hown.lt _ rfl).2
    have d0 := hown.cellAt k (by omega)
    rw [textsS_old _ (by omega)] at d0
    have df := hown.frozenAt k
    by_cases hlt : k < q
    · have ik : (k : Int) < q := by omega
      obtain ⟨hn, hg, hd'⟩ := drop_some hd (by omega)
      have H := strings_IndexBl r wr
      rw [blank_is, if_neg hn] at H
      have HI := Lib.hid H
      have hle := aheadB_len r
      have hble := behindB_len r
      have ex1 : (⟨r.toArray⟩ : ByteArray).extract 0 (aheadB r).length = ⟨(aheadB r).toArray⟩ := by
        rw [ByteArray.extract_mk, Nat.sub_zero, List.drop_zero, aheadB_take]
      have ex2 : (⟨r.toArray⟩ : ByteArray).extract ((aheadB r).length + 1) r.length = ⟨(behindB r).toArray⟩ := by
        unfold behindB
        rw [ByteArray.extract_mk, List.take_of_length_le (by rw [List.length_drop]; omega)]
      have HN := Lib.hid (textsS_next _ hg)
      have HD := Lib.hid hd'
      have HL := Lib.hid (show (behindB r).length ≤ s.length by omega)
      have j1 : ((aheadB r).length : Int) < r.length := by omega
      clear H hg hd' hd hown hB hmk hble
      generalize (aheadB r).length = i at *
      generalize aheadB r = a at *
      generalize behindB r = b at *
      have j0 : ¬ (i : Int) < 0 := by omega
      have j2 : (0 : Int) ≤ i := by omega
      have j3 : (i : Int) + 1 ≤ r.length := by omega
      have j4 : (0 : Int) ≤ (i : Int) + 1 := by omega
      have j5 : (i : Int) ≤ r.length := by omega
      go_wp2_with fail
      go_at_call 41
      refine HI.out.mono ?_
      rintro e w2 ⟨rfl, hw⟩
      subst hw
      clear HI
      go_wp2_with fail
      go_roundw
      case rel =>
        refine ⟨k + 1, b, by omega, rfl, by go_num, HL.out, HD.out, ?_, ?_⟩
        · exact HB.out.setCell (Nat.le_refl _) _
        · have h1 := (HOW.out.stored k (encStr a)).1
          rw [HN.out] at h1
          exact h1
      case measure => simp [RowKit.intOf]; omega
    · have ik : ¬ (k : Int) < q := by omega
      have e : k = q := by omega
      subst e
      have HN := Lib.hid (textsS_next _ (drop_none hd (by omega)))
      clear hd hown hB hmk
      go_wp2_with fail
      go_ret
      refine ⟨⟨w1.heap.size, ⟨k + 1, rfl⟩, ?_⟩, ?_⟩
      · have h1 := (HOW.out.stored k (encStr r)).1
        rw [HN.out, ← hlen, textsS_all] at h1
        exact own_SRow h1
      · exact HB.out.setCell (Nat.le_refl _) _

set_option maxRecDepth 1000000 in
theorem strings_SplitB (s : Str) (w : World) (hm : s.length < 9223372036854775807) (hN : (splitB s).length ≤ 17592186044416) :
    Calls Tryd.prog 16 #[encStr s, encStr [32]] w fun e w' => (∃ g c : Nat, e = .returned (.slice (some ⟨g, 0, none⟩) (splitB s).length c) ∧ SRow w' (some ⟨g, 0, none⟩) (splitB s)) ∧ Below w.heap.size w w' := by
  have HH := Lib.hid (strings_genSplitB s w hm hN)
  go_enter Tryd.func16, Tryd.ntmps16
  go_wp2_with fail
  go_at_call 32
  refine HH.out.mono ?_
  rintro e w1 ⟨⟨g, c, rfl, hr⟩, hb⟩
  go_wp2_with fail
  go_ret
  exact ⟨⟨g, c, rfl, hr⟩, hb⟩
end Go.Proofs.YtfammopenanapaaDoor
