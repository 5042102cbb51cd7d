/- The law of layer 1 that speaks of the rules of reckoning, walked. -/
import Derived.Test.YtphicgdllhmgdaaWideB
import Derived.Test.YtphicgdllhmgdaaLawA
import Derived.Test.YtphicgdllhmgdaaRefB
import Derived.Test.YtphicgdllhmgdaaSeqg
import Derived.Deep.DeepCutAuto
namespace Go.Proofs.Ytphicgdllhmgdaa
open Go.RowKit

theorem add_sub_back {x y : Int} (h : I128 x) : wrap128 (wrap128 (x + y) - y) = x := by unfold I128 at h; unfold wrap128; omega
theorem neg_neg_back {x : Int} (h : I128 x) : wrap128 (-wrap128 (-x)) = x := by unfold I128 at h; unfold wrap128; omega
theorem cmp_add (x y z : Int) : cmpI (x + z) (y + z) = cmpI x y := by
  unfold cmpI
  by_cases h : x = y
  · rw [if_pos h, if_pos (by omega)]
  · rw [if_neg h, if_neg (by omega)]
    by_cases h2 : x < y
    · rw [if_pos h2, if_pos (by omega)]
    · rw [if_neg h2, if_neg (by omega)]
theorem sum_I128 {x y : Int} (hx : I64 x) (hy : I64 y) : I128 (x + y) := by unfold I64 at hx hy; unfold I128; omega

/-- Three new variables, each a wide number. -/
def CutRules (x y z : Int) (w : World) (s9 s10 s11 : Value) (wx : World) : Prop :=
  ∃ b9 b10 b11 : Nat, s9 = .pointer (some ⟨b9, 0, none⟩) ∧ s10 = .pointer (some ⟨b10, 0, none⟩) ∧ s11 = .pointer (some ⟨b11, 0, none⟩)
    ∧ wx.heap[b9]? = some (.cells #[.int .i64 (hiW x), .int .u64 (loW x)] 24)
    ∧ wx.heap[b10]? = some (.cells #[.int .i64 (hiW y), .int .u64 (loW y)] 24)
    ∧ wx.heap[b11]? = some (.cells #[.int .i64 (hiW z), .int .u64 (loW z)] 24)
    ∧ b9 ≠ b10 ∧ b9 ≠ b11 ∧ b10 ≠ b11 ∧ w.heap.size ≤ b9 ∧ w.heap.size ≤ b10 ∧ w.heap.size ≤ b11 ∧ Below w.heap.size w wx

theorem heap_set2 {w : World} {b : Nat} {c0 c1 v0 v1 : Value} {t : TypeId} (h : w.heap[b]? = some (.cells #[c0, c1] t)) :
    ((w.setCell ⟨b, 0, none⟩ v0).setCell ⟨b, 1, none⟩ v1).heap[b]? = some (.cells #[v0, v1] t) := by
  simp [World.setCell, Array.getElem?_modify, h]

set_option maxRecDepth 100000 in
set_option maxHeartbeats 4000000 in
theorem law_wideRules (a b c d n0 n1 n2 : Int) (ha : I64 a) (hb : U64 b) (hd : U64 d) (h0 : I64 n0) (h1 : I64 n1) (h2 : I64 n2) (w : World) :
    Calls Try.prog 7 #[.agg #[.int .i64 a, .int .u64 b], .agg #[.int .i64 c, .int .u64 d], .agg #[.int .i64 n0, .int .i64 n1, .int .i64 n2]] w fun e w' => e = .returned (.bool true) ∧ Below w.heap.size w w' := by
  have H1 := Lib.hid (wide_add a b c d hb hd)
  have H2 : Hid (∀ w, Calls Try.prog 17 #[.agg #[.int .i64 (hiW (wrap128 (wv a b + wv c d))), .int .u64 (loW (wrap128 (wv a b + wv c d)))], .agg #[.int .i64 c, .int .u64 d]] w fun e w' => e = .returned (.agg #[.int .i64 a, .int .u64 b]) ∧ Below w.heap.size w w') := by
    refine Lib.hid fun w => ?_
    have h := wide_sub (hiW (wrap128 (wv a b + wv c d))) (loW (wrap128 (wv a b + wv c d))) c d (U64.lo _) hd w
    rw [wv_hilo, add_sub_back (I128_wv ha hb), hiW_wv a b hb, loW_wv a b hb] at h
    exact h
  have H3 := Lib.hid (wide_neg a b hb)
  have H4 : Hid (∀ w, Calls Try.prog 19 #[.agg #[.int .i64 (hiW (wrap128 (-wv a b))), .int .u64 (loW (wrap128 (-wv a b)))]] w fun e w' => e = .returned (.agg #[.int .i64 a, .int .u64 b]) ∧ Below w.heap.size w w') := by
    refine Lib.hid fun w => ?_
    have h := wide_neg (hiW (wrap128 (-wv a b))) (loW (wrap128 (-wv a b))) (U64.lo _) w
    rw [wv_hilo, neg_neg_back (I128_wv ha hb), hiW_wv a b hb, loW_wv a b hb] at h
    exact h
  have O0 := Lib.hid (wide_of n0 h0)
  have O1 := Lib.hid (wide_of n1 h1)
  have O2 := Lib.hid (wide_of n2 h2)
  have hadd : ∀ x y : Int, I64 x → I64 y → ∀ w, Calls Try.prog 15 #[.agg #[.int .i64 (hiW x), .int .u64 (loW x)], .agg #[.int .i64 (hiW y), .int .u64 (loW y)]] w fun e w' => e = .returned (.agg #[.int .i64 (hiW (x + y)), .int .u64 (loW (x + y))]) ∧ Below w.heap.size w w' := by
    intro x y hx hy w
    have h := wide_add (hiW x) (loW x) (hiW y) (loW y) (U64.lo _) (U64.lo _) w
    rw [wv_hilo, wv_hilo, wrap128_id (sum_I128 hx hy)] at h
    exact h
  have A12 := Lib.hid (hadd n1 n2 h1 h2)
  have A02 := Lib.hid (hadd n0 n2 h0 h2)
  clear hadd
  have hi := wide_int (hiW (n1 + n2)) (loW (n1 + n2)) (I64_hi (sum_I128 h1 h2)) (U64.lo _)
  rw [wv_hilo] at hi
  have C1 := Lib.hid (fun w => wide_cmp (hiW n0) (loW n0) (hiW n1) (loW n1) (U64.lo _) (U64.lo _) w)
  have C2 := Lib.hid (fun w => wide_cmp (hiW (n0 + n2)) (loW (n0 + n2)) (hiW (n1 + n2)) (loW (n1 + n2)) (U64.lo _) (U64.lo _) w)
  rw [wv_hilo, wv_hilo] at C1
  rw [wv_hilo, wv_hilo, cmp_add] at C2
  have M1 := Lib.hid (wide_mul n0 n1 h0 h1)
  have M2 := Lib.hid (wide_mul n1 n0 h1 h0)
  rw [Int.mul_comm n1 n0] at M2
  have M3 := Lib.hid (wide_mul n0 n2 h0 h2)
  have HL := Lib.hid law01_lives
  have I1 := Lib.hid hi
  have M4 := Lib.hid (wide_mul n0 (intI (n1 + n2)) h0 (int_I64 _))
  have A5 : isI (n1 + n2) = true → ∀ w, Calls Try.prog 15 #[.agg #[.int .i64 (hiW (n0 * n1)), .int .u64 (loW (n0 * n1))], .agg #[.int .i64 (hiW (n0 * n2)), .int .u64 (loW (n0 * n2))]] w fun e w' => e = .returned (.agg #[.int .i64 (hiW (n0 * intI (n1 + n2))), .int .u64 (loW (n0 * intI (n1 + n2)))]) ∧ Below w.heap.size w w' := by
    intro hok w
    have hs : intI (n1 + n2) = n1 + n2 := by unfold intI; rw [if_pos hok]
    have h := wide_add (hiW (n0 * n1)) (loW (n0 * n1)) (hiW (n0 * n2)) (loW (n0 * n2)) (U64.lo _) (U64.lo _) w
    rw [wv_hilo, wv_hilo, ← Int.mul_add, wrap128_id (prod_I128 h0 ((isI_iff _).1 hok))] at h
    rw [hs]; exact h
  generalize n0 * intI (n1 + n2) = p at *
  generalize intI (n1 + n2) = v at *
  generalize isI (n1 + n2) = ok at *
  generalize n0 * n1 = q at *
  generalize n0 * n2 = r at *
  have A5' := Lib.hid A5
  clear hi A5 ha hb hd h0 h1 h2
  go_enter Try.func7, Try.ntmps7
  go_wp2
  generalize hW : ((w.alloc (.cells #[.int .i64 a, .int .u64 b] 24)).alloc (.cells #[.int .i64 c, .int .u64 d] 24)).alloc (.cells #[.int .i64 n0, .int .i64 n1, .int .i64 n2] 39) = W
  have q0 : W.cell? ⟨w.heap.size, 0, none⟩ = some (.int .i64 a) := by rw [← hW]; simp [go_sem]
  have q1 : W.cell? ⟨w.heap.size, 1, none⟩ = some (.int .u64 b) := by rw [← hW]; simp [go_sem]
  have q2 : W.cell? ⟨w.heap.size + 1, 0, none⟩ = some (.int .i64 c) := by rw [← hW]; simp [go_sem]
  have q3 : W.cell? ⟨w.heap.size + 1, 1, none⟩ = some (.int .u64 d) := by rw [← hW]; simp [go_sem]
  have q4 : W.cell? ⟨w.heap.size + 1 + 1, 0, none⟩ = some (.int .i64 n0) := by rw [← hW]; simp [go_sem]
  have q5 : W.cell? ⟨w.heap.size + 1 + 1, 1, none⟩ = some (.int .i64 n1) := by rw [← hW]; simp [go_sem]
  have q6 : W.cell? ⟨w.heap.size + 1 + 1, 2, none⟩ = some (.int .i64 n2) := by rw [← hW]; simp [go_sem]
  have z2 : w.heap.size + 1 + 1 < W.heap.size := by rw [← hW]; simp
  have z1 : w.heap.size + 1 < W.heap.size := by omega
  have z0 : w.heap.size < W.heap.size := by omega
  have HW : Below w.heap.size w W := by rw [← hW]; exact (by repeat (first | (with_reducible assumption) | (with_reducible exact Below.refl _ _) | (with_reducible refine Below.alloc ?_ (by first | omega | (simp; omega) | (simp; done) | (dsimp only; omega)) _) | (with_reducible refine Below.setCell ?_ (by first | omega | (simp; omega) | (simp; done) | (dsimp only; omega)) _) | (with_reducible refine Below.drew ?_) | (with_reducible refine Below.trans ?_ (Below.mono (by assumption) (by first | omega | (simp; omega) | (simp; done) | (dsimp only; omega))))))
  clear hW
  go_upto_region 1 with fail
  go_cut [25] (fun s25 wx => s25 = .bool false ∧ Below W.heap.size W wx)
  case first =>
    refine region_seq (S := fun w' => Below W.heap.size W w') rfl (by kernel_rfl) (by kernel_rfl) (by repeat (first | (with_reducible assumption) | (with_reducible exact Below.refl _ _) | (with_reducible refine Below.alloc ?_ (by first | omega | (simp; omega) | (simp; done) | (dsimp only; omega)) _) | (with_reducible refine Below.setCell ?_ (by first | omega | (simp; omega) | (simp; done) | (dsimp only; omega)) _) | (with_reducible refine Below.drew ?_) | (with_reducible refine Below.trans ?_ (Below.mono (by assumption) (by first | omega | (simp; omega) | (simp; done) | (dsimp only; omega)))))) (fun fin hfin => ?_)
    iterate 14
      first
        | (refine SeqL.yes (v := ?_) (A' := ?_) rfl (by rfl) ?_ ?_ ?_
           rotate_left 2
           · intro w' K hS hK
             obtain ⟨hc, hf⟩ := bcell hS
             have hz := hS.size
             go_simp
             first
               | exact hK.out _ hS
               | (go_at_call 15; (with_reducible refine (H1.out _).mono ?_); rintro e w1 ⟨rfl, hb1⟩; exact hK.out _ (hS.trans (hb1.mono hz)))
               | (go_at_call 17; (with_reducible refine (H2.out _).mono ?_); rintro e w1 ⟨rfl, hb1⟩; exact hK.out _ (hS.trans (hb1.mono hz)))
               | (go_at_call 19; (with_reducible refine (H3.out _).mono ?_); rintro e w1 ⟨rfl, hb1⟩; exact hK.out _ (hS.trans (hb1.mono hz)))
               | (go_at_call 19; (with_reducible refine (H4.out _).mono ?_); rintro e w1 ⟨rfl, hb1⟩; exact hK.out _ (hS.trans (hb1.mono hz)))
               | trace_state
           · simp only [Act.put, List.setIfInBounds_toArray, List.set_cons_zero, List.set_cons_succ]; exact rfl)
        | (refine SeqL.no (A' := ?_) rfl (by rfl) ?_ ?_
           rotate_left
           · simp only [Act.put, List.setIfInBounds_toArray, List.set_cons_zero, List.set_cons_succ]; exact rfl)
    refine SeqL.nil (hfin.out _ ?_)
    clear hfin fin
    intro w1 hS1
    go_wp2_with fail
    go_meet
    exact ⟨rfl, (by repeat (first | (with_reducible assumption) | (with_reducible exact Below.refl _ _) | (with_reducible refine Below.alloc ?_ (by first | omega | (simp; omega) | (simp; done) | (dsimp only; omega)) _) | (with_reducible refine Below.setCell ?_ (by first | omega | (simp; omega) | (simp; done) | (dsimp only; omega)) _) | (with_reducible refine Below.drew ?_) | (with_reducible refine Below.trans ?_ (Below.mono (by assumption) (by first | omega | (simp; omega) | (simp; done) | (dsimp only; omega))))))⟩
  case rest =>
    obtain ⟨rfl, hb⟩ := hcut
    obtain ⟨hc1, hf1⟩ := bcell hb
    go_wp2
    go_upto_region 3 with fail
    go_cut [7, 8] (fun s7 s8 wx => s7 = .int .i64 v ∧ s8 = .bool ok ∧ Below W.heap.size W wx)
    case first =>
      refine region_seq (S := fun w' => Below W.heap.size W w') rfl (by kernel_rfl) (by kernel_rfl) (by repeat (first | (with_reducible assumption) | (with_reducible exact Below.refl _ _) | (with_reducible refine Below.alloc ?_ (by first | omega | (simp; omega) | (simp; done) | (dsimp only; omega)) _) | (with_reducible refine Below.setCell ?_ (by first | omega | (simp; omega) | (simp; done) | (dsimp only; omega)) _) | (with_reducible refine Below.drew ?_) | (with_reducible refine Below.trans ?_ (Below.mono (by assumption) (by first | omega | (simp; omega) | (simp; done) | (dsimp only; omega)))))) (fun fin hfin => ?_)
      iterate 13
        first
          | (refine SeqL.yes (v := ?_) (A' := ?_) rfl (by rfl) ?_ ?_ ?_
             rotate_left 2
             · intro w' K hS hK
               obtain ⟨hc, hf⟩ := bcell hS
               have hz := hS.size
               go_simp
               first
                 | exact hK.out _ hS
                 | (go_at_call 24; (with_reducible refine (O1.out _).mono ?_); rintro e w1 ⟨rfl, hb1⟩; exact hK.out _ (hS.trans (hb1.mono hz)))
                 | (go_at_call 24; (with_reducible refine (O2.out _).mono ?_); rintro e w1 ⟨rfl, hb1⟩; exact hK.out _ (hS.trans (hb1.mono hz)))
                 | (go_at_call 15; (with_reducible refine (A12.out _).mono ?_); rintro e w1 ⟨rfl, hb1⟩; exact hK.out _ (hS.trans (hb1.mono hz)))
                 | (go_at_call 26; (with_reducible refine (I1.out _).mono ?_); rintro e w1 ⟨rfl, hb1⟩; exact hK.out _ (hS.trans (hb1.mono hz)))
                 | trace_state
             · simp only [Act.put, List.setIfInBounds_toArray, List.set_cons_zero, List.set_cons_succ]; exact rfl)
          | (refine SeqL.no (A' := ?_) rfl (by rfl) ?_ ?_
             rotate_left
             · simp only [Act.put, List.setIfInBounds_toArray, List.set_cons_zero, List.set_cons_succ]; exact rfl)
      refine SeqL.nil (hfin.out _ ?_)
      clear hfin fin
      intro w1 hS1
      go_wp2_with fail
      go_meet
      exact ⟨rfl, rfl, (by repeat (first | (with_reducible assumption) | (with_reducible exact Below.refl _ _) | (with_reducible refine Below.alloc ?_ (by first | omega | (simp; omega) | (simp; done) | (dsimp only; omega)) _) | (with_reducible refine Below.setCell ?_ (by first | omega | (simp; omega) | (simp; done) | (dsimp only; omega)) _) | (with_reducible refine Below.drew ?_) | (with_reducible refine Below.trans ?_ (Below.mono (by assumption) (by first | omega | (simp; omega) | (simp; done) | (dsimp only; omega))))))⟩
    case rest =>
      obtain ⟨rfl, rfl, hb2⟩ := hcut
      clear hc1 hf1 hb
      obtain ⟨hc1, hf1⟩ := bcell hb2
      go_wp2
      go_upto_region 4 with fail
      go_cut [55] (fun s55 wx => s55 = .bool false ∧ Below W.heap.size W wx)
      case first =>
        cases ok
        · skip
          refine region_seq (S := fun w' => Below W.heap.size W w') rfl (by kernel_rfl) (by kernel_rfl) (by repeat (first | (with_reducible assumption) | (with_reducible exact Below.refl _ _) | (with_reducible refine Below.alloc ?_ (by first | omega | (simp; omega) | (simp; done) | (dsimp only; omega)) _) | (with_reducible refine Below.setCell ?_ (by first | omega | (simp; omega) | (simp; done) | (dsimp only; omega)) _) | (with_reducible refine Below.drew ?_) | (with_reducible refine Below.trans ?_ (Below.mono (by assumption) (by first | omega | (simp; omega) | (simp; done) | (dsimp only; omega)))))) (fun fin hfin => ?_)
          iterate 19
            first
              | (refine SeqL.yes (v := ?_) (A' := ?_) rfl (by rfl) ?_ ?_ ?_
                 rotate_left 2
                 · intro w' K hS hK
                   obtain ⟨hc, hf⟩ := bcell hS
                   have hz := hS.size
                   go_simp
                   first
                     | exact hK.out _ hS
                     | (go_at_call 22; (with_reducible refine (M4.out _).mono ?_); rintro e w1 ⟨rfl, hb1⟩; exact hK.out _ (hS.trans (hb1.mono hz)))
                     | trace_state
                 · simp only [Act.put, List.setIfInBounds_toArray, List.set_cons_zero, List.set_cons_succ]; exact rfl)
              | (refine SeqL.no (A' := ?_) rfl (by rfl) ?_ ?_
                 rotate_left
                 · simp only [Act.put, List.setIfInBounds_toArray, List.set_cons_zero, List.set_cons_succ]; exact rfl)
          refine SeqL.nil (hfin.out _ ?_)
          clear hfin fin
          intro w1 hS1
          go_wp2_with fail
          go_meet
          exact ⟨rfl, (by repeat (first | (with_reducible assumption) | (with_reducible exact Below.refl _ _) | (with_reducible refine Below.alloc ?_ (by first | omega | (simp; omega) | (simp; done) | (dsimp only; omega)) _) | (with_reducible refine Below.setCell ?_ (by first | omega | (simp; omega) | (simp; done) | (dsimp only; omega)) _) | (with_reducible refine Below.drew ?_) | (with_reducible refine Below.trans ?_ (Below.mono (by assumption) (by first | omega | (simp; omega) | (simp; done) | (dsimp only; omega))))))⟩
        · have A6 := Lib.hid (A5'.out rfl)
          refine region_seq (S := fun w' => Below W.heap.size W w') rfl (by kernel_rfl) (by kernel_rfl) (by repeat (first | (with_reducible assumption) | (with_reducible exact Below.refl _ _) | (with_reducible refine Below.alloc ?_ (by first | omega | (simp; omega) | (simp; done) | (dsimp only; omega)) _) | (with_reducible refine Below.setCell ?_ (by first | omega | (simp; omega) | (simp; done) | (dsimp only; omega)) _) | (with_reducible refine Below.drew ?_) | (with_reducible refine Below.trans ?_ (Below.mono (by assumption) (by first | omega | (simp; omega) | (simp; done) | (dsimp only; omega)))))) (fun fin hfin => ?_)
          iterate 19
            first
              | (refine SeqL.yes (v := ?_) (A' := ?_) rfl (by rfl) ?_ ?_ ?_
                 rotate_left 2
                 · intro w' K hS hK
                   obtain ⟨hc, hf⟩ := bcell hS
                   have hz := hS.size
                   go_simp
                   first
                     | exact hK.out _ hS
                     | (go_at_call 22; (with_reducible refine (M4.out _).mono ?_); rintro e w1 ⟨rfl, hb1⟩; exact hK.out _ (hS.trans (hb1.mono hz)))
                     | (go_at_call 22; (with_reducible refine (M1.out _).mono ?_); rintro e w1 ⟨rfl, hb1⟩; exact hK.out _ (hS.trans (hb1.mono hz)))
                     | (go_at_call 22; (with_reducible refine (M3.out _).mono ?_); rintro e w1 ⟨rfl, hb1⟩; exact hK.out _ (hS.trans (hb1.mono hz)))
                     | (go_at_call 15; (with_reducible refine (A6.out _).mono ?_); rintro e w1 ⟨rfl, hb1⟩; exact hK.out _ (hS.trans (hb1.mono hz)))
                     | trace_state
                 · simp only [Act.put, List.setIfInBounds_toArray, List.set_cons_zero, List.set_cons_succ]; exact rfl)
              | (refine SeqL.no (A' := ?_) rfl (by rfl) ?_ ?_
                 rotate_left
                 · simp only [Act.put, List.setIfInBounds_toArray, List.set_cons_zero, List.set_cons_succ]; exact rfl)
          refine SeqL.nil (hfin.out _ ?_)
          clear hfin fin
          intro w1 hS1
          go_wp2_with fail
          go_meet
          exact ⟨rfl, (by repeat (first | (with_reducible assumption) | (with_reducible exact Below.refl _ _) | (with_reducible refine Below.alloc ?_ (by first | omega | (simp; omega) | (simp; done) | (dsimp only; omega)) _) | (with_reducible refine Below.setCell ?_ (by first | omega | (simp; omega) | (simp; done) | (dsimp only; omega)) _) | (with_reducible refine Below.drew ?_) | (with_reducible refine Below.trans ?_ (Below.mono (by assumption) (by first | omega | (simp; omega) | (simp; done) | (dsimp only; omega))))))⟩
      case rest =>
        obtain ⟨rfl, hb3⟩ := hcut
        clear hc1 hf1 hb2
        obtain ⟨hc1, hf1⟩ := bcell hb3
        go_wp2
        go_upto_region 6 with fail
        go_cut [9, 10, 11] (fun s9 s10 s11 wx => CutRules n0 n1 n2 W s9 s10 s11 wx)
        case first =>
          clear H1 H2 H3 H4 A12 A02 M1 M2 M3 M4 A5' I1 HL C1 C2
          refine region_seqg (W := W) [_, _, _, _, _, _, _, _, _, _, _, _] [_, _, _] rfl (by kernel_rfl) (by kernel_rfl) (by repeat (first | (with_reducible assumption) | (with_reducible exact Below.refl _ _) | (with_reducible refine Below.alloc ?_ (by first | omega | (simp; omega) | (simp; done) | (dsimp only; omega)) _) | (with_reducible refine Below.setCell ?_ (by first | omega | (simp; omega) | (simp; done) | (dsimp only; omega)) _) | (with_reducible refine Below.drew ?_) | (with_reducible refine Below.trans ?_ (Below.mono (by assumption) (by first | omega | (simp; omega) | (simp; done) | (dsimp only; omega)))))) (fun fin hfin => ?_)
          iterate 9
            first
              | (refine SeqG.yes (v := ?_) (A' := ?_) rfl (fun γ => by rfl) ?_ ?_ ?_
                 rotate_left 2
                 · intro γ w' K hS hK
                   obtain ⟨hc, hf⟩ := bcell hS
                   have hz := hS.size
                   go_simp
                   first
                     | exact hK.out _ (Below.refl _ _)
                     | (go_at_call 24; (with_reducible refine (O0.out _).mono ?_); rintro e w1 ⟨rfl, hb1⟩; exact hK.out _ hb1)
                     | (go_at_call 24; (with_reducible refine (O1.out _).mono ?_); rintro e w1 ⟨rfl, hb1⟩; exact hK.out _ hb1)
                     | (go_at_call 24; (with_reducible refine (O2.out _).mono ?_); rintro e w1 ⟨rfl, hb1⟩; exact hK.out _ hb1)
                     | trace_state
                 · intro γ; simp only [Act.put, List.setIfInBounds_toArray, List.set_cons_zero, List.set_cons_succ]; exact rfl)
              | (refine SeqG.no (A' := ?_) rfl (fun γ => by rfl) ?_ ?_
                 rotate_left
                 · intro γ; simp only [Act.put, List.setIfInBounds_toArray, List.set_cons_zero, List.set_cons_succ]; exact rfl)
          refine SeqG.make (k := 9) (A' := ?_) (fun g => .pointer (some ⟨g 0, 0, none⟩)) (RCell #[.int .i64 0, .int .u64 0] 24) rfl (fun γ => by rfl) (RCell.stable _ _) ?_ ?_ ?_
          rotate_left
          · intro γ w' K hS _ hK
            have hm := RCell.made (#[.int .i64 0, .int .u64 0]) (24) w'
            have HK := Lib.hid (hK.out (fun _ => w'.heap.size) (w'.alloc (.cells #[.int .i64 0, .int .u64 0] 24)) ((Below.refl _ _).alloc (Nat.le_refl _) _) hm); clear hK hm
            go_simp
            exact HK.out
          · intro γ; simp only [Act.put, List.setIfInBounds_toArray, List.set_cons_zero, List.set_cons_succ]; exact rfl
          refine SeqG.make (k := 10) (A' := ?_) (fun g => .pointer (some ⟨g 0, 0, none⟩)) (RCell #[.int .i64 0, .int .u64 0] 24) rfl (fun γ => by rfl) (RCell.stable _ _) ?_ ?_ ?_
          rotate_left
          · intro γ w' K hS _ hK
            have hm := RCell.made (#[.int .i64 0, .int .u64 0]) (24) w'
            have HK := Lib.hid (hK.out (fun _ => w'.heap.size) (w'.alloc (.cells #[.int .i64 0, .int .u64 0] 24)) ((Below.refl _ _).alloc (Nat.le_refl _) _) hm); clear hK hm
            go_simp
            exact HK.out
          · intro γ; simp only [Act.put, List.setIfInBounds_toArray, List.set_cons_zero, List.set_cons_succ]; exact rfl
          refine SeqG.make (k := 11) (A' := ?_) (fun g => .pointer (some ⟨g 0, 0, none⟩)) (RCell #[.int .i64 0, .int .u64 0] 24) rfl (fun γ => by rfl) (RCell.stable _ _) ?_ ?_ ?_
          rotate_left
          · intro γ w' K hS _ hK
            have hm := RCell.made (#[.int .i64 0, .int .u64 0]) (24) w'
            have HK := Lib.hid (hK.out (fun _ => w'.heap.size) (w'.alloc (.cells #[.int .i64 0, .int .u64 0] 24)) ((Below.refl _ _).alloc (Nat.le_refl _) _) hm); clear hK hm
            go_simp
            exact HK.out
          · intro γ; simp only [Act.put, List.setIfInBounds_toArray, List.set_cons_zero, List.set_cons_succ]; exact rfl
          refine SeqG.nil (hfin.out _ _ ?_)
          clear hfin fin
          intro γ lo hi w1 hB1 hF hD
          simp only [List.nil_append, List.cons_append, List.forall_mem_cons, List.not_mem_nil, false_implies, implies_true, and_true, ne_eq, not_true, true_and, Nat.reduceEqDiff, not_false_eq_true, true_implies] at hF hD
          obtain ⟨⟨_, _, y9, o9, p9, h9⟩, ⟨_, _, y10, o10, p10, h10⟩, ⟨_, _, y11, o11, p11, h11⟩⟩ := hF
          have n1 : γ 9 0 ≠ γ 10 0 := by omega
          have n2 : γ 9 0 ≠ γ 11 0 := by omega
          have n3 : γ 10 0 ≠ γ 11 0 := by omega
          have w9 : W.heap.size ≤ γ 9 0 := by omega
          have w10 : W.heap.size ≤ γ 10 0 := by omega
          have w11 : W.heap.size ≤ γ 11 0 := by omega
          have x9 : γ 9 0 < w1.heap.size := by omega
          have x10 : γ 10 0 < w1.heap.size := by omega
          have x11 : γ 11 0 < w1.heap.size := by omega
          clear hD o9 p9 o10 p10 o11 p11 y9 y10 y11
          generalize γ 9 0 = b9 at *
          generalize γ 10 0 = b10 at *
          generalize γ 11 0 = b11 at *
          have g9 := cell_of_block h9
          have g10 := cell_of_block h10
          have g11 := cell_of_block h11
          have f9 := free_of_block h9
          have f10 := free_of_block h10
          have f11 := free_of_block h11
          have n4 := Ne.symm n1
          have n5 := Ne.symm n2
          have n6 := Ne.symm n3
          have K9 := Lib.hid h9; have K10 := Lib.hid h10; have K11 := Lib.hid h11; clear h9 h10 h11
          refine TailL.cons (fun K hK => ?_)
          go_simp
          refine hK.out _ _ ?_
          clear hK K
          refine TailL.cons (fun K hK => ?_)
          go_simp
          refine hK.out _ _ ?_
          clear hK K
          refine TailL.cons (fun K hK => ?_)
          go_simp
          refine hK.out _ _ ?_
          clear hK K
          refine TailL.nil ?_
          go_wp2_with fail
          go_meet
          exact ⟨b9, b10, b11, rfl, rfl, rfl,
            by (iterate 4 (refine (Below.heap_setCell _ _ _ _ (by dsimp only; omega)).trans ?_))
               exact heap_set2 K9.out,
            by (iterate 2 (refine (Below.heap_setCell _ _ _ _ (by dsimp only; omega)).trans ?_))
               refine heap_set2 (c0 := .int .i64 0) (c1 := .int .u64 0) ?_
               (iterate 2 (refine (Below.heap_setCell _ _ _ _ (by dsimp only; omega)).trans ?_))
               exact K10.out,
            by refine heap_set2 (c0 := .int .i64 0) (c1 := .int .u64 0) ?_
               (iterate 4 (refine (Below.heap_setCell _ _ _ _ (by dsimp only; omega)).trans ?_))
               exact K11.out,
            n1, n2, n3, w9, w10, w11, (by repeat (first | (with_reducible assumption) | (with_reducible exact Below.refl _ _) | (with_reducible refine Below.alloc ?_ (by first | omega | (simp; omega) | (simp; done) | (dsimp only; omega)) _) | (with_reducible refine Below.setCell ?_ (by first | omega | (simp; omega) | (simp; done) | (dsimp only; omega)) _) | (with_reducible refine Below.drew ?_) | (with_reducible refine Below.trans ?_ (Below.mono (by assumption) (by first | omega | (simp; omega) | (simp; done) | (dsimp only; omega))))))⟩
        case rest =>
          obtain ⟨b9, b10, b11, rfl, rfl, rfl, h9, h10, h11, n1, n2, n3, w9, w10, w11, hb4⟩ := hcut
          clear hc1 hf1
          have g9 := cell_of_block h9
          have g10 := cell_of_block h10
          have g11 := cell_of_block h11
          have x9 := lt_of_get h9
          have x10 := lt_of_get h10
          have x11 := lt_of_get h11
          have e0 := g9 0
          have e1 := g9 1
          have e2 := g10 0
          have e3 := g10 1
          have e4 := g11 0
          have e5 := g11 1
          have e6 := hb4.cell (p := ⟨w.heap.size + 1 + 1, 0, none⟩) z2
          have e7 := hb4.cell (p := ⟨w.heap.size + 1 + 1, 1, none⟩) z2
          rw [q4] at e6
          rw [q5] at e7
          have HB4 := Lib.hid hb4
          have z3 := hb4.size
          have z4 : w.heap.size + 1 + 1 < wc.heap.size := by omega
          clear h9 h10 h11 g9 g10 g11 q0 q1 q2 q3 q4 q5 q6 hb4 hb3
          simp only [List.getElem?_toArray, List.getElem?_cons_zero, List.getElem?_cons_succ] at e0 e1 e2 e3 e4 e5
          go_wp2
          refine region_seq (S := fun w' => Below wc.heap.size wc w') rfl (by kernel_rfl) (by kernel_rfl) (by repeat (first | (with_reducible assumption) | (with_reducible exact Below.refl _ _) | (with_reducible refine Below.alloc ?_ (by first | omega | (simp; omega) | (simp; done) | (dsimp only; omega)) _) | (with_reducible refine Below.setCell ?_ (by first | omega | (simp; omega) | (simp; done) | (dsimp only; omega)) _) | (with_reducible refine Below.drew ?_) | (with_reducible refine Below.trans ?_ (Below.mono (by assumption) (by first | omega | (simp; omega) | (simp; done) | (dsimp only; omega)))))) (fun fin hfin => ?_)
          iterate 28
            first
              | (refine SeqL.yes (v := ?_) (A' := ?_) rfl (by rfl) ?_ ?_ ?_
                 rotate_left 2
                 · intro w' K hS hK
                   obtain ⟨hc, hf⟩ := bcell hS
                   have hz := hS.size
                   go_simp
                   first
                     | exact hK.out _ hS
                     | (go_at_call 28; (with_reducible refine (C1.out _).mono ?_); rintro e w1 ⟨rfl, hb1⟩; exact hK.out _ (hS.trans (hb1.mono hz)))
                     | (go_at_call 15; (with_reducible refine (A02.out _).mono ?_); rintro e w1 ⟨rfl, hb1⟩; exact hK.out _ (hS.trans (hb1.mono hz)))
                     | (go_at_call 15; (with_reducible refine (A12.out _).mono ?_); rintro e w1 ⟨rfl, hb1⟩; exact hK.out _ (hS.trans (hb1.mono hz)))
                     | (go_at_call 28; (with_reducible refine (C2.out _).mono ?_); rintro e w1 ⟨rfl, hb1⟩; exact hK.out _ (hS.trans (hb1.mono hz)))
                     | (go_at_call 22; (with_reducible refine (M1.out _).mono ?_); rintro e w1 ⟨rfl, hb1⟩; exact hK.out _ (hS.trans (hb1.mono hz)))
                     | (go_at_call 22; (with_reducible refine (M2.out _).mono ?_); rintro e w1 ⟨rfl, hb1⟩; exact hK.out _ (hS.trans (hb1.mono hz)))
                     | (go_at_call 21; (with_reducible refine (HL.out _).mono ?_); rintro e w1 ⟨rfl, hb1⟩; exact hK.out _ (hS.trans (hb1.mono hz)))
                     | trace_state
                 · simp only [Act.put, List.setIfInBounds_toArray, List.set_cons_zero, List.set_cons_succ]; exact rfl)
              | (refine SeqL.no (A' := ?_) rfl (by rfl) ?_ ?_
                 rotate_left
                 · simp only [Act.put, List.setIfInBounds_toArray, List.set_cons_zero, List.set_cons_succ]; exact rfl)
          refine SeqL.nil (hfin.out _ ?_)
          clear hfin fin
          intro w1 hS1
          have hb4 := HB4.out
          go_wp2
          go_ret
          exact ⟨rfl, (by repeat (first | (with_reducible assumption) | (with_reducible exact Below.refl _ _) | (with_reducible refine Below.alloc ?_ (by first | omega | (simp; omega) | (simp; done) | (dsimp only; omega)) _) | (with_reducible refine Below.setCell ?_ (by first | omega | (simp; omega) | (simp; done) | (dsimp only; omega)) _) | (with_reducible refine Below.drew ?_) | (with_reducible refine Below.trans ?_ (Below.mono (by assumption) (by first | omega | (simp; omega) | (simp; done) | (dsimp only; omega))))))⟩
end Go.Proofs.Ytphicgdllhmgdaa
