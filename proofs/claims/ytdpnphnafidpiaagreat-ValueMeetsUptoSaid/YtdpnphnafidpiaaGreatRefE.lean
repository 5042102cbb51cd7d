/- X-PARTIAL What sondageref01.Int, Clamp return. -/
import Derived.Test.YtdpnphnafidpiaaGreatRefD
namespace Go.Proofs.YtdpnphnafidpiaaGreat
open Go.RowKit

theorem I64_min : I64 (-9223372036854775808) := by unfold I64; omega

theorem I64_max : I64 9223372036854775807 := by unfold I64; omega

theorem cmp_lt {x y : Int} (h : x < y) : cmpI x y = -1 := by unfold cmpI; rw [if_neg (by omega), if_pos h]

theorem cmp_gt {x y : Int} (h : y < x) : cmpI x y = 1 := by unfold cmpI; rw [if_neg (by omega), if_neg (by omega)]

theorem cmp_ge {x y : Int} (h : y ≤ x) : cmpI x y = 0 ∨ cmpI x y = 1 := by
  unfold cmpI
  by_cases e : x = y
  · exact Or.inl (if_pos e)
  · rw [if_neg e, if_neg (by omega)]; exact Or.inr rfl

theorem cmp_le {x y : Int} (h : x ≤ y) : cmpI x y = 0 ∨ cmpI x y = -1 := by
  unfold cmpI
  by_cases e : x = y
  · exact Or.inl (if_pos e)
  · rw [if_neg e, if_pos (by omega)]; exact Or.inr rfl

theorem low_of_lo {a b : Int} (h : isI (wv a b) = true) : wrap64 b = wv a b := by
  have := (isI_iff _).1 h; unfold I64 at this; unfold wv M64 at *; unfold wrap64; omega

set_option maxRecDepth 100000 in
set_option maxHeartbeats 2000000 in
theorem r_int (a b : Int) (ha : I64 a) (hb : U64 b) (w : World) :
    Calls Tryz.prog 19 #[.agg #[.int .i64 a, .int .u64 b]] w fun e w' =>
      e = .returned (.tuple #[.int .i64 (intI (wv a b)), .bool (isI (wv a b))]) ∧ Below w.heap.size w w' := by
  have HO1 := Lib.hid (r_of (-9223372036854775808) I64_min)
  have HO2 := Lib.hid (r_of 9223372036854775807 I64_max)
  have HC1 := Lib.hid (fun w => r_cmp a b (hiW (-9223372036854775808)) (loW (-9223372036854775808)) ha hb (I64_hi (I128_I64 I64_min)) (U64.lo _) w)
  have HC2 := Lib.hid (fun w => r_cmp a b (hiW 9223372036854775807) (loW 9223372036854775807) ha hb (I64_hi (I128_I64 I64_max)) (U64.lo _) w)
  rw [wv_hilo] at HC1 HC2
  by_cases hI : isI (wv a b) = true
  · have e := low_of_lo hI
    have e3 : intI (wv a b) = wv a b := by unfold intI; rw [if_pos hI]
    have h := (isI_iff _).1 hI
    rw [hI, e3, ← e]
    unfold I64 at h
    have h1 := cmp_ge h.1
    have h2 := cmp_le h.2
    generalize cmpI (wv a b) (-9223372036854775808) = c1 at *
    generalize cmpI (wv a b) 9223372036854775807 = c2 at *
    clear e e3 h hI ha hb
    rcases h1 with rfl | rfl <;> rcases h2 with rfl | rfl
    all_goals
     go_enter Tryz.func19, Tryz.ntmps19
     go_wp2
     go_region_held3 (fun w' => w'.cell? ⟨w.heap.size, 0, none⟩ = some (.int .i64 a) ∧ w'.cell? ⟨w.heap.size, 1, none⟩ = some (.int .u64 b)) (((repeat' apply And.intro) <;> ((repeat (first | refine (World.cell?_alloc_lt _ _ _ (by first | omega | (simp; omega) | (simp; done) | (dsimp only; omega))).trans ?_ | refine (World.cell?_setCell_far _ _ _ _ (by first | omega | (simp; omega) | (simp; done) | (dsimp only; omega))).trans ?_)); (first | assumption | (simp only [*]; done) | (refine (hc1 _ _ (by first | omega | (simp; omega) | (simp; done) | (dsimp only; omega))).trans ?_; (first | assumption | (simp only [*]; done) | (simp [go_sem]; done) | (simp [*, go_sem]; done))) | (simp [*, go_sem]; done))))) (first | (go_at_call 55; (with_reducible refine (HO1.out _).mono ?_); rintro e w1 ⟨rfl, hb1⟩; obtain ⟨hc1, hf1⟩ := bcell hb1; have hz1 := hb1.size; (try simp at hz1); (try have hy1 := Nat.lt_of_succ_le hz1); (try have hv1 := Nat.lt_of_succ_lt hy1); (try have hw10 : w.heap.size < w1.heap.size := by omega); (try have hw11 : w.heap.size + 1 < w1.heap.size := by omega); (try have hw12 : w.heap.size + 1 + 1 < w1.heap.size := by omega); (try have hw13 : w.heap.size + 1 + 1 + 1 < w1.heap.size := by omega)) | (go_at_call 55; (with_reducible refine (HO2.out _).mono ?_); rintro e w1 ⟨rfl, hb1⟩; obtain ⟨hc1, hf1⟩ := bcell hb1; have hz1 := hb1.size; (try simp at hz1); (try have hy1 := Nat.lt_of_succ_le hz1); (try have hv1 := Nat.lt_of_succ_lt hy1); (try have hw10 : w.heap.size < w1.heap.size := by omega); (try have hw11 : w.heap.size + 1 < w1.heap.size := by omega); (try have hw12 : w.heap.size + 1 + 1 < w1.heap.size := by omega); (try have hw13 : w.heap.size + 1 + 1 + 1 < w1.heap.size := by omega)) | (go_at_call 54; (with_reducible refine (HC1.out _).mono ?_); rintro e w1 ⟨rfl, hb1⟩; obtain ⟨hc1, hf1⟩ := bcell hb1; have hz1 := hb1.size; (try simp at hz1); (try have hy1 := Nat.lt_of_succ_le hz1); (try have hv1 := Nat.lt_of_succ_lt hy1); (try have hw10 : w.heap.size < w1.heap.size := by omega); (try have hw11 : w.heap.size + 1 < w1.heap.size := by omega); (try have hw12 : w.heap.size + 1 + 1 < w1.heap.size := by omega); (try have hw13 : w.heap.size + 1 + 1 + 1 < w1.heap.size := by omega)) | (go_at_call 54; (with_reducible refine (HC2.out _).mono ?_); rintro e w1 ⟨rfl, hb1⟩; obtain ⟨hc1, hf1⟩ := bcell hb1; have hz1 := hb1.size; (try simp at hz1); (try have hy1 := Nat.lt_of_succ_le hz1); (try have hv1 := Nat.lt_of_succ_lt hy1); (try have hw10 : w.heap.size < w1.heap.size := by omega); (try have hw11 : w.heap.size + 1 < w1.heap.size := by omega); (try have hw12 : w.heap.size + 1 + 1 < w1.heap.size := by omega); (try have hw13 : w.heap.size + 1 + 1 + 1 < w1.heap.size := by omega)) )
     go_wp2
     go_ret2
     exact ⟨rfl, (by repeat (first | (with_reducible assumption) | (with_reducible exact Below.refl _ _) | (with_reducible refine Below.alloc ?_ (by first | omega | (simp; omega) | (simp; done) | (dsimp only; omega)) _) | (with_reducible refine Below.setCell ?_ (by first | omega | (simp; omega) | (simp; done) | (dsimp only; omega)) _) | (with_reducible refine Below.drew ?_) | (with_reducible refine Below.trans ?_ (Below.mono (by assumption) (by first | omega | (simp; omega) | (simp; done) | (dsimp only; omega))))))⟩
  · have e2 : isI (wv a b) = false := by simpa using hI
    have e3 : intI (wv a b) = 0 := by unfold intI; rw [if_neg hI]
    rw [e2, e3]
    have h : ¬ I64 (wv a b) := fun h' => hI ((isI_iff _).2 h')
    unfold I64 at h
    by_cases h1 : wv a b < -9223372036854775808
    · rw [cmp_lt h1] at HC1
      clear hI e2 e3 h h1 ha hb
      go_enter Tryz.func19, Tryz.ntmps19
      go_wp2
      go_region_with ((first | (go_at_call 55; (with_reducible refine (HO1.out _).mono ?_); rintro e w1 ⟨rfl, hb1⟩; obtain ⟨hc1, hf1⟩ := bcell hb1; have hz1 := hb1.size; (try simp at hz1); (try have hy1 := Nat.lt_of_succ_le hz1); (try have hv1 := Nat.lt_of_succ_lt hy1); (try have hw10 : w.heap.size < w1.heap.size := by omega); (try have hw11 : w.heap.size + 1 < w1.heap.size := by omega); (try have hw12 : w.heap.size + 1 + 1 < w1.heap.size := by omega); (try have hw13 : w.heap.size + 1 + 1 + 1 < w1.heap.size := by omega)) | (go_at_call 54; (with_reducible refine (HC1.out _).mono ?_); rintro e w1 ⟨rfl, hb1⟩; obtain ⟨hc1, hf1⟩ := bcell hb1; have hz1 := hb1.size; (try simp at hz1); (try have hy1 := Nat.lt_of_succ_le hz1); (try have hv1 := Nat.lt_of_succ_lt hy1); (try have hw10 : w.heap.size < w1.heap.size := by omega); (try have hw11 : w.heap.size + 1 < w1.heap.size := by omega); (try have hw12 : w.heap.size + 1 + 1 < w1.heap.size := by omega); (try have hw13 : w.heap.size + 1 + 1 + 1 < w1.heap.size := by omega))))
      all_goals
        go_wp2
        go_ret2
        exact ⟨rfl, (by repeat (first | (with_reducible assumption) | (with_reducible exact Below.refl _ _) | (with_reducible refine Below.alloc ?_ (by first | omega | (simp; omega) | (simp; done) | (dsimp only; omega)) _) | (with_reducible refine Below.setCell ?_ (by first | omega | (simp; omega) | (simp; done) | (dsimp only; omega)) _) | (with_reducible refine Below.drew ?_) | (with_reducible refine Below.trans ?_ (Below.mono (by assumption) (by first | omega | (simp; omega) | (simp; done) | (dsimp only; omega))))))⟩
    · have h3 := cmp_ge (Int.not_lt.1 h1)
      rw [cmp_gt (show 9223372036854775807 < wv a b by omega)] at HC2
      generalize cmpI (wv a b) (-9223372036854775808) = c1 at *
      clear hI e2 e3 h h1 ha hb
      rcases h3 with rfl | rfl
      all_goals
       go_enter Tryz.func19, Tryz.ntmps19
       go_wp2
       go_region_held3 (fun w' => w'.cell? ⟨w.heap.size, 0, none⟩ = some (.int .i64 a) ∧ w'.cell? ⟨w.heap.size, 1, none⟩ = some (.int .u64 b)) (((repeat' apply And.intro) <;> ((repeat (first | refine (World.cell?_alloc_lt _ _ _ (by first | omega | (simp; omega) | (simp; done) | (dsimp only; omega))).trans ?_ | refine (World.cell?_setCell_far _ _ _ _ (by first | omega | (simp; omega) | (simp; done) | (dsimp only; omega))).trans ?_)); (first | assumption | (simp only [*]; done) | (refine (hc1 _ _ (by first | omega | (simp; omega) | (simp; done) | (dsimp only; omega))).trans ?_; (first | assumption | (simp only [*]; done) | (simp [go_sem]; done) | (simp [*, go_sem]; done))) | (simp [*, go_sem]; done))))) (first | (go_at_call 55; (with_reducible refine (HO1.out _).mono ?_); rintro e w1 ⟨rfl, hb1⟩; obtain ⟨hc1, hf1⟩ := bcell hb1; have hz1 := hb1.size; (try simp at hz1); (try have hy1 := Nat.lt_of_succ_le hz1); (try have hv1 := Nat.lt_of_succ_lt hy1); (try have hw10 : w.heap.size < w1.heap.size := by omega); (try have hw11 : w.heap.size + 1 < w1.heap.size := by omega); (try have hw12 : w.heap.size + 1 + 1 < w1.heap.size := by omega); (try have hw13 : w.heap.size + 1 + 1 + 1 < w1.heap.size := by omega)) | (go_at_call 55; (with_reducible refine (HO2.out _).mono ?_); rintro e w1 ⟨rfl, hb1⟩; obtain ⟨hc1, hf1⟩ := bcell hb1; have hz1 := hb1.size; (try simp at hz1); (try have hy1 := Nat.lt_of_succ_le hz1); (try have hv1 := Nat.lt_of_succ_lt hy1); (try have hw10 : w.heap.size < w1.heap.size := by omega); (try have hw11 : w.heap.size + 1 < w1.heap.size := by omega); (try have hw12 : w.heap.size + 1 + 1 < w1.heap.size := by omega); (try have hw13 : w.heap.size + 1 + 1 + 1 < w1.heap.size := by omega)) | (go_at_call 54; (with_reducible refine (HC1.out _).mono ?_); rintro e w1 ⟨rfl, hb1⟩; obtain ⟨hc1, hf1⟩ := bcell hb1; have hz1 := hb1.size; (try simp at hz1); (try have hy1 := Nat.lt_of_succ_le hz1); (try have hv1 := Nat.lt_of_succ_lt hy1); (try have hw10 : w.heap.size < w1.heap.size := by omega); (try have hw11 : w.heap.size + 1 < w1.heap.size := by omega); (try have hw12 : w.heap.size + 1 + 1 < w1.heap.size := by omega); (try have hw13 : w.heap.size + 1 + 1 + 1 < w1.heap.size := by omega)) | (go_at_call 54; (with_reducible refine (HC2.out _).mono ?_); rintro e w1 ⟨rfl, hb1⟩; obtain ⟨hc1, hf1⟩ := bcell hb1; have hz1 := hb1.size; (try simp at hz1); (try have hy1 := Nat.lt_of_succ_le hz1); (try have hv1 := Nat.lt_of_succ_lt hy1); (try have hw10 : w.heap.size < w1.heap.size := by omega); (try have hw11 : w.heap.size + 1 < w1.heap.size := by omega); (try have hw12 : w.heap.size + 1 + 1 < w1.heap.size := by omega); (try have hw13 : w.heap.size + 1 + 1 + 1 < w1.heap.size := by omega)) )
       go_wp2
       go_ret2
       exact ⟨rfl, (by repeat (first | (with_reducible assumption) | (with_reducible exact Below.refl _ _) | (with_reducible refine Below.alloc ?_ (by first | omega | (simp; omega) | (simp; done) | (dsimp only; omega)) _) | (with_reducible refine Below.setCell ?_ (by first | omega | (simp; omega) | (simp; done) | (dsimp only; omega)) _) | (with_reducible refine Below.drew ?_) | (with_reducible refine Below.trans ?_ (Below.mono (by assumption) (by first | omega | (simp; omega) | (simp; done) | (dsimp only; omega))))))⟩

end Go.Proofs.YtdpnphnafidpiaaGreat
