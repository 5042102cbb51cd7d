/- X-PARTIAL What span.below, span.above and span.Widen return: layer 3. -/
import Derived.Test.YtdpnphnafidpiaaGreatSpanZ
import Derived.Test.YtdpnphnafidpiaaGreatRow
import Derived.LoopTactic
namespace Go.Proofs.YtdpnphnafidpiaaGreat
open Go.RowKit

theorem below_snoc (l : List Int) (x n : Int) : below (l ++ [x]) n = if x ≤ n then max (below l n) x else below l n := by
  unfold below; rw [List.foldl_append]; rfl

theorem above_snoc (l : List Int) (x n : Int) : above (l ++ [x]) n = if n ≤ x then min (above l n) x else above l n := by
  unfold above; rw [List.foldl_append]; rfl

def BestRel (f : List Int → Int → Int) (l : List Int) (n : Int) (b i : Value) : Prop := ∃ k : Nat, k ≤ l.length ∧ i = .int .i64 k ∧ b = .int .i64 (f (l.take k) n)

set_option maxHeartbeats 1000000 in
theorem span_below (l : List Int) (A : Option Addr) (c : Nat) (n : Int) (w : World) (hm : l.length ≤ 9223372036854775807) (hr : IRow w A l) :
    Calls Tryz.prog 63 #[.slice A l.length c, .int .i64 n] w fun e w' => e = .returned (.int .i64 (below l n)) ∧ w = w' := by
  go_enter Tryz.func63, Tryz.ntmps63
  go_wp2
  go_loop [5, 9] (fun b i => BestRel below l n b i) (fun _ i => l.length - (intOf i).toNat)
  case atStart => exact ⟨0, Nat.zero_le _, rfl, rfl⟩
  case round =>
    obtain ⟨k, hk, rfl, rfl⟩ := hrel
    by_cases hlt : k < l.length
    · obtain ⟨b, o, rfl, hc, _⟩ := hr.cell hlt
      have hs := take_snoc' l k hlt
      have hb := below_snoc (l.take k) l[k] n
      rw [← hs] at hb
      have HB := Lib.hid hb
      clear hb hs
      generalize l[k] = x at *
      by_cases h1 : x ≤ n
      · by_cases h2 : below (l.take k) n < x
        all_goals
          go_wp2
          go_round
          case rel => exact ⟨k + 1, by omega, by go_num, by rw [HB.out, if_pos h1]; congr 1; omega⟩
          case measure => simp [intOf]; omega
      · go_wp2
        go_round
        case rel => exact ⟨k + 1, by omega, by go_num, by rw [HB.out, if_neg h1]⟩
        case measure => simp [intOf]; omega
    · go_wp2
      go_ret
      exact ⟨ret_int (by rw [List.take_of_length_le (by omega)]), rfl⟩

set_option maxHeartbeats 1000000 in
theorem span_above (l : List Int) (A : Option Addr) (c : Nat) (n : Int) (w : World) (hm : l.length ≤ 9223372036854775807) (hr : IRow w A l) :
    Calls Tryz.prog 64 #[.slice A l.length c, .int .i64 n] w fun e w' => e = .returned (.int .i64 (above l n)) ∧ w = w' := by
  go_enter Tryz.func64, Tryz.ntmps64
  go_wp2
  go_loop [5, 9] (fun b i => BestRel above l n b i) (fun _ i => l.length - (intOf i).toNat)
  case atStart => exact ⟨0, Nat.zero_le _, rfl, rfl⟩
  case round =>
    obtain ⟨k, hk, rfl, rfl⟩ := hrel
    by_cases hlt : k < l.length
    · obtain ⟨b, o, rfl, hc, _⟩ := hr.cell hlt
      have hs := take_snoc' l k hlt
      have hb := above_snoc (l.take k) l[k] n
      rw [← hs] at hb
      have HB := Lib.hid hb
      clear hb hs
      generalize l[k] = x at *
      by_cases h1 : n ≤ x
      · by_cases h2 : x < above (l.take k) n
        all_goals
          go_wp2
          go_round
          case rel => exact ⟨k + 1, by omega, by go_num, by rw [HB.out, if_pos h1]; congr 1; omega⟩
          case measure => simp [intOf]; omega
      · go_wp2
        go_round
        case rel => exact ⟨k + 1, by omega, by go_num, by rw [HB.out, if_neg h1]⟩
        case measure => simp [intOf]; omega
    · go_wp2
      go_ret
      exact ⟨ret_int (by rw [List.take_of_length_le (by omega)]), rfl⟩

theorem Sp.widen_1 {a b : Sp} (l : List Int) (h : a.none = true) : a.widen b l = b.clean := by unfold Sp.widen; rw [if_pos h]

theorem Sp.widen_2 {a b : Sp} (l : List Int) (h : a.none = false) (h' : b.leq a = true) : a.widen b l = a := by unfold Sp.widen; rw [if_neg (by rw [h]; decide), if_pos h']

theorem Sp.widen_3 {a b : Sp} (l : List Int) (h : a.none = false) (h' : b.leq a = false) : a.widen b l = Sp.of (if b.lo < a.lo then below l b.lo else a.lo) (if a.hi < b.hi then above l b.hi else a.hi) := by
  unfold Sp.widen; rw [if_neg (by rw [h]; decide), if_neg (by rw [h']; decide)]

set_option maxHeartbeats 1000000 in
theorem span_widen (a b : Sp) (l : List Int) (A : Option Addr) (c : Nat) (w : World) (hm : l.length ≤ 9223372036854775807) (hr : IRow w A l) :
    Calls Tryz.prog 25 #[.agg #[.bool a.s, .int .i64 a.lo, .int .i64 a.hi], .agg #[.bool b.s, .int .i64 b.lo, .int .i64 b.hi], .slice A l.length c] w fun e w' => e = .returned (.agg #[.bool (a.widen b l).s, .int .i64 (a.widen b l).lo, .int .i64 (a.widen b l).hi]) ∧ Below w.heap.size w w' := by
  have hn := span_none a
  have hl := span_leq b a
  have HC := Lib.hid (span_clean b)
  have hdr : ∀ w : World, w.drew.heap.size = w.heap.size := fun _ => rfl
  by_cases h : a.none = true
  · rw [Sp.widen_1 l h]; rw [h] at hn
    have HN := Lib.hid hn; clear hn h hl hm hr
    go_enter Tryz.func25, Tryz.ntmps25
    go_wp2_with (first | (go_at_call 62; (with_reducible refine (HN.out _).mono ?_); rintro e w1 ⟨rfl, hb1⟩; obtain ⟨hc1, hf1⟩ := bcell hb1; have hz1 := hb1.size; (try simp at hz1); (try have hy1 := Nat.lt_of_succ_le hz1); (try have hv1 := Nat.lt_of_succ_lt hy1); (try have hw10 : w.heap.size < w1.heap.size := by omega); (try have hw11 : w.heap.size + 1 < w1.heap.size := by omega); (try have hw12 : w.heap.size + 1 + 1 < w1.heap.size := by omega); (try have hw13 : w.heap.size + 1 + 1 + 1 < w1.heap.size := by omega)) | (go_at_call 60; (with_reducible refine (HC.out _).mono ?_); rintro e w1 ⟨rfl, hb1⟩; obtain ⟨hc1, hf1⟩ := bcell hb1; have hz1 := hb1.size; (try simp at hz1); (try have hy1 := Nat.lt_of_succ_le hz1); (try have hv1 := Nat.lt_of_succ_lt hy1); (try have hw10 : w.heap.size < w1.heap.size := by omega); (try have hw11 : w.heap.size + 1 < w1.heap.size := by omega); (try have hw12 : w.heap.size + 1 + 1 < w1.heap.size := by omega); (try have hw13 : w.heap.size + 1 + 1 + 1 < w1.heap.size := by omega)))
    exact bodyPost_ret (by simp [results, Tryz.results25, go_sem, *] <;> rfl) rfl ⟨rfl, (by repeat (first | (with_reducible assumption) | (with_reducible exact Below.refl _ _) | (with_reducible refine Below.alloc ?_ (by first | omega | (simp; omega) | (simp; done) | (dsimp only; omega)) _) | (with_reducible refine Below.setCell ?_ (by first | omega | (simp; omega) | (simp; done) | (dsimp only; omega)) _) | (with_reducible refine Below.drew ?_) | (with_reducible refine Below.trans ?_ (Below.mono (by assumption) (by first | omega | (simp; omega) | (simp; done) | (dsimp only; omega))))))⟩
  · rw [Bool.not_eq_true] at h
    by_cases h' : b.leq a = true
    · rw [Sp.widen_2 l h h']; rw [h] at hn; rw [h'] at hl
      have HN := Lib.hid hn; have HL := Lib.hid hl; clear hn h hl h' hm hr
      go_enter Tryz.func25, Tryz.ntmps25
      go_wp2_with (first | (go_at_call 62; (with_reducible refine (HN.out _).mono ?_); rintro e w1 ⟨rfl, hb1⟩; obtain ⟨hc1, hf1⟩ := bcell hb1; have hz1 := hb1.size; (try simp at hz1); (try have hy1 := Nat.lt_of_succ_le hz1); (try have hv1 := Nat.lt_of_succ_lt hy1); (try have hw10 : w.heap.size < w1.heap.size := by omega); (try have hw11 : w.heap.size + 1 < w1.heap.size := by omega); (try have hw12 : w.heap.size + 1 + 1 < w1.heap.size := by omega); (try have hw13 : w.heap.size + 1 + 1 + 1 < w1.heap.size := by omega)) | (go_at_call 48; (with_reducible refine (HL.out _).mono ?_); rintro e w1 ⟨rfl, hb1⟩; obtain ⟨hc1, hf1⟩ := bcell hb1; have hz1 := hb1.size; (try simp at hz1); (try have hy1 := Nat.lt_of_succ_le hz1); (try have hv1 := Nat.lt_of_succ_lt hy1); (try have hw10 : w.heap.size < w1.heap.size := by omega); (try have hw11 : w.heap.size + 1 < w1.heap.size := by omega); (try have hw12 : w.heap.size + 1 + 1 < w1.heap.size := by omega); (try have hw13 : w.heap.size + 1 + 1 + 1 < w1.heap.size := by omega)))
      exact bodyPost_ret (by simp [results, Tryz.results25, go_sem, *] <;> rfl) rfl ⟨rfl, (by repeat (first | (with_reducible assumption) | (with_reducible exact Below.refl _ _) | (with_reducible refine Below.alloc ?_ (by first | omega | (simp; omega) | (simp; done) | (dsimp only; omega)) _) | (with_reducible refine Below.setCell ?_ (by first | omega | (simp; omega) | (simp; done) | (dsimp only; omega)) _) | (with_reducible refine Below.drew ?_) | (with_reducible refine Below.trans ?_ (Below.mono (by assumption) (by first | omega | (simp; omega) | (simp; done) | (dsimp only; omega))))))⟩
    · rw [Bool.not_eq_true] at h'
      rw [Sp.widen_3 l h h']; rw [h] at hn; rw [h'] at hl
      have HN := Lib.hid hn; have HL := Lib.hid hl; clear hn h hl h'
      have HR : Hid (∀ w', Below w.heap.size w w' → IRow w' A l) := Lib.hid (fun w' h => hr.mono h)
      clear hr
      by_cases h1 : b.lo < a.lo <;> by_cases h2 : a.hi < b.hi <;> simp only [h1, h2, if_true, if_false]
      all_goals
        go_enter Tryz.func25, Tryz.ntmps25
        go_wp2_with (first | (go_at_call 62; (with_reducible refine (HN.out _).mono ?_); rintro e w1 ⟨rfl, hb1⟩; obtain ⟨hc1, hf1⟩ := bcell hb1; have hz1 := hb1.size; (try simp at hz1); (try have hy1 := Nat.lt_of_succ_le hz1); (try have hv1 := Nat.lt_of_succ_lt hy1); (try have hw10 : w.heap.size < w1.heap.size := by omega); (try have hw11 : w.heap.size + 1 < w1.heap.size := by omega); (try have hw12 : w.heap.size + 1 + 1 < w1.heap.size := by omega); (try have hw13 : w.heap.size + 1 + 1 + 1 < w1.heap.size := by omega)) | (go_at_call 48; (with_reducible refine (HL.out _).mono ?_); rintro e w1 ⟨rfl, hb1⟩; obtain ⟨hc1, hf1⟩ := bcell hb1; have hz1 := hb1.size; (try simp at hz1); (try have hy1 := Nat.lt_of_succ_le hz1); (try have hv1 := Nat.lt_of_succ_lt hy1); (try have hw10 : w.heap.size < w1.heap.size := by omega); (try have hw11 : w.heap.size + 1 < w1.heap.size := by omega); (try have hw12 : w.heap.size + 1 + 1 < w1.heap.size := by omega); (try have hw13 : w.heap.size + 1 + 1 + 1 < w1.heap.size := by omega)))
        go_region
        go_wp2_with (first | (go_at_call 63; (with_reducible refine (span_below _ _ _ _ _ hm (HR.out _ (by repeat (first | (with_reducible assumption) | (with_reducible exact Below.refl _ _) | (with_reducible refine Below.alloc ?_ (by first | omega | (simp; omega) | (simp; done) | (dsimp only; omega)) _) | (with_reducible refine Below.setCell ?_ (by first | omega | (simp; omega) | (simp; done) | (dsimp only; omega)) _) | (with_reducible refine Below.drew ?_) | (with_reducible refine Below.trans ?_ (Below.mono (by assumption) (by first | omega | (simp; omega) | (simp; done) | (dsimp only; omega)))))))).mono ?_); rintro e w1 ⟨rfl, rfl⟩) | (go_at_call 64; (with_reducible refine (span_above _ _ _ _ _ hm (HR.out _ (by repeat (first | (with_reducible assumption) | (with_reducible exact Below.refl _ _) | (with_reducible refine Below.alloc ?_ (by first | omega | (simp; omega) | (simp; done) | (dsimp only; omega)) _) | (with_reducible refine Below.setCell ?_ (by first | omega | (simp; omega) | (simp; done) | (dsimp only; omega)) _) | (with_reducible refine Below.drew ?_) | (with_reducible refine Below.trans ?_ (Below.mono (by assumption) (by first | omega | (simp; omega) | (simp; done) | (dsimp only; omega)))))))).mono ?_); rintro e w1 ⟨rfl, rfl⟩) | (go_at_call 65; (with_reducible refine (span_of _ _ _).mono ?_); rintro e w1 ⟨rfl, hb1⟩; obtain ⟨hc1, hf1⟩ := bcell hb1; have hz1 := hb1.size; (try simp at hz1); (try have hy1 := Nat.lt_of_succ_le hz1); (try have hv1 := Nat.lt_of_succ_lt hy1); (try have hw10 : w.heap.size < w1.heap.size := by omega); (try have hw11 : w.heap.size + 1 < w1.heap.size := by omega); (try have hw12 : w.heap.size + 1 + 1 < w1.heap.size := by omega); (try have hw13 : w.heap.size + 1 + 1 + 1 < w1.heap.size := by omega)))
        exact bodyPost_ret (by simp [results, Tryz.results25, go_sem, *] <;> rfl) rfl ⟨rfl, (by repeat (first | (with_reducible assumption) | (with_reducible exact Below.refl _ _) | (with_reducible refine Below.alloc ?_ (by first | omega | (simp; omega) | (simp; done) | (dsimp only; omega)) _) | (with_reducible refine Below.setCell ?_ (by first | omega | (simp; omega) | (simp; done) | (dsimp only; omega)) _) | (with_reducible refine Below.drew ?_) | (with_reducible refine Below.trans ?_ (Below.mono (by assumption) (by first | omega | (simp; omega) | (simp; done) | (dsimp only; omega))))))⟩

end Go.Proofs.YtdpnphnafidpiaaGreat
