/- X-PARTIAL What each function of package wide returns: layer 1, what calls others. -/
import Derived.Test.YtdpnphnafidpiaaGreatWide
import Derived.Test.YtdpnphnafidpiaaGreatKit
import Derived.Deep.RegionHeld3
import Derived.StillTactics
import Derived.Laws.Pointers
import Derived.Shelf.Bits.Mul64
namespace Go.Proofs.YtdpnphnafidpiaaGreat
open Go.RowKit

theorem U64_0 : U64 0 := by unfold U64 M64; omega

theorem wv00 : wv 0 0 = 0 := rfl

set_option maxHeartbeats 400000 in
theorem wide_low (a b : Int) (w : World) :
    Calls Tryz.prog 104 #[.agg #[.int .i64 a, .int .u64 b]] w fun e w' =>
      e = .returned (.int .i64 (lowI b)) ∧ Below w.heap.size w w' := by
  go_enter Tryz.func104, Tryz.ntmps104
  go_wp2
  go_ret
  exact ⟨rfl, (by repeat (first | (with_reducible assumption) | (with_reducible exact Below.refl _ _) | (with_reducible refine Below.alloc ?_ (by first | omega | (simp; omega) | (simp; done) | (dsimp only; omega)) _) | (with_reducible refine Below.setCell ?_ (by first | omega | (simp; omega) | (simp; done) | (dsimp only; omega)) _) | (with_reducible refine Below.drew ?_) | (with_reducible refine Below.trans ?_ (Below.mono (by assumption) (by first | omega | (simp; omega) | (simp; done) | (dsimp only; omega))))))⟩

theorem of_hilo {a b : Int} (ha : I64 a) (hb : U64 b) : ∃ v, I128 v ∧ a = hiW v ∧ b = loW v ∧ wv a b = v :=
  ⟨wv a b, I128_wv ha hb, (hiW_wv a b hb).symm, (loW_wv a b hb).symm, rfl⟩

set_option maxHeartbeats 400000 in
theorem wide_int (a b : Int) (ha : I64 a) (hb : U64 b) (w : World) :
    Calls Tryz.prog 87 #[.agg #[.int .i64 a, .int .u64 b]] w fun e w' =>
      e = .returned (.tuple #[.int .i64 (intI (wv a b)), .bool (isI (wv a b))]) ∧ Below w.heap.size w w' := by
  obtain ⟨v, hv, rfl, rfl, e⟩ := of_hilo ha hb
  rw [e]; clear e
  have hl := fun w => wide_low (hiW v) (loW v) w
  have e1 : lowI (loW v) = lowI v := low_lo v
  rw [e1] at hl
  have HL := Lib.hid hl; clear hl e1
  have ho := fun w => wide_of (lowI v) (low_I64 v) w
  rw [lo_low] at ho
  by_cases h : I64 v
  · have e2 : isI v = true := (isI_iff v).2 h
    have e3 : intI v = v := by unfold intI; rw [if_pos e2]
    rw [e2, e3]
    have e4 := low_in h
    rw [e4] at HL ho
    have HO := Lib.hid ho; clear ho e2 e3 e4
    go_enter Tryz.func87, Tryz.ntmps87
    go_wp2_with (go_at_call 104; (with_reducible refine (HL.out _).mono ?_); rintro e w1 ⟨rfl, hb1⟩; obtain ⟨hc1, hf1⟩ := bcell hb1; have hz1 := hb1.size; (try simp at hz1); (try have hy1 := Nat.lt_of_succ_le hz1); (try have hv1 := Nat.lt_of_succ_lt hy1); (try have hw10 : w.heap.size < w1.heap.size := by omega); (try have hw11 : w.heap.size + 1 < w1.heap.size := by omega); (try have hw12 : w.heap.size + 1 + 1 < w1.heap.size := by omega); (try have hw13 : w.heap.size + 1 + 1 + 1 < w1.heap.size := by omega))
    go_region_held3 (fun w' => w'.cell? ⟨w.heap.size, 0, none⟩ = some (.int .i64 (hiW v)) ∧ w'.cell? ⟨w.heap.size, 1, none⟩ = some (.int .u64 (loW v))) (((repeat' apply And.intro) <;> ((repeat (first | refine (World.cell?_alloc_lt _ _ _ (by first | omega | (simp; omega) | (simp; done) | (dsimp only; omega))).trans ?_ | refine (World.cell?_setCell_far _ _ _ _ (by first | omega | (simp; omega) | (simp; done) | (dsimp only; omega))).trans ?_)); (first | assumption | (simp only [*]; done) | (refine (hc1 _ _ (by first | omega | (simp; omega) | (simp; done) | (dsimp only; omega))).trans ?_; (first | assumption | (simp only [*]; done) | (simp [go_sem]; done) | (simp [*, go_sem]; done))) | (simp [*, go_sem]; done))))) (first | (go_at_call 98; (with_reducible refine (HO.out _).mono ?_); rintro e w1 ⟨rfl, hb1⟩; obtain ⟨hc1, hf1⟩ := bcell hb1; have hz1 := hb1.size; (try simp at hz1); (try have hy1 := Nat.lt_of_succ_le hz1); (try have hv1 := Nat.lt_of_succ_lt hy1); (try have hw10 : w.heap.size < w1.heap.size := by omega); (try have hw11 : w.heap.size + 1 < w1.heap.size := by omega); (try have hw12 : w.heap.size + 1 + 1 < w1.heap.size := by omega); (try have hw13 : w.heap.size + 1 + 1 + 1 < w1.heap.size := by omega)) )
    go_wp2
    go_ret2
    exact ⟨rfl, (by repeat (first | (with_reducible assumption) | (with_reducible exact Below.refl _ _) | (with_reducible refine Below.alloc ?_ (by first | omega | (simp; omega) | (simp; done) | (dsimp only; omega)) _) | (with_reducible refine Below.setCell ?_ (by first | omega | (simp; omega) | (simp; done) | (dsimp only; omega)) _) | (with_reducible refine Below.drew ?_) | (with_reducible refine Below.trans ?_ (Below.mono (by assumption) (by first | omega | (simp; omega) | (simp; done) | (dsimp only; omega))))))⟩
  · have e2 : isI v = false := by rw [Bool.eq_false_iff]; exact fun h' => h ((isI_iff v).1 h')
    have e3 : intI v = 0 := by unfold intI; rw [e2]; rfl
    rw [e2, e3]
    have hne : (hiW (lowI v) == hiW v) = false := by simpa using low_hi_ne hv h
    have HO := Lib.hid ho; clear ho e2 e3
    go_enter Tryz.func87, Tryz.ntmps87
    go_wp2_with (go_at_call 104; (with_reducible refine (HL.out _).mono ?_); rintro e w1 ⟨rfl, hb1⟩; obtain ⟨hc1, hf1⟩ := bcell hb1; have hz1 := hb1.size; (try simp at hz1); (try have hy1 := Nat.lt_of_succ_le hz1); (try have hv1 := Nat.lt_of_succ_lt hy1); (try have hw10 : w.heap.size < w1.heap.size := by omega); (try have hw11 : w.heap.size + 1 < w1.heap.size := by omega); (try have hw12 : w.heap.size + 1 + 1 < w1.heap.size := by omega); (try have hw13 : w.heap.size + 1 + 1 + 1 < w1.heap.size := by omega))
    go_region_held3 (fun w' => w'.cell? ⟨w.heap.size, 0, none⟩ = some (.int .i64 (hiW v)) ∧ w'.cell? ⟨w.heap.size, 1, none⟩ = some (.int .u64 (loW v))) (((repeat' apply And.intro) <;> ((repeat (first | refine (World.cell?_alloc_lt _ _ _ (by first | omega | (simp; omega) | (simp; done) | (dsimp only; omega))).trans ?_ | refine (World.cell?_setCell_far _ _ _ _ (by first | omega | (simp; omega) | (simp; done) | (dsimp only; omega))).trans ?_)); (first | assumption | (simp only [*]; done) | (refine (hc1 _ _ (by first | omega | (simp; omega) | (simp; done) | (dsimp only; omega))).trans ?_; (first | assumption | (simp only [*]; done) | (simp [go_sem]; done) | (simp [*, go_sem]; done))) | (simp [*, go_sem]; done))))) (first | (go_at_call 98; (with_reducible refine (HO.out _).mono ?_); rintro e w1 ⟨rfl, hb1⟩; obtain ⟨hc1, hf1⟩ := bcell hb1; have hz1 := hb1.size; (try simp at hz1); (try have hy1 := Nat.lt_of_succ_le hz1); (try have hv1 := Nat.lt_of_succ_lt hy1); (try have hw10 : w.heap.size < w1.heap.size := by omega); (try have hw11 : w.heap.size + 1 < w1.heap.size := by omega); (try have hw12 : w.heap.size + 1 + 1 < w1.heap.size := by omega); (try have hw13 : w.heap.size + 1 + 1 + 1 < w1.heap.size := by omega)) )
    go_wp2
    go_ret2
    exact ⟨rfl, (by repeat (first | (with_reducible assumption) | (with_reducible exact Below.refl _ _) | (with_reducible refine Below.alloc ?_ (by first | omega | (simp; omega) | (simp; done) | (dsimp only; omega)) _) | (with_reducible refine Below.setCell ?_ (by first | omega | (simp; omega) | (simp; done) | (dsimp only; omega)) _) | (with_reducible refine Below.drew ?_) | (with_reducible refine Below.trans ?_ (Below.mono (by assumption) (by first | omega | (simp; omega) | (simp; done) | (dsimp only; omega))))))⟩

set_option maxHeartbeats 1000000 in
theorem bits_mul64n (x y : Nat) (hx : x < 18446744073709551616) (hy : y < 18446744073709551616) (w : World) :
    Calls Tryz.prog 103 #[.int .u64 x, .int .u64 y] w fun e w' =>
      e = .returned (.tuple #[.int .u64 ((x * y / 18446744073709551616 : Nat) : Int), .int .u64 ((x * y % 18446744073709551616 : Nat) : Int)]) ∧ w = w' := by
  obtain ⟨bd, bt, bw, hhi⟩ := Lib.mul64_hi x y hx hy
  have ba := Lib.half_mul_le (a := x / 4294967296) (b := y / 4294967296) (by omega) (by omega)
  have bb := Lib.half_mul_le (a := x / 4294967296) (b := y % 4294967296) (by omega) (by omega)
  have bc := Lib.half_mul_le (a := x % 4294967296) (b := y / 4294967296) (by omega) (by omega)
  have ba' : x / 4294967296 * (y / 4294967296) < 18446744073709551616 := by omega
  have bb' : x / 4294967296 * (y % 4294967296) < 18446744073709551616 := by omega
  have bc' : x % 4294967296 * (y / 4294967296) < 18446744073709551616 := by omega
  have bh1 : x / 4294967296 * (y / 4294967296) + (x / 4294967296 * (y % 4294967296) + x % 4294967296 * (y % 4294967296) / 4294967296) / 4294967296 < 18446744073709551616 := by omega
  have bh : x / 4294967296 * (y / 4294967296) + (x / 4294967296 * (y % 4294967296) + x % 4294967296 * (y % 4294967296) / 4294967296) / 4294967296 + ((x / 4294967296 * (y % 4294967296) + x % 4294967296 * (y % 4294967296) / 4294967296) % 4294967296 + x % 4294967296 * (y / 4294967296)) / 4294967296 < 18446744073709551616 := by omega
  go_enter Tryz.func103, Tryz.ntmps103
  go_wp2
  simp only [Mul64.maskN x hx, Mul64.maskN y hy, Mul64.divN, Mul64.mulN, Mul64.addN, Mul64.wrapN _ bd, Mul64.wrapN _ bb', Mul64.wrapN _ bt, Mul64.maskN _ bt, Mul64.wrapN _ bc', Mul64.wrapN _ bw, Mul64.wrapN _ ba', Mul64.wrapN _ bh1, Mul64.wrapN _ bh, Mul64.wrapM (x * y)]
  rw [hhi]
  go_ret2
  exact ⟨rfl, rfl⟩

theorem bits_mul64 (x y : Int) (hx : U64 x) (hy : U64 y) (w : World) :
    Calls Tryz.prog 103 #[.int .u64 x, .int .u64 y] w fun e w' =>
      e = .returned (.tuple #[.int .u64 (x * y / 18446744073709551616), .int .u64 (x * y % 18446744073709551616)]) ∧ w = w' := by
  unfold U64 M64 at hx hy
  obtain ⟨x, rfl⟩ := Int.eq_ofNat_of_zero_le hx.1
  obtain ⟨y, rfl⟩ := Int.eq_ofNat_of_zero_le hy.1
  exact bits_mul64n x y (by omega) (by omega) w

theorem mul_n2 (p x y : Int) : wrap64 (IntKind.u64.wrap (IntKind.u64.wrap (p - y) - x)) = wrap64 ((p - y - x) % 18446744073709551616) := by
  rw [wrapu, wrapu]; unfold wrap64; omega

theorem mul_n1 (p y : Int) : wrap64 (IntKind.u64.wrap (p - y)) = wrap64 ((p - y) % 18446744073709551616) := by
  rw [wrapu]

theorem mul_n0 (p : Int) : wrap64 p = wrap64 (p % 18446744073709551616) := by
  unfold wrap64; omega

set_option maxHeartbeats 400000 in
theorem wide_mul (a b : Int) (ha : I64 a) (hb : I64 b) (w : World) :
    Calls Tryz.prog 85 #[.int .i64 a, .int .i64 b] w fun e w' =>
      e = .returned (.agg #[.int .i64 (hiW (a * b)), .int .u64 (loW (a * b))]) ∧ Below w.heap.size w w' := by
  have HM := Lib.hid (bits_mul64 (IntKind.u64.wrap a) (IntKind.u64.wrap b) (U64.wrap a) (U64.wrap b))
  have HF := mul_fix a b ha hb _ _ rfl rfl
  clear ha hb
  by_cases h1 : a < 0 <;> by_cases h2 : b < 0
  all_goals
    simp only [h1, h2, if_true, if_false, Int.sub_zero] at HF
    rw [← HF.1, ← HF.2]; clear HF
    go_enter Tryz.func85, Tryz.ntmps85
    go_wp2_with (go_at_call 103; refine (HM.out _).mono ?_; rintro e w1 ⟨rfl, rfl⟩)
    refine bodyPost_ret (by simp [results, Tryz.results85, go_sem] <;> rfl) rfl ⟨ret_v ?_, (by repeat (first | (with_reducible assumption) | (with_reducible exact Below.refl _ _) | (with_reducible refine Below.alloc ?_ (by first | omega | (simp; omega) | (simp; done) | (dsimp only; omega)) _) | (with_reducible refine Below.setCell ?_ (by first | omega | (simp; omega) | (simp; done) | (dsimp only; omega)) _) | (with_reducible refine Below.drew ?_) | (with_reducible refine Below.trans ?_ (Below.mono (by assumption) (by first | omega | (simp; omega) | (simp; done) | (dsimp only; omega))))))⟩
    first | rw [mul_n2] | rw [mul_n1] | rw [← mul_n0]

end Go.Proofs.YtdpnphnafidpiaaGreat
