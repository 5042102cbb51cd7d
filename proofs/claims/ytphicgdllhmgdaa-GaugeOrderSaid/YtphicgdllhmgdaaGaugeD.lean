/- What the functions of package gauge return, whatever the counts: layer 35. -/
import Derived.Test.YtphicgdllhmgdaaGaugeC
import Derived.Test.YtphicgdllhmgdaaFloat
namespace Go.Proofs.Ytphicgdllhmgdaa
open Go.RowKit

def partN (n : Int) : Nat := (if 2147483647 < (if 0 > n then 0 else n) then 2147483647 else (if 0 > n then 0 else n)).toNat
theorem partN_lt (n : Int) : partN n ≤ 2147483647 := by unfold partN; split <;> split <;> omega
def capN (n : Nat) : Nat := if 4503599627370496 < n then 4503599627370496 else n
theorem capN_le (n : Nat) : capN n ≤ 4503599627370496 := by unfold capN; split <;> omega

theorem fl_cap : FL 4503599627370496 = 4841369599423283200 := by kernel_rfl
theorem min_fl {P : Program} (w : World) (ts : Array TypeId) (t : TypeId) {a : Nat} (ha : a < 2 ^ 53) :
    (Builtin.min_ ts t #[.float .f64 (FL a), .float .f64 4841369599423283200]).run P w = .ok (.float .f64 (FL (capN a))) w := by
  have ho : FloatKind.f64.format.order (FL a) 4841369599423283200 = some (compare a 4503599627370496) := by
    rw [← fl_cap]; exact order_fl ha (by decide)
  rcases Nat.lt_trichotomy a 4503599627370496 with h | h | h
  · have hc : compare a 4503599627370496 = .lt := Nat.compare_eq_lt.2 h
    have e : capN a = a := if_neg (by omega)
    rw [hc] at ho
    rw [e]
    simp [Builtin.min_, Builtin.min2, ho]
  · subst h
    have hc : compare 4503599627370496 4503599627370496 = .eq := by decide
    rw [hc] at ho
    rw [show capN 4503599627370496 = 4503599627370496 from rfl]
    rw [fl_cap] at ho ⊢
    simp [Builtin.min_, Builtin.min2, ho]
  · have hc : compare a 4503599627370496 = .gt := Nat.compare_eq_gt.2 h
    have e : capN a = 4503599627370496 := if_pos h
    rw [hc] at ho
    rw [e, fl_cap]
    simp [Builtin.min_, Builtin.min2, ho]

theorem inc_fl {a c : Nat} (ha : a ≤ 4503599627370496) (hc : c ≤ 4503599627370496) :
    ∃ r, floatBits .add .f64 (FL a) (FL c) = some r ∧ ∀ (P : Program) (w : World) (ts : Array TypeId) (t : TypeId), (Builtin.min_ ts t #[.float .f64 r, .float .f64 4841369599423283200]).run P w = .ok (.float .f64 (FL (capN (a + c)))) w := by
  by_cases h : a + c < 9007199254740992
  · exact ⟨FL (a + c), add_fl h, fun P w ts t => min_fl w ts t h⟩
  · obtain rfl : a = 4503599627370496 := by omega
    obtain rfl : c = 4503599627370496 := by omega
    refine ⟨4845873199050653696, by kernel_rfl, fun P w ts t => ?_⟩
    have ho : FloatKind.f64.format.order 4845873199050653696 4841369599423283200 = some .gt := by kernel_rfl
    rw [show capN (4503599627370496 + 4503599627370496) = 4503599627370496 from rfl, fl_cap]
    simp [Builtin.min_, Builtin.min2, ho]

set_option maxHeartbeats 1000000 in
theorem gauge_part (n : Int) (w : World) : Calls Try.prog 64 #[.int .i64 n] w fun e w' => e = .returned (.float .f64 (FL (partN n))) ∧ w = w' := by
  have e : floatOfInt .f64 (if 2147483647 < (if 0 > n then 0 else n) then 2147483647 else (if 0 > n then 0 else n)) = FL (partN n) := by
    have h := ofInt_fl (a := partN n) (by have := partN_lt n; omega)
    unfold floatOfInt
    rw [← h]
    congr 1
    unfold partN
    split <;> split <;> omega
  generalize FL (partN n) = r at *
  go_enter Try.func64, Try.ntmps64
  go_wp2
  all_goals
    go_ret
    exact ⟨by first | rfl | (rw [← e]; rfl), rfl⟩

set_option maxHeartbeats 1000000 in
theorem gauge_inc (p a b c d : Nat) (ha : a ≤ 4503599627370496) (hb : b ≤ 4503599627370496) (hc : c ≤ 4503599627370496) (hd : d ≤ 4503599627370496) (w : World) (hx : w.cell? ⟨p, 0, none⟩ = some (.complex .f64 (FL a) (FL b))) (hf : w.frozen? ⟨p, 0, none⟩ = false) :
    Calls Try.prog 63 #[.pointer (some ⟨p, 0, none⟩), .complex .f64 (FL c) (FL d)] w fun e w' => e = .returned (.tuple #[]) ∧ w' = w.setCell ⟨p, 0, none⟩ (.complex .f64 (FL (capN (a + c))) (FL (capN (b + d)))) := by
  obtain ⟨r, h1, h2⟩ := inc_fl ha hc
  obtain ⟨s, h3, h4⟩ := inc_fl hb hd
  have hs : cSumBits .add .f64 (FL a) (FL b) (FL c) (FL d) = some (r, s) := by unfold cSumBits; rw [h1, h3]; rfl
  have kc := fun w : World => run_complex_sum (P := Try.prog) w .add (Or.inl rfl) 72 .f64 _ _ _ _ r s hs
  have k1 := fun w : World => h2 Try.prog w #[76, 76] 76
  have k2 := fun w : World => h4 Try.prog w #[76, 76] 76
  have ks := fun (w : World) (ad : Addr) (x y : Nat) => run_store Try.prog w ad (.complex .f64 x y) .plain rfl
  generalize FL (capN (a + c)) = x at *
  generalize FL (capN (b + d)) = y at *
  generalize FL a = a' at *
  generalize FL b = b' at *
  generalize FL c = c' at *
  generalize FL d = d' at *
  clear h1 h2 h3 h4 hs
  go_enter Try.func63, Try.ntmps63
  go_wp2
  go_end0
  exact ⟨rfl, rfl⟩

theorem toi_fl {a : Nat} (ha : a ≤ 4503599627370496) : floatToIntVal .f64 (FL a) .i64 = some (a : Int) := by
  unfold floatToIntVal
  rw [toInt_fl (by omega)]
  dsimp only
  have h1 : IntKind.i64.min = -9223372036854775808 := rfl
  have h2 : IntKind.i64.max = 9223372036854775807 := rfl
  rw [h1, h2, if_pos (by omega)]

set_option maxHeartbeats 1000000 in
theorem gauge_add (p a b : Nat) (m n : Int) (ha : a ≤ 4503599627370496) (hb : b ≤ 4503599627370496) (w : World) (hx : w.cell? ⟨p, 0, none⟩ = some (.complex .f64 (FL a) (FL b))) (hf : w.frozen? ⟨p, 0, none⟩ = false) :
    Calls Try.prog 47 #[.pointer (some ⟨p, 0, none⟩), .int .i64 m, .int .i64 n] w fun e w' => e = .returned (.tuple #[]) ∧ w' = w.setCell ⟨p, 0, none⟩ (.complex .f64 (FL (capN (a + partN m))) (FL (capN (b + partN n)))) := by
  have HM := Lib.hid (gauge_part m)
  have HN := Lib.hid (gauge_part n)
  have HI := Lib.hid (gauge_inc p a b (partN m) (partN n) ha hb (by have := partN_lt m; omega) (by have := partN_lt n; omega) w hx hf)
  generalize FL (partN m) = x at *
  generalize FL (partN n) = y at *
  go_enter Try.func47, Try.ntmps47
  go_wp2_with (first | (go_at_call 64; (with_reducible refine (HM.out _).mono ?_); rintro e w1 ⟨rfl, rfl⟩) | (go_at_call 64; (with_reducible refine (HN.out _).mono ?_); rintro e w1 ⟨rfl, rfl⟩) | (go_at_call 63; (with_reducible refine (HI.out).mono ?_); rintro e w1 ⟨rfl, rfl⟩))
  go_end0
  exact ⟨rfl, rfl⟩

set_option maxHeartbeats 1000000 in
theorem gauge_join (p q a b c d : Nat) (ha : a ≤ 4503599627370496) (hb : b ≤ 4503599627370496) (hc : c ≤ 4503599627370496) (hd : d ≤ 4503599627370496) (w : World) (hx : w.cell? ⟨p, 0, none⟩ = some (.complex .f64 (FL a) (FL b))) (hy : w.cell? ⟨q, 0, none⟩ = some (.complex .f64 (FL c) (FL d))) (hf : w.frozen? ⟨p, 0, none⟩ = false) :
    Calls Try.prog 45 #[.pointer (some ⟨p, 0, none⟩), .pointer (some ⟨q, 0, none⟩)] w fun e w' => e = .returned (.tuple #[]) ∧ w' = w.setCell ⟨p, 0, none⟩ (.complex .f64 (FL (capN (a + c))) (FL (capN (b + d)))) := by
  have HI := Lib.hid (gauge_inc p a b c d ha hb hc hd w hx hf)
  go_enter Try.func45, Try.ntmps45
  go_wp2_with (go_at_call 63; (with_reducible refine (HI.out).mono ?_); rintro e w1 ⟨rfl, rfl⟩)
  go_end0
  exact ⟨rfl, rfl⟩

set_option maxHeartbeats 1000000 in
theorem gauge_parts (p a b : Nat) (ha : a ≤ 4503599627370496) (hb : b ≤ 4503599627370496) (w : World) (hc : w.cell? ⟨p, 0, none⟩ = some (.complex .f64 (FL a) (FL b))) :
    Calls Try.prog 49 #[.pointer (some ⟨p, 0, none⟩)] w fun e w' => e = .returned (.tuple #[.int .i64 a, .int .i64 b]) ∧ w' = w.drew := by
  have kv := fun w : World => run_convert_float_int (P := Try.prog) w 76 3 .f64 .i64 (FL a) a rfl rfl (toi_fl ha)
  have ku := fun w : World => run_convert_float_int (P := Try.prog) w 76 3 .f64 .i64 (FL b) b rfl rfl (toi_fl hb)
  generalize FL a = x at *
  generalize FL b = y at *
  go_enter Try.func49, Try.ntmps49
  go_wp2
  go_region
  go_wp2
  go_ret2
  exact ⟨rfl, rfl⟩

/-- Of a thousand. -/
def shareN (a b : Nat) : Nat := if a + b = 0 then 0 else b * 1000 / (a + b)
theorem shareN_le (a b : Nat) : shareN a b ≤ 1000 := by
  unfold shareN; split
  · omega
  · exact Nat.div_le_of_le_mul (by omega)

set_option maxHeartbeats 1000000 in
theorem gauge_share (p a b : Nat) (ha : a ≤ 4503599627370496) (hb : b ≤ 4503599627370496) (w : World) (hc : w.cell? ⟨p, 0, none⟩ = some (.complex .f64 (FL a) (FL b))) :
    Calls Try.prog 50 #[.pointer (some ⟨p, 0, none⟩)] w fun e w' => e = .returned (.int .i64 (shareN a b)) ∧ w' = w.drew := by
  have HP := Lib.hid (gauge_parts p a b ha hb w hc)
  by_cases h0 : a + b = 0
  · rw [show shareN a b = 0 from if_pos h0]
    obtain rfl : a = 0 := by omega
    obtain rfl : b = 0 := by omega
    go_enter Try.func50, Try.ntmps50
    go_wp2_with (go_at_call 49; (with_reducible refine (HP.out).mono ?_); rintro e w1 ⟨rfl, rfl⟩)
    go_ret
    exact ⟨rfl, rfl⟩
  · have e : shareN a b = b * 1000 / (a + b) := if_neg h0
    have h1 : (((a : Nat) : Int) + ((b : Nat) : Int) == 0) = false := by simp; omega
    have h2 : ¬ ((a : Nat) : Int) + ((b : Nat) : Int) = 0 := by omega
    have h3 : ((b : Nat) : Int) * 1000 / (((a : Nat) : Int) + ((b : Nat) : Int)) = ((shareN a b : Nat) : Int) := by
      rw [e, ← Int.natCast_add, show ((b : Nat) : Int) * 1000 = ((b * 1000 : Nat) : Int) by omega]; exact (Int.natCast_ediv _ _).symm
    have h4 := shareN_le a b
    generalize shareN a b = s at *
    go_enter Try.func50, Try.ntmps50
    go_wp2_with (go_at_call 49; (with_reducible refine (HP.out).mono ?_); rintro e w1 ⟨rfl, rfl⟩)
    go_ret
    exact ⟨ret_int (by rw [h3]), rfl⟩
end Go.Proofs.Ytphicgdllhmgdaa
