/- X-PARTIAL Numbers of keys' texts: layer 26. -/
import Derived.Test.YtfammopenanapaaDoorKeyD
import Derived.LoopTactic
namespace Go.Proofs.YtfammopenanapaaDoor
open Go.RowKit Go.Lib

theorem isDg_nat {c : UInt8} : isDg c = true ↔ 48 ≤ c.toNat ∧ c.toNat ≤ 57 := by
  unfold isDg; rw [Bool.and_eq_true, decide_eq_true_eq, decide_eq_true_eq]
theorem all_nextD {s : Str} {k : Nat} (h : k < s.length) (ha : (s.take k).all isDg = true) (hp : isDg s[k] = true) : (s.take (k + 1)).all isDg = true := by
  rw [List.take_succ_eq_append_getElem h, List.all_append, ha]
  simp [hp]
theorem all_stopD {s : Str} {k : Nat} (h : k < s.length) (hp : isDg s[k] = false) : s.all isDg = false := by
  rw [List.all_eq_false]
  exact ⟨s[k], List.getElem_mem h, by simp [hp]⟩

set_option maxRecDepth 1000000 in
set_option maxHeartbeats 4000000 in
theorem key_number (s : Str) (w : World) (hm : s.length ≤ 9223372036854775807) :
    Calls Tryd.prog 52 #[encStr s] w fun e w' => e = .returned (.bool (isNum s)) ∧ w' = w := by
  generalize hR : isNum s = R
  have HO := Lib.hid hR
  clear hR
  go_enter Tryd.func52, Tryd.ntmps52
  go_wp2_with fail
  go_loopw [6] (fun v6 wr => ∃ k : Nat, k ≤ s.length ∧ v6 = .int .i64 k ∧ (s.take k).all isDg = true ∧ wr = w) (fun v6 _ => s.length - (RowKit.intOf v6).toNat)
  case atStart => exact ⟨0, Nat.zero_le _, rfl, rfl, rfl⟩
  case round =>
    obtain ⟨k, hk, rfl, ha, rfl⟩ := hrel
    by_cases hlt : k < s.length
    · have ik : (k : Int) < s.length := by omega
      have hg := mk_get s k hlt
      cases hd : isDg s[k] with
      | true =>
        have HA := Lib.hid (all_nextD hlt ha hd)
        obtain ⟨h1, h2⟩ := isDg_nat.1 hd
        clear ha hd
        generalize s[k] = c at *
        have i1 : ¬ (c.toNat : Int) < 48 := by omega
        have i2 : ¬ (57 : Int) < c.toNat := by omega
        go_wp2_with fail
        go_roundw
        case rel => exact ⟨k + 1, by omega, by go_num, HA.out, trivial⟩
        case measure => simp [RowKit.intOf]; omega
      | false =>
        have HF : R = false := by rw [← HO.out]; unfold isNum; rw [all_stopD hlt hd]; rfl
        subst HF
        have hd' : ¬ (48 ≤ s[k].toNat ∧ s[k].toNat ≤ 57) := fun h => by rw [isDg_nat.2 h] at hd; exact absurd hd (by decide)
        clear ha hd
        generalize s[k] = c at *
        by_cases h1 : c.toNat < 48
        · have i1 : (c.toNat : Int) < 48 := by omega
          go_wp2_with fail
          go_ret
          exact ⟨rfl, rfl⟩
        · have i1 : ¬ (c.toNat : Int) < 48 := by omega
          have i2 : (57 : Int) < c.toNat := by omega
          go_wp2_with fail
          go_ret
          exact ⟨rfl, rfl⟩
    · have ik : ¬ (k : Int) < s.length := by omega
      have hall : s.all isDg = true := by rw [show k = s.length by omega, List.take_length] at ha; exact ha
      have hT : R = (s == [48] || s != [] && s.head? != some 48) := by rw [← HO.out]; unfold isNum; rw [hall]; rfl
      have HT := Lib.hid hT
      clear hall ha HO hT
      cases h1 : s == [48] with
      | true =>
        rw [h1] at HT
        go_wp2_with fail
        go_ret
        exact ⟨by rw [HT.out]; rfl, rfl⟩
      | false =>
        rw [h1] at HT
        cases s with
        | nil =>
          go_wp2_with fail
          go_ret
          exact ⟨by rw [HT.out]; rfl, rfl⟩
        | cons c r =>
          have hg := mk_get (c :: r) 0 (by simp)
          have hc : (c :: r)[0] = c := rfl
          rw [hc] at hg
          clear hc
          have hh : ((c :: r : Str).head? != some 48) = ((c.toNat : Int) != 48) := by
            rw [Bool.eq_iff_iff, bne_iff_ne, bne_iff_ne]
            show some c ≠ some 48 ↔ _
            constructor
            · intro h e; exact h (by rw [show c = 48 from UInt8.toNat_inj.1 (show c.toNat = 48 by omega)])
            · intro h e; exact h (by rw [Option.some.inj e]; rfl)
          rw [hh] at HT
          clear hh
          generalize hb : ((c.toNat : Int) != 48) = b at *
          go_wp2_with fail
          go_ret
          exact ⟨by rw [HT.out]; rfl, rfl⟩
end Go.Proofs.YtfammopenanapaaDoor
