/- X-PARTIAL The document's own answer: numbers of keys' texts: layer 26. -/
import Derived.Test.YtoclpodjigfmgaaDoorKeyF
namespace Go.Proofs.YtoclpodjigfmgaaDoor
open Go.RowKit Go.Lib

/-- The number that a text is; 3: none; 4: too great. -/
def numK (s : Str) : Int × Int := if isNum s = false then (0, 3) else if numV 0 s ≤ 9223372036854775807 then (numV 0 s, 0) else (0, 4)
theorem numV_app (acc : Nat) (l m : Str) : numV acc (l ++ m) = numV (numV acc l) m := by unfold numV; rw [List.foldl_append]
theorem numV_take (s : Str) (k : Nat) : numV 0 (s.take k) ≤ numV 0 s := by
  conv => rhs; rw [← List.take_append_drop k s, numV_app]
  exact numV_ge _ _
theorem numK_wrong {s : Str} (h : s.length = 0 ∨ 1 < s.length ∧ s.head? = some 48) : numK s = (0, 3) := by
  have : isNum s = false := by
    unfold isNum
    rw [Bool.and_eq_false_iff]
    right
    rcases h with h | ⟨h1, h2⟩
    · rw [List.eq_nil_of_length_eq_zero h]; rfl
    · have : (s == [48]) = false := by
        rw [beq_eq_false_iff_ne]; intro e; rw [e] at h1; exact absurd h1 (by decide)
      rw [this, h2]
      simp
  unfold numK
  rw [if_pos this]
theorem numK_all {s : Str} (h : ¬ (s.length = 0 ∨ 1 < s.length ∧ s.head? = some 48)) (ha : s.all isDg = true) : isNum s = true := by
  unfold isNum
  rw [ha, Bool.true_and]
  cases s with
  | nil => exact absurd (Or.inl rfl) h
  | cons c r =>
    cases r with
    | nil =>
      by_cases hc : c = 48
      · subst hc; rfl
      · simp [hc]
    | cons d r =>
      have : ¬ c = 48 := fun e => h (Or.inr ⟨by simp, by rw [e]; rfl⟩)
      simp [this]

set_option maxRecDepth 1000000 in
set_option maxHeartbeats 4000000 in
theorem r26_number (s : Str) (w : World) (hm : s.length ≤ 9223372036854775807) :
    Calls Tryd.prog 44 #[encStr s] w fun e w' => e = .returned (.tuple #[.int .i64 (numK s).1, .int .i64 (numK s).2]) ∧ w' = w := by
  by_cases h0 : s.length = 0 ∨ 1 < s.length ∧ s.head? = some 48
  · rw [numK_wrong h0]
    rcases h0 with h0 | ⟨h1, h2⟩
    · have := List.eq_nil_of_length_eq_zero h0
      subst this
      go_enter Tryd.func44, Tryd.ntmps44
      go_wp2_with fail
      go_ret2
      exact ⟨rfl, rfl⟩
    · have hg := mk_get s 0 (by omega)
      have hc : s[0]'(by omega) = 48 := by
        cases s with
        | nil => simp at h1
        | cons c r => exact Option.some.inj h2
      rw [hc] at hg
      have i1 : (1 : Int) < s.length := by omega
      have i0 : ((s.length : Int) == 0) = false := by rw [beq_eq_false_iff_ne]; omega
      clear h2 hc
      go_enter Tryd.func44, Tryd.ntmps44
      go_wp2_with fail
      go_ret2
      exact ⟨rfl, rfl⟩
  · generalize hR : numK s = R
    have HO := Lib.hid hR
    clear hR
    have i0 : ((s.length : Int) == 0) = false := by rw [beq_eq_false_iff_ne]; omega
    have hpos : 0 < s.length := by omega
    have hg := mk_get s 0 hpos
    have H0 := Lib.hid h0
    have hb : 1 < s.length → ((s[0].toNat : Int) == 48) = false := by
      intro h1
      rw [beq_eq_false_iff_ne]
      intro e
      refine h0 (Or.inr ⟨h1, ?_⟩)
      cases s with
      | nil => simp at h1
      | cons c r => exact congrArg some (UInt8.toNat_inj.1 (show c.toNat = 48 by have : (c.toNat : Int) = 48 := e; omega))
    have HB := Lib.hid hb
    clear hb
    clear h0
    generalize s[0] = c0 at *
    go_enter Tryd.func44, Tryd.ntmps44
    go_upto_region 1 with fail
    go_cut [20] from 8 to 20 (fun s20 wx => s20 = .bool false ∧ wx = w)
    case first =>
      by_cases h1 : 1 < s.length
      · have i1 : (1 : Int) < s.length := by omega
        have e2 := HB.out h1
        go_wp2_with fail
        go_meet
        exact ⟨rfl, rfl⟩
      · have i1 : ¬ (1 : Int) < s.length := by omega
        go_wp2_with fail
        go_meet
        exact ⟨rfl, rfl⟩
    case rest =>
      obtain ⟨rfl, rfl⟩ := hcut
      clear HB i0 hg
      go_wp2_with fail
      go_loopw [4] (fun v4 wr => ∃ k : Nat, k ≤ s.length ∧ v4 = .int .i64 k ∧ (s.take k).all isDg = true ∧ wr = wc) (fun v4 _ => s.length - (RowKit.intOf v4).toNat)
      case atStart => exact ⟨0, Nat.zero_le _, rfl, rfl, rfl⟩
      case round =>
        obtain ⟨k, hk, rfl, ha, rfl⟩ := hrel
        by_cases hlt : k < s.length
        · have ik : (k : Int) < s.length := by omega
          have hg := mk_get s k hlt
          cases hd : isDg s[k] with
          | true =>
            have HA := Lib.hid (all_nextD hlt ha hd)
            obtain ⟨h1, h2⟩ := isDg_nat.1 hd
            clear ha hd
            generalize s[k] = c at *
            have i1 : ¬ (c.toNat : Int) < 48 := by omega
            have i2 : ¬ (57 : Int) < c.toNat := by omega
            go_wp2_with fail
            go_roundw
            case rel => exact ⟨k + 1, by omega, by go_num, HA.out, trivial⟩
            case measure => simp [RowKit.intOf]; omega
          | false =>
            have HF : R = (0, 3) := by
              rw [← HO.out]; unfold numK isNum; rw [all_stopD hlt hd]; rfl
            subst HF
            have hd' : ¬ (48 ≤ s[k].toNat ∧ s[k].toNat ≤ 57) := fun h => by rw [isDg_nat.2 h] at hd; exact absurd hd (by decide)
            clear ha hd
            generalize s[k] = c at *
            by_cases h1 : c.toNat < 48
            · have i1 : (c.toNat : Int) < 48 := by omega
              go_wp2_with fail
              go_ret2
              exact ⟨rfl, rfl⟩
            · have i1 : ¬ (c.toNat : Int) < 48 := by omega
              have i2 : (57 : Int) < c.toNat := by omega
              go_wp2_with fail
              go_ret2
              exact ⟨rfl, rfl⟩
        · have ik : ¬ (k : Int) < s.length := by omega
          have hall : s.all isDg = true := by rw [show k = s.length by omega, List.take_length] at ha; exact ha
          have HR := Lib.hid (show R = if numV 0 s ≤ 9223372036854775807 then ((numV 0 s : Int), (0 : Int)) else (0, 4) by
            rw [← HO.out]; unfold numK; rw [numK_all H0.out hall, if_neg (by decide)])
          have HALL := Lib.hid (List.all_eq_true.1 hall)
          clear ha HO hall
          go_wp2_with fail
          clear ik hlt
          go_loopw [5, 6] (fun v5 v6 wx => ∃ k : Nat, k ≤ s.length ∧ v6 = .int .i64 k ∧ v5 = .int .i64 (numV 0 (s.take k)) ∧ numV 0 (s.take k) ≤ 9223372036854775807 ∧ wx = wr) (fun _ v6 _ => s.length - (RowKit.intOf v6).toNat)
          case atStart => exact ⟨0, Nat.zero_le _, rfl, rfl, by show (0 : Nat) ≤ _; omega, rfl⟩
          case round =>
            obtain ⟨k, hk, rfl, rfl, hv, rfl⟩ := hrel
            by_cases hlt : k < s.length
            · have ik : (k : Int) < s.length := by omega
              have hg := mk_get s k hlt
              obtain ⟨h1, h2⟩ := isDg_nat.1 (HALL.out s[k] (List.getElem_mem hlt))
              have HNX := Lib.hid (numV_next hlt)
              have HTK := Lib.hid (numV_take s (k + 1))
              generalize s[k] = c at *
              generalize numV 0 (s.take k) = n at *
              by_cases hov : n * 10 + (c.toNat - 48) ≤ 9223372036854775807
              · go_wp2_with fail
                go_roundw
                case rel => exact ⟨k + 1, by omega, by go_num, by rw [HNX.out]; congr 1; omega, by rw [HNX.out]; exact hov, trivial⟩
                case measure => simp [RowKit.intOf]; omega
              · have HF : R = (0, 4) := by
                  rw [HR.out, if_neg (by have := HTK.out; rw [HNX.out] at this; omega)]
                subst HF
                go_wp2_with fail
                go_ret2
                exact ⟨rfl, rfl⟩
            · have ik : ¬ (k : Int) < s.length := by omega
              have hkl : k = s.length := by omega
              rw [hkl, List.take_length] at hv ⊢
              have HF : R = ((numV 0 s : Int), (0 : Int)) := by rw [HR.out, if_pos hv]
              subst HF
              go_wp2_with fail
              go_ret2
              exact ⟨rfl, rfl⟩

theorem ahead_ne {s : Str} {k : Nat} (h : k < (ahead s).length) (hk : k < s.length) : s[k] ≠ 46 := by
  have h1 : (ahead s)[k] ∈ ahead s := List.getElem_mem h
  have h2 := (List.all_eq_true.1 (List.all_takeWhile (p := fun c : UInt8 => c != 46) (l := s))) _ h1
  have h3 : (ahead s)[k]? = s[k]? := by
    conv => lhs; rw [← ahead_take]
    rw [List.getElem?_take, if_pos h]
  rw [List.getElem?_eq_getElem h, List.getElem?_eq_getElem hk] at h3
  rw [← Option.some.inj h3]
  simpa using h2
theorem ahead_dot {s : Str} (h : (ahead s).length < s.length) : s[(ahead s).length] = 46 := by
  have e := dot_is s
  rw [if_neg (by omega)] at e
  have := (Lib.indexByte_some e).1
  rw [List.getElem?_eq_getElem h] at this
  exact Option.some.inj this

theorem readK_is (s : Str) : readK s = if isName (ahead s) = false then (⟨[], 0⟩, 3) else if (ahead s).length = s.length then (⟨s, -1⟩, 0)
    else if (numK (behind s)).2 = 0 then (⟨ahead s, (numK (behind s)).1⟩, 0) else (⟨[], 0⟩, (numK (behind s)).2) := by
  unfold readK behind numK
  split
  · rfl
  · split
    · rfl
    · split
      · rfl
      · split
        · rfl
        · rfl

set_option maxRecDepth 1000000 in
set_option maxHeartbeats 4000000 in
theorem r26_Read (s : Str) (w : World) (hm : s.length ≤ 281474976710656) :
    Calls Tryd.prog 26 #[encStr s] w fun e w' => e = .returned (.tuple #[.agg #[encStr (readK s).1.n, .int .i64 (readK s).1.d], .int .i64 (readK s).2]) ∧ Below w.heap.size w w' := by
  have HN := Lib.hid (r10_Name (ahead s))
  have hbl := behind_len s
  have HM := Lib.hid (fun w' => r26_number (behind s) w' (by omega))
  have hR := readK_is s
  generalize readK s = R at *
  have HO := Lib.hid hR
  clear hR hbl
  go_enter Tryd.func26, Tryd.ntmps26
  go_upto_region 2 with fail
  have k0 : (w.alloc (.cells #[encStr [], .int .i64 0] 24)).heap[w.heap.size]? = some (.cells #[encStr [], .int .i64 0] 24) := al_new w _ rfl
  have hb0 : Below w.heap.size w (w.alloc (.cells #[encStr [], .int .i64 0] 24)) := (Below.refl _ w).alloc (Nat.le_refl _) _
  generalize hW : w.alloc (.cells #[encStr [], .int .i64 0] 24) = W at *
  clear hW
  have hle := ahead_len s
  go_loopw [4] (fun v4 wr => ∃ k : Nat, k ≤ (ahead s).length ∧ v4 = .int .i64 k ∧ wr = W) (fun v4 _ => s.length - (RowKit.intOf v4).toNat)
  case atStart => exact ⟨0, Nat.zero_le _, rfl, rfl⟩
  case round =>
    obtain ⟨k, hk, rfl, rfl⟩ := hrel
    by_cases hlt : k < (ahead s).length
    · have hls : k < s.length := by omega
      have ik : (k : Int) < s.length := by omega
      have hg := mk_get s k hls
      have hne := ahead_ne hlt hls
      generalize s[k] = c at *
      have hc : ((c.toNat : Int) != 46) = true := by
        rw [bne_iff_ne]; intro e; exact hne (UInt8.toNat_inj.1 (show c.toNat = 46 by omega))
      clear hne
      go_wp2_with fail
      go_roundw
      case rel => exact ⟨k + 1, by omega, by go_num, trivial⟩
      case measure => simp [RowKit.intOf]; omega
    · have hk' : k = (ahead s).length := by omega
      by_cases he : (ahead s).length = s.length
      · have ea : ahead s = s := by rw [← ahead_take, he, List.take_length]
        have ik : ¬ (k : Int) < s.length := by omega
        have ekl : k = s.length := by omega
        subst ekl
        have ex : (⟨s.toArray⟩ : ByteArray).extract 0 s.length = ⟨s.toArray⟩ := by
          rw [ByteArray.extract_mk, Nat.sub_zero, List.drop_zero, List.take_length]
        rw [ea] at HN HO
        rw [if_pos rfl] at HO
        have i0 : (0 : Int) ≤ s.length := by omega
        clear hlt hk' hk he ea hle HM
        cases hN : isName s with
        | false =>
          rw [hN] at HN HO
          rw [if_pos rfl] at HO
          have HR : R = _ := HO.out
          subst HR
          go_wp2_with fail
          go_at_call 25
          refine (HN.out _).mono ?_
          rintro e w2 ⟨rfl, hb2⟩
          have k2 := (hb2.block w.heap.size (blk_lt k0)).trans k0
          have hc2 := hb0.trans (hb2.mono hb0.size)
          have g2 := blk_cell k2
          have f2 := blk_free k2
          clear hb2 k2 k0 hb0 HN
          go_wp2_with fail
          refine bodyPost_ret (by simp [results, Tryd.results26, go_sem, *] <;> rfl) rfl ⟨rfl, (by repeat (first | (with_reducible assumption) | (with_reducible exact Below.refl _ _) | (with_reducible refine Below.alloc ?_ (by first | omega | (simp; omega) | (simp; done) | (dsimp only; omega)) _) | (with_reducible refine Below.setCell ?_ (by first | omega | (simp; omega) | (simp; done) | (dsimp only; omega)) _) | (with_reducible refine Below.drew ?_) | (with_reducible refine Below.trans ?_ (Below.mono (by assumption) (by first | omega | (simp; omega) | (simp; done) | (dsimp only; omega))))))⟩
        | true =>
          rw [hN] at HN HO
          rw [if_neg (by decide)] at HO
          have HR : R = _ := HO.out
          subst HR
          go_wp2_with fail
          go_at_call 25
          refine (HN.out _).mono ?_
          rintro e w2 ⟨rfl, hb2⟩
          have k2 := (hb2.block w.heap.size (blk_lt k0)).trans k0
          have hc2 := hb0.trans (hb2.mono hb0.size)
          have g2 := blk_cell k2
          have f2 := blk_free k2
          clear hb2 k2 k0 hb0 HN
          go_wp2_with fail
          refine bodyPost_ret (by simp [results, Tryd.results26, go_sem, *] <;> rfl) rfl ⟨rfl, (by repeat (first | (with_reducible assumption) | (with_reducible exact Below.refl _ _) | (with_reducible refine Below.alloc ?_ (by first | omega | (simp; omega) | (simp; done) | (dsimp only; omega)) _) | (with_reducible refine Below.setCell ?_ (by first | omega | (simp; omega) | (simp; done) | (dsimp only; omega)) _) | (with_reducible refine Below.drew ?_) | (with_reducible refine Below.trans ?_ (Below.mono (by assumption) (by first | omega | (simp; omega) | (simp; done) | (dsimp only; omega))))))⟩
      · have hls : k < s.length := by omega
        have ik : (k : Int) < s.length := by omega
        have ik2 : ((k : Int) == s.length) = false := by rw [beq_eq_false_iff_ne]; omega
        have ik3 : (0 : Int) ≤ k := by omega
        have ik4 : (k : Int) ≤ s.length := by omega
        have ik5 : (k : Int) + 1 ≤ s.length := by omega
        have ik6 : (0 : Int) ≤ (k : Int) + 1 := by omega
        have hg := mk_get s k hls
        have hd : s[k] = 46 := by subst hk'; exact ahead_dot hls
        rw [hd] at hg
        have ex1 : (⟨s.toArray⟩ : ByteArray).extract 0 k = ⟨(ahead s).toArray⟩ := by
          rw [ByteArray.extract_mk, Nat.sub_zero, List.drop_zero, hk', ahead_take]
        have ex2 : (⟨s.toArray⟩ : ByteArray).extract (k + 1) s.length = ⟨(behind s).toArray⟩ := by
          unfold behind
          rw [← hk', ByteArray.extract_mk, List.take_of_length_le (by rw [List.length_drop]; omega)]
        rw [if_neg he] at HO
        clear hlt hk hk' he hle hd
        generalize numK (behind s) = N at *
        generalize behind s = b at *
        generalize ahead s = a at *
        cases hN : isName a with
        | false =>
          rw [hN] at HN HO
          rw [if_pos rfl] at HO
          have HR : R = _ := HO.out
          subst HR
          clear HM
          go_wp2_with fail
          go_at_call 25
          refine (HN.out _).mono ?_
          rintro e w2 ⟨rfl, hb2⟩
          have k2 := (hb2.block w.heap.size (blk_lt k0)).trans k0
          have hc2 := hb0.trans (hb2.mono hb0.size)
          have g2 := blk_cell k2
          have f2 := blk_free k2
          clear hb2 k2 k0 hb0 HN
          go_wp2_with fail
          refine bodyPost_ret (by simp [results, Tryd.results26, go_sem, *] <;> rfl) rfl ⟨rfl, (by repeat (first | (with_reducible assumption) | (with_reducible exact Below.refl _ _) | (with_reducible refine Below.alloc ?_ (by first | omega | (simp; omega) | (simp; done) | (dsimp only; omega)) _) | (with_reducible refine Below.setCell ?_ (by first | omega | (simp; omega) | (simp; done) | (dsimp only; omega)) _) | (with_reducible refine Below.drew ?_) | (with_reducible refine Below.trans ?_ (Below.mono (by assumption) (by first | omega | (simp; omega) | (simp; done) | (dsimp only; omega))))))⟩
        | true =>
          rw [hN] at HN HO
          rw [if_neg (by decide)] at HO
          obtain ⟨v, e⟩ := N
          by_cases he : e = 0
          · rw [if_pos he] at HO
            have HR : R = _ := HO.out
            subst HR
            subst he
            go_wp2_with fail
            go_at_call 25
            refine (HN.out _).mono ?_
            rintro e w2 ⟨rfl, hb2⟩
            have k2 := (hb2.block w.heap.size (blk_lt k0)).trans k0
            have hc2 := hb0.trans (hb2.mono hb0.size)
            have g2 := blk_cell k2
            have f2 := blk_free k2
            clear hb2 k2 k0 hb0 HN
            go_wp2_with fail
            go_at_call 44
            refine (HM.out _).mono ?_
            rintro e w3 ⟨rfl, rfl⟩
            clear HM
            go_wp2_with fail
            refine bodyPost_ret (by simp [results, Tryd.results26, go_sem, *] <;> rfl) rfl ⟨rfl, (by repeat (first | (with_reducible assumption) | (with_reducible exact Below.refl _ _) | (with_reducible refine Below.alloc ?_ (by first | omega | (simp; omega) | (simp; done) | (dsimp only; omega)) _) | (with_reducible refine Below.setCell ?_ (by first | omega | (simp; omega) | (simp; done) | (dsimp only; omega)) _) | (with_reducible refine Below.drew ?_) | (with_reducible refine Below.trans ?_ (Below.mono (by assumption) (by first | omega | (simp; omega) | (simp; done) | (dsimp only; omega))))))⟩
          · rw [if_neg he] at HO
            have HR : R = _ := HO.out
            subst HR
            have hbn : (e != 0) = true := by simpa using he
            clear he
            go_wp2_with fail
            go_at_call 25
            refine (HN.out _).mono ?_
            rintro e w2 ⟨rfl, hb2⟩
            have k2 := (hb2.block w.heap.size (blk_lt k0)).trans k0
            have hc2 := hb0.trans (hb2.mono hb0.size)
            have g2 := blk_cell k2
            have f2 := blk_free k2
            clear hb2 k2 k0 hb0 HN
            go_wp2_with fail
            go_at_call 44
            refine (HM.out _).mono ?_
            rintro e w3 ⟨rfl, rfl⟩
            clear HM
            go_wp2_with fail
            refine bodyPost_ret (by simp [results, Tryd.results26, go_sem, *] <;> rfl) rfl ⟨rfl, (by repeat (first | (with_reducible assumption) | (with_reducible exact Below.refl _ _) | (with_reducible refine Below.alloc ?_ (by first | omega | (simp; omega) | (simp; done) | (dsimp only; omega)) _) | (with_reducible refine Below.setCell ?_ (by first | omega | (simp; omega) | (simp; done) | (dsimp only; omega)) _) | (with_reducible refine Below.drew ?_) | (with_reducible refine Below.trans ?_ (Below.mono (by assumption) (by first | omega | (simp; omega) | (simp; done) | (dsimp only; omega))))))⟩
end Go.Proofs.YtoclpodjigfmgaaDoor
