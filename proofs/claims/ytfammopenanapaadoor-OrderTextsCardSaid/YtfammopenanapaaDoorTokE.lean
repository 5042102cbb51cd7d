/- X-PARTIAL The document's own answer: names: layer 10. -/
import Derived.Test.YtfammopenanapaaDoorTokD
namespace Go.Proofs.YtfammopenanapaaDoor
open Go.RowKit Go.Lib

def AllRel (p : UInt8 → Bool) (l : Str) (i : Value) : Prop := ∃ k : Nat, k ≤ l.length ∧ i = .int .i64 k ∧ (l.take k).all p = true

theorem all_next {p : UInt8 → Bool} {l : Str} {k : Nat} (h : k < l.length) (ha : (l.take k).all p = true) (hp : p l[k] = true) : (l.take (k + 1)).all p = true := by
  rw [List.take_succ_eq_append_getElem h, List.all_append, ha]
  simp [hp]
theorem all_stop {p : UInt8 → Bool} {l : Str} {k : Nat} (h : k < l.length) (hp : p l[k] = false) : l.all p = false := by
  rw [List.all_eq_false]
  exact ⟨l[k], List.getElem_mem h, by simp [hp]⟩

theorem kB_23 {c : UInt8} (h : (kB c == 3) = true) : (kB c == 2) = false := by
  rw [beq_iff_eq] at h; rw [h]; rfl

set_option maxHeartbeats 2000000 in
theorem r10_Name (l : Str) (w : World) :
    Calls Tryd.prog 12 #[encStr l] w fun e w' => e = .returned (.bool (isName l)) ∧ Below w.heap.size w w' := by
  have HW := Lib.hid (r10_Word l)
  cases l with
  | nil =>
    go_enter Tryd.func12, Tryd.ntmps12
    go_wp2_with fail
    go_ret
    exact ⟨rfl, Below.refl _ _⟩
  | cons x l =>
    have HD : Hid (∀ c w', _) := Lib.hid (fun (c : UInt8) w' => r10_digit (c.toNat : Int) w')
    have HL : Hid (∀ c w', _) := Lib.hid (fun (c : UInt8) w' => r10_letter (c.toNat : Int) w')
    have hgx := mk_get (x :: l) 0 (by simp)
    have hx : (x :: l)[0] = x := rfl
    rw [hx] at hgx
    clear hx
    have hN : isName (x :: l) = (decide (l.length + 1 ≤ 20) && !isWord (x :: l) && (kB x == 2) && (x :: l).all alnum) := rfl
    have hal : (x :: l).all alnum = true → (kB x == 2) = !(kB x == 3) := by
      intro h
      have := (List.all_eq_true.1 h) x List.mem_cons_self
      unfold alnum at this
      cases h3 : kB x == 3
      · rw [h3, Bool.or_false] at this; rw [this]; rfl
      · rw [kB_23 h3]; rfl
    by_cases h20 : l.length ≤ 19
    · rw [hN, show decide (l.length + 1 ≤ 20) = true from decide_eq_true (by omega)]
      clear hN
      cases h3 : kB x == 3
      · cases hw : isWord (x :: l)
        · rw [hw] at HW
          have hT : (true && !false && (kB x == 2) && (x :: l).all alnum) = (x :: l).all alnum := by
            cases ha : (x :: l).all alnum
            · simp
            · rw [hal ha, h3]; rfl
          rw [hT]
          clear hT hal
          have h3' : (kindOf x.toNat == 3) = false := h3
          have hlen : (x :: l).length ≤ 20 := by simp; omega
          generalize hga : (x :: l).all alnum = ga
          have HG := Lib.hid hga
          clear hga
          go_enter Tryd.func12, Tryd.ntmps12
          go_wp2_with (go_at_call 25; refine (HD.out x _).mono ?_; rintro e w1 ⟨rfl, rfl⟩)
          go_at_call 26
          refine (HW.out _).mono ?_
          rintro e w1 ⟨rfl, hb⟩
          go_wp2_with fail
          clear hgx hw HW h3 h3'
          generalize x :: l = s at *
          go_loop [3] (fun i => AllRel alnum s i) (fun i => s.length - (RowKit.intOf i).toNat)
          case atStart => exact ⟨0, Nat.zero_le _, rfl, rfl⟩
          case round =>
            obtain ⟨k, hk, rfl, ha⟩ := hrel
            have HA := Lib.hid ha
            by_cases hlt : k < s.length
            · have hg := mk_get s k hlt
              have HS := Lib.hid (all_next hlt ha)
              have HT := Lib.hid (all_stop (p := alnum) hlt)
              clear ha
              generalize s[k] = c at *
              have e2 : alnum c = (kindOf c.toNat == 2 || kindOf c.toNat == 3) := rfl
              rw [e2] at HS HT
              clear e2
              cases hc2 : kindOf c.toNat == 2
              · cases hc3 : kindOf c.toNat == 3
                · have HF := Lib.hid (HT.out (by rw [hc2, hc3]; rfl))
                  go_wp2_with (first | (go_at_call 27; refine (HL.out c _).mono ?_; rintro e w2 ⟨rfl, rfl⟩) | (go_at_call 25; refine (HD.out c _).mono ?_; rintro e w2 ⟨rfl, rfl⟩))
                  go_ret
                  exact ⟨by rw [← HG.out, HF.out]; rfl, hb⟩
                · have HF := Lib.hid (HS.out (by rw [hc2, hc3]; rfl))
                  go_wp2_with (first | (go_at_call 27; refine (HL.out c _).mono ?_; rintro e w2 ⟨rfl, rfl⟩) | (go_at_call 25; refine (HD.out c _).mono ?_; rintro e w2 ⟨rfl, rfl⟩))
                  go_round
                  case rel => exact ⟨k + 1, by omega, by go_num, HF.out⟩
                  case measure => simp [RowKit.intOf]; omega
              · have HF := Lib.hid (HS.out (by rw [hc2]; rfl))
                go_wp2_with (go_at_call 27; refine (HL.out c _).mono ?_; rintro e w2 ⟨rfl, rfl⟩)
                go_round
                case rel => exact ⟨k + 1, by omega, by go_num, HF.out⟩
                case measure => simp [RowKit.intOf]; omega
            · have HE := Lib.hid (show s.all alnum = true by rwa [List.take_of_length_le (by omega)] at ha)
              clear ha
              go_wp2_with fail
              go_ret
              exact ⟨by rw [← HG.out, HE.out]; rfl, hb⟩
        · rw [hw] at HW
          have h3' : (kindOf x.toNat == 3) = false := h3
          clear hal
          go_enter Tryd.func12, Tryd.ntmps12
          go_wp2_with (go_at_call 25; refine (HD.out x _).mono ?_; rintro e w1 ⟨rfl, rfl⟩)
          go_at_call 26
          refine (HW.out _).mono ?_
          rintro e w1 ⟨rfl, hb⟩
          go_wp2_with fail
          go_ret
          exact ⟨rfl, hb⟩
      · have h3' : (kindOf x.toNat == 3) = true := h3
        rw [kB_23 h3]
        clear hal
        go_enter Tryd.func12, Tryd.ntmps12
        go_wp2_with (go_at_call 25; refine (HD.out x _).mono ?_; rintro e w1 ⟨rfl, rfl⟩)
        go_ret
        exact ⟨by simp, Below.refl _ _⟩
    · rw [hN, show decide (l.length + 1 ≤ 20) = false from decide_eq_false (by omega)]
      go_enter Tryd.func12, Tryd.ntmps12
      go_wp2_with fail
      go_ret
      exact ⟨rfl, Below.refl _ _⟩
end Go.Proofs.YtfammopenanapaaDoor
