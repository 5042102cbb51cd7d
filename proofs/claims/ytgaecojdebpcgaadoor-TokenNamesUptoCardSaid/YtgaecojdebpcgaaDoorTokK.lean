/- X-PARTIAL The document's own answer: one token: layer 10. -/
import Derived.Test.YtgaecojdebpcgaaDoorTokL
import Derived.Deep.RegionHeld3
import Derived.StillTactics
import Derived.Deep.CutBlock
namespace Go.Proofs.YtgaecojdebpcgaaDoor
open Go.RowKit Go.Lib

/-- What stands at a text's beginning; many: there are 4000 tokens. -/
def oneF (t : Str) (many : Bool) : TR :=
  match t with
  | [] => .bad 3
  | c :: r =>
    if kB c = 2 ∨ kB c = 3 then (if many = true then .bad 6 else firstF (c :: r) (kB c))
    else if kB c = 4 ∧ mark (c :: r) ≠ [] then (if many = true then .bad 6 else ⟨3, mark (c :: r), 0, 0⟩)
    else .bad 3

theorem alnum_is (c : UInt8) : alnum c = (kindOf c.toNat == 2 || kindOf c.toNat == 3) := rfl
theorem pre_stop' {l : Str} {k : Nat} (h : k < l.length) (ht : (l.take k).all alnum = true) (hn : alnum l[k] = false) : k = (pre 2 3 l).length := by
  have := pre_stop (a := 2) (b := 3) h (fun c hc => (List.all_eq_true.1 ht) c hc) hn
  rw [← this, List.length_take]; omega
theorem pre_all' {l : Str} (ht : l.all alnum = true) : l.length = (pre 2 3 l).length := by
  rw [pre_all (a := 2) (b := 3) (fun c hc => (List.all_eq_true.1 ht) c hc)]

theorem pre_take (a b : Int) (t : Str) : t.take (pre a b t).length = pre a b t := (List.prefix_iff_eq_take.1 (List.takeWhile_prefix _)).symm
theorem numF_R (q : Str) : numF q.length q = if (numR q).2 = 0 then ⟨2, q, (numR q).1, 0⟩ else .bad (numR q).2 := by
  unfold numF numR
  by_cases h : q.head? = some 48 ∧ 1 < q.length
  · rw [if_pos (Or.inl h), if_pos h]; rfl
  · rw [if_neg (by rintro (h' | h'); exact h h'; omega), if_neg h]
    by_cases h2 : numV 0 q ≤ 9223372036854775807
    · rw [if_pos h2, if_pos h2]; rfl
    · rw [if_neg h2, if_neg h2]; rfl
theorem digits_of {q : Str} (h : q.all isD = true) : Digits q := fun c hc => by
  have := (List.all_eq_true.1 h) c hc
  unfold isD at this
  rw [beq_iff_eq] at this
  exact kB_digit.1 this
theorem pre_cons (c : UInt8) (r : Str) (h : alnum c = true) : pre 2 3 (c :: r) ≠ [] := by
  rw [pre_is, List.takeWhile_cons, if_pos h]; simp
theorem pre_alnum (t : Str) : ∀ c ∈ pre 2 3 t, alnum c = true := fun c hc => by
  rw [pre_is] at hc
  exact (List.all_eq_true.1 (List.all_takeWhile (p := alnum) (l := t))) c hc
theorem not_digit {c : UInt8} (h : alnum c = true) (hd : isD c = false) : (kindOf c.toNat == 2) = true := by
  unfold isD at hd
  unfold alnum at h
  rw [hd, Bool.or_false] at h
  exact h
theorem digit_not {c : UInt8} (hd : isD c = true) : (kindOf c.toNat == 2) = false := kB_23 hd
theorem find_at {L : List Str} {p : Str → Bool} {k : Nat} (h : k < L.length) (hno : ∀ g ∈ L.take k, p g = false) (hp : p L[k] = true) : L.find? p = some L[k] := by
  rw [List.find?_eq_some_iff_append]
  refine ⟨hp, L.take k, L.drop (k + 1), ?_, fun a ha => by rw [hno a ha]; rfl⟩
  rw [← List.drop_eq_getElem_cons h, List.take_append_drop]
def SgRel (t : Str) (X : World) (v : Value) (wr : World) : Prop := ∃ k : Nat, k ≤ 22 ∧ v = .int .i64 k ∧ (∀ g ∈ signsL.take k, isPre g t = false) ∧ Below X.heap.size X wr
theorem sg_next {t : Str} {k : Nat} (h : k < 22) (hno : ∀ g ∈ signsL.take k, isPre g t = false) (hp : isPre (signsL[k]'h) t = false) : ∀ g ∈ signsL.take (k + 1), isPre g t = false := by
  intro g hg
  rw [List.take_succ_eq_append_getElem (show k < signsL.length from h), List.mem_append] at hg
  rcases hg with hg | hg
  · exact hno g hg
  · rw [List.mem_singleton] at hg; subst hg; exact hp
def DigRel (q : Str) (i : Value) : Prop := ∃ k : Nat, k ≤ q.length ∧ i = .int .i64 k ∧ (q.take k).all isD = true

set_option maxHeartbeats 4000000 in
set_option maxRecDepth 1000000 in
theorem r10_one (t : Str) (many : Bool) (w : World) (hn : t ≠ []) (hm : t.length ≤ 281474976710656) :
    Calls Tryd.prog 18 #[encStr t, .bool many] w fun e w' => e = .returned (.tuple #[.agg #[.int .i64 (oneF t many).k, encStr (oneF t many).t, .int .i64 (oneF t many).n, .int .i64 0], .int .i64 (oneF t many).e]) ∧ Below w.heap.size w w' := by
  have HD : Hid (∀ c w', _) := Lib.hid (fun (c : UInt8) w' => r10_digit (c.toNat : Int) w')
  have HL : Hid (∀ c w', _) := Lib.hid (fun (c : UInt8) w' => r10_letter (c.toNat : Int) w')
  go_enter Tryd.func18, Tryd.ntmps18
  go_upto_block 0 with fail
  generalize hW : w.alloc _ = W
  go_cut [6] from 13 to 30 (fun s6 wx => s6 = .int .i64 ((pre 2 3 t).length : Nat) ∧ wx = W)
  case first =>
    go_wp2_with fail
    go_loop [6] (fun i => AllRel alnum t i) (fun i => t.length - (RowKit.intOf i).toNat)
    case atStart => exact ⟨0, Nat.zero_le _, rfl, rfl⟩
    case round =>
      obtain ⟨k, hk, rfl, ha⟩ := hrel
      by_cases hlt : k < t.length
      · have hg := mk_get t k hlt
        have HS := Lib.hid (all_next hlt ha)
        have HT := Lib.hid (pre_stop' hlt ha)
        clear ha
        generalize t[k] = c at *
        rw [alnum_is] at HS HT
        cases hc2 : kindOf c.toNat == 2
        · cases hc3 : kindOf c.toNat == 3
          · have HF := Lib.hid (HT.out (by rw [hc2, hc3]; rfl))
            go_wp2_with (first | (go_at_call 21; refine (HL.out c _).mono ?_; rintro e w2 ⟨rfl, rfl⟩) | (go_at_call 20; refine (HD.out c _).mono ?_; rintro e w2 ⟨rfl, rfl⟩))
            go_meet
            exact ⟨by rw [← HF.out], rfl⟩
          · have HF := Lib.hid (HS.out (by rw [hc2, hc3]; rfl))
            go_wp2_with (first | (go_at_call 21; refine (HL.out c _).mono ?_; rintro e w2 ⟨rfl, rfl⟩) | (go_at_call 20; refine (HD.out c _).mono ?_; rintro e w2 ⟨rfl, rfl⟩))
            go_round
            case rel => exact ⟨k + 1, by omega, by go_num, HF.out⟩
            case measure => simp [RowKit.intOf]; omega
        · have HF := Lib.hid (HS.out (by rw [hc2]; rfl))
          go_wp2_with (go_at_call 21; refine (HL.out c _).mono ?_; rintro e w2 ⟨rfl, rfl⟩)
          go_round
          case rel => exact ⟨k + 1, by omega, by go_num, HF.out⟩
          case measure => simp [RowKit.intOf]; omega
      · have HE := Lib.hid (pre_all' (l := t) (by rwa [List.take_of_length_le (by omega)] at ha))
        have hke : k = t.length := by omega
        subst hke
        clear ha
        go_wp2_with fail
        go_meet
        exact ⟨by rw [← HE.out], rfl⟩
  case rest =>
    obtain ⟨rfl, rfl⟩ := hcut
    have k0 : wc.heap[w.heap.size]? = some (.cells #[.int .i64 0, encStr [], .int .i64 0, .int .i64 0] 37) := by rw [← hW]; exact al_new w _ rfl
    have hbw : Below w.heap.size w wc := by rw [← hW]; exact (Below.refl _ w).alloc (Nat.le_refl _) _
    clear hW
    have g0 := blk_cell k0
    have f0 := blk_free k0
    have hz := blk_lt k0
    obtain ⟨c, hc⟩ : ∃ c, t.head? = some c := by cases t with | nil => exact absurd rfl hn | cons x l => exact ⟨x, rfl⟩
    have hO : oneF t many = (if kB c = 2 ∨ kB c = 3 then (if many = true then .bad 6 else firstF t (kB c))
        else if kB c = 4 ∧ mark t ≠ [] then (if many = true then .bad 6 else ⟨3, mark t, 0, 0⟩) else .bad 3) := by
      cases t with | nil => exact absurd rfl hn | cons x l => cases hc; rfl
    have hpos : 0 < t.length := List.length_pos_iff.2 hn
    have hg0 := mk_get t 0 hpos
    have hgc : t[0] = c := by cases t with | nil => exact absurd rfl hn | cons x l => cases hc; rfl
    rw [hgc] at hg0
    have hqn3 : kB c = 3 → pre 2 3 t ≠ [] := fun h => by
      cases t with | nil => exact absurd rfl hn | cons x l => cases hc; exact pre_cons _ _ (by unfold alnum; rw [h]; rfl)
    have hal := pre_alnum t
    have hql := pre_len 2 3 t
    have hqt := pre_take 2 3 t
    have hp33 := pre33_all (t := t)
    have hs33 := pre33_short (t := t)
    have hd33 := pre_digits t
    have ex : (⟨t.toArray⟩ : ByteArray).extract 0 (pre 2 3 t).length = ⟨(pre 2 3 t).toArray⟩ := by
      rw [ByteArray.extract_mk, List.drop_zero, Nat.sub_zero, hqt]
    have hF2 : firstF t 2 = nameF (pre 2 3 t) := rfl
    have hF3 : firstF t 3 = numF (pre 2 3 t).length (pre 3 3 t) := rfl
    have hkc : kindOf c.toNat = kB c := rfl
    have iq : ((pre 2 3 t).length : Int) ≤ t.length := by omega
    generalize pre 2 3 t = q at *
    by_cases h2 : kB c = 2
    · rw [if_pos (Or.inl h2), h2, hF2] at hO
      rw [h2] at hkc
      have t2 : (kindOf c.toNat == 2) = true := by rw [hkc]; rfl
      have HW := Lib.hid (r10_Word q)
      clear hF3 hp33 hs33 hd33 hqt hgc hn hc h2 hkc
      by_cases hl : 20 < q.length
      · have il : decide ((20 : Int) < q.length) = true := decide_eq_true (by omega)
        rw [show nameF q = .bad 6 from if_pos hl, ite_self] at hO
        have HO := Lib.hid hO
        clear hO
        go_wp2_with (go_at_call 21; refine (HL.out c _).mono ?_; rintro e w2 ⟨rfl, rfl⟩)
        refine bodyPost_ret (by simp [results, Tryd.results18, go_sem, *] <;> rfl) rfl ⟨by rw [HO.out]; rfl, (by repeat (first | (with_reducible assumption) | (with_reducible exact Below.refl _ _) | (with_reducible refine Below.alloc ?_ (by first | omega | (simp; omega) | (simp; done) | (dsimp only; omega)) _) | (with_reducible refine Below.setCell ?_ (by first | omega | (simp; omega) | (simp; done) | (dsimp only; omega)) _) | (with_reducible refine Below.drew ?_) | (with_reducible refine Below.trans ?_ (Below.mono (by assumption) (by first | omega | (simp; omega) | (simp; done) | (dsimp only; omega))))))⟩
      · have il : decide ((20 : Int) < q.length) = false := decide_eq_false (by omega)
        cases many
        · rw [if_neg (by decide), show nameF q = ⟨nameK q, q, 0, 0⟩ from if_neg hl] at hO
          unfold nameK at hO
          generalize isWord q = bw at *
          cases bw
          all_goals
            have HO := Lib.hid hO
            clear hO
            go_wp2_with (go_at_call 21; refine (HL.out c _).mono ?_; rintro e w2 ⟨rfl, rfl⟩)
            go_at_call 13
            refine (HW.out _).mono ?_
            rintro e w1 ⟨rfl, hb1⟩
            have k1 := (hb1.block w.heap.size hz).trans k0
            have hc1 := hbw.trans (hb1.mono hbw.size)
            have g1 := blk_cell k1
            have f1 := blk_free k1
            clear hb1 k1 k0 g0 f0 hbw
            go_wp2_with fail
            refine bodyPost_ret (by simp [results, Tryd.results18, go_sem, *] <;> rfl) rfl ⟨by rw [HO.out]; rfl, (by repeat (first | (with_reducible assumption) | (with_reducible exact Below.refl _ _) | (with_reducible refine Below.alloc ?_ (by first | omega | (simp; omega) | (simp; done) | (dsimp only; omega)) _) | (with_reducible refine Below.setCell ?_ (by first | omega | (simp; omega) | (simp; done) | (dsimp only; omega)) _) | (with_reducible refine Below.drew ?_) | (with_reducible refine Below.trans ?_ (Below.mono (by assumption) (by first | omega | (simp; omega) | (simp; done) | (dsimp only; omega))))))⟩
        · rw [if_pos rfl] at hO
          have HO := Lib.hid hO
          clear hO
          go_wp2_with (go_at_call 21; refine (HL.out c _).mono ?_; rintro e w2 ⟨rfl, rfl⟩)
          refine bodyPost_ret (by simp [results, Tryd.results18, go_sem, *] <;> rfl) rfl ⟨by rw [HO.out]; rfl, (by repeat (first | (with_reducible assumption) | (with_reducible exact Below.refl _ _) | (with_reducible refine Below.alloc ?_ (by first | omega | (simp; omega) | (simp; done) | (dsimp only; omega)) _) | (with_reducible refine Below.setCell ?_ (by first | omega | (simp; omega) | (simp; done) | (dsimp only; omega)) _) | (with_reducible refine Below.drew ?_) | (with_reducible refine Below.trans ?_ (Below.mono (by assumption) (by first | omega | (simp; omega) | (simp; done) | (dsimp only; omega))))))⟩
    · by_cases h3 : kB c = 3
      · rw [if_pos (Or.inr h3), h3, hF3] at hO
        rw [h3] at hkc
        have t2 : (kindOf c.toNat == 2) = false := by rw [hkc]; rfl
        have t3 : (kindOf c.toNat == 3) = true := by rw [hkc]; rfl
        cases many
        · rw [if_neg (by decide)] at hO
          have HN := Lib.hid (fun hd hn' w' => r10_number q w' hd hn' (by omega))
          have hqn := hqn3 h3
          have HAL := Lib.hid hal
          have hNF := numF_R q
          have HO := Lib.hid hO
          have HP33 := Lib.hid hp33
          have HS33 := Lib.hid hs33
          have HD33 := Lib.hid hd33
          have hqk : ∀ k, (h : k < q.length) → t[k]'(by omega) = q[k] := fun k h => by
            have : q[k] = (t.take q.length)[k]'(by rw [hqt]; exact h) := by simp only [hqt]
            rw [this, List.getElem_take]
          have HQK := Lib.hid hqk
          clear hF2 hF3 hO hp33 hs33 hd33 hqt hgc hn hc h2 h3 hkc hqk hqn3 hal
          have HNF := Lib.hid hNF
          clear hNF
          go_wp2_with (first | (go_at_call 21; refine (HL.out c _).mono ?_; rintro e w2 ⟨rfl, rfl⟩) | (go_at_call 20; refine (HD.out c _).mono ?_; rintro e w2 ⟨rfl, rfl⟩))
          clear hg0 t2 t3
          go_loop [7] (fun i => DigRel q i) (fun i => q.length - (RowKit.intOf i).toNat)
          case atStart => exact ⟨0, Nat.zero_le _, rfl, rfl⟩
          case round =>
            obtain ⟨k, hk, rfl, ha⟩ := hrel
            by_cases hlt : k < q.length
            · have hg := mk_get t k (by omega)
              rw [HQK.out k hlt] at hg
              have hm1 := HAL.out q[k] (List.getElem_mem hlt)
              have HS := Lib.hid (all_next hlt ha)
              have HT := Lib.hid (all_stop (p := isD) hlt)
              clear ha
              generalize q[k] = d at *
              cases hd : isD d
              · have e2 := not_digit hm1 hd
                have HE := Lib.hid (show oneF t false = .bad 3 by rw [HO.out]; exact if_pos (Or.inr (HS33.out (HT.out hd))))
                clear hd hm1
                go_wp2_with (go_at_call 21; refine (HL.out d _).mono ?_; rintro e w2 ⟨rfl, rfl⟩)
                refine bodyPost_ret (by simp [results, Tryd.results18, go_sem, *] <;> rfl) rfl ⟨by rw [HE.out]; rfl, (by repeat (first | (with_reducible assumption) | (with_reducible exact Below.refl _ _) | (with_reducible refine Below.alloc ?_ (by first | omega | (simp; omega) | (simp; done) | (dsimp only; omega)) _) | (with_reducible refine Below.setCell ?_ (by first | omega | (simp; omega) | (simp; done) | (dsimp only; omega)) _) | (with_reducible refine Below.drew ?_) | (with_reducible refine Below.trans ?_ (Below.mono (by assumption) (by first | omega | (simp; omega) | (simp; done) | (dsimp only; omega))))))⟩
              · have e2 := digit_not hd
                have HF := Lib.hid (HS.out hd)
                clear hd hm1
                go_wp2_with (go_at_call 21; refine (HL.out d _).mono ?_; rintro e w2 ⟨rfl, rfl⟩)
                go_round
                case rel => exact ⟨k + 1, by omega, by go_num, HF.out⟩
                case measure => simp [RowKit.intOf]; omega
            · have hall : q.all isD = true := by rwa [List.take_of_length_le (by omega)] at ha
              have HE := Lib.hid (show oneF t false = if (numR q).2 = 0 then ⟨2, q, (numR q).1, 0⟩ else .bad (numR q).2 by rw [HO.out, HP33.out hall, HNF.out])
              have HNN := Lib.hid (HN.out (digits_of hall) hqn)
              clear ha hall
              generalize numR q = x at *
              by_cases hx : x.2 = 0
              · have hx1 : (x.2 != 0) = false := by rw [hx]; rfl
                have HE2 := Lib.hid (show oneF t false = ⟨2, q, x.1, 0⟩ by rw [HE.out, if_pos hx])
                clear hx
                go_wp2_with (go_at_call 28; refine (HNN.out _).mono ?_; rintro e w2 ⟨rfl, rfl⟩)
                refine bodyPost_ret (by simp [results, Tryd.results18, go_sem, *] <;> rfl) rfl ⟨by first | (rw [HE2.out]; done) | (rw [HE2.out]; rfl), (by repeat (first | (with_reducible assumption) | (with_reducible exact Below.refl _ _) | (with_reducible refine Below.alloc ?_ (by first | omega | (simp; omega) | (simp; done) | (dsimp only; omega)) _) | (with_reducible refine Below.setCell ?_ (by first | omega | (simp; omega) | (simp; done) | (dsimp only; omega)) _) | (with_reducible refine Below.drew ?_) | (with_reducible refine Below.trans ?_ (Below.mono (by assumption) (by first | omega | (simp; omega) | (simp; done) | (dsimp only; omega))))))⟩
              · have hx1 : (x.2 != 0) = true := by simpa using hx
                have HE2 := Lib.hid (show oneF t false = .bad x.2 by rw [HE.out, if_neg hx])
                clear hx
                go_wp2_with (go_at_call 28; refine (HNN.out _).mono ?_; rintro e w2 ⟨rfl, rfl⟩)
                refine bodyPost_ret (by simp [results, Tryd.results18, go_sem, *] <;> rfl) rfl ⟨by first | (rw [HE2.out]; done) | (rw [HE2.out]; rfl), (by repeat (first | (with_reducible assumption) | (with_reducible exact Below.refl _ _) | (with_reducible refine Below.alloc ?_ (by first | omega | (simp; omega) | (simp; done) | (dsimp only; omega)) _) | (with_reducible refine Below.setCell ?_ (by first | omega | (simp; omega) | (simp; done) | (dsimp only; omega)) _) | (with_reducible refine Below.drew ?_) | (with_reducible refine Below.trans ?_ (Below.mono (by assumption) (by first | omega | (simp; omega) | (simp; done) | (dsimp only; omega))))))⟩
        · rw [if_pos rfl] at hO
          have HO := Lib.hid hO
          clear hF2 hF3 hO hp33 hs33 hd33 hqt hgc hn hc h2 h3 hkc
          go_wp2_with (first | (go_at_call 21; refine (HL.out c _).mono ?_; rintro e w2 ⟨rfl, rfl⟩) | (go_at_call 20; refine (HD.out c _).mono ?_; rintro e w2 ⟨rfl, rfl⟩))
          refine bodyPost_ret (by simp [results, Tryd.results18, go_sem, *] <;> rfl) rfl ⟨by rw [HO.out]; rfl, (by repeat (first | (with_reducible assumption) | (with_reducible exact Below.refl _ _) | (with_reducible refine Below.alloc ?_ (by first | omega | (simp; omega) | (simp; done) | (dsimp only; omega)) _) | (with_reducible refine Below.setCell ?_ (by first | omega | (simp; omega) | (simp; done) | (dsimp only; omega)) _) | (with_reducible refine Below.drew ?_) | (with_reducible refine Below.trans ?_ (Below.mono (by assumption) (by first | omega | (simp; omega) | (simp; done) | (dsimp only; omega))))))⟩
      · have hF : signsL.find? (isPre · t) = if kB c = 4 ∧ mark t ≠ [] then some (mark t) else none := by
          cases t with | nil => exact absurd rfl hn | cons x l => cases hc; exact find_signs _ _
        rw [if_neg (by rintro (h | h); exact h2 h; exact h3 h)] at hO
        have hS : ∀ g, signsL.find? (isPre · t) = some g → oneF t many = if many = true then .bad 6 else ⟨3, g, 0, 0⟩ := fun g h => by
          rw [hF] at h
          by_cases hk : kB c = 4 ∧ mark t ≠ []
          · rw [if_pos hk] at h
            rw [hO, if_pos hk, Option.some.inj h]
          · rw [if_neg hk] at h; cases h
        have hN : signsL.find? (isPre · t) = none → oneF t many = .bad 3 := fun h => by
          rw [hF] at h
          by_cases hk : kB c = 4 ∧ mark t ≠ []
          · rw [if_pos hk] at h; cases h
          · rw [hO, if_neg hk]
        have t2 : (kindOf c.toNat == 2) = false := by rw [hkc]; simpa using h2
        have t3 : (kindOf c.toNat == 3) = false := by rw [hkc]; simpa using h3
        have HS := Lib.hid hS
        have HN := Lib.hid hN
        clear hF hS hN hO hF2 hF3 hp33 hs33 hd33 hqt hgc hn hc h2 h3 hkc hqn3 hal hql ex iq
        go_wp2_with (first | (go_at_call 21; refine (HL.out c _).mono ?_; rintro e w2 ⟨rfl, rfl⟩) | (go_at_call 20; refine (HD.out c _).mono ?_; rintro e w2 ⟨rfl, rfl⟩))
        clear hg0 t2 t3 HD HL
        have hr0 : SRow (wc.alloc (.cells (signsL.map encStr).toArray 9)) (some ⟨wc.heap.size, 0, none⟩) signsL := row_new wc (signsL.map encStr) _
        have hX0 : Below wc.heap.size wc (wc.alloc (.cells (signsL.map encStr).toArray 9)) := (Below.refl _ wc).alloc (Nat.le_refl _) _
        change Code.wp _ _ _ _ (wc.alloc (.cells (signsL.map encStr).toArray 9))
        generalize wc.alloc (.cells (signsL.map encStr).toArray 9) = X at *
        have kX := (hX0.block _ hz).trans k0
        have hbX := hbw.trans (hX0.mono hbw.size)
        clear hX0 hbw k0 g0 f0
        go_loopw [11] (fun v11 wr => SgRel t X v11 wr) (fun v11 _ => 22 - (RowKit.intOf v11).toNat)
        case atStart => exact ⟨0, Nat.zero_le _, rfl, by simp, Below.refl _ _⟩
        case round =>
          obtain ⟨k, hk, rfl, hno, hB⟩ := hrel
          have kw := (hB.block _ (blk_lt kX)).trans kX
          have g0 := blk_cell kw
          have f0 := blk_free kw
          have hbw := hbX.trans (hB.mono hbX.size)
          by_cases hlt : k < 22
          · have ik : (k : Int) < 22 := by omega
            obtain ⟨b, o, he, hcell, hbl⟩ := (hr0.mono hB).cell (k := k) (show k < signsL.length from hlt)
            cases he
            rw [Nat.zero_add] at hcell
            have HSN := Lib.hid (sg_next hlt hno)
            have HFA := Lib.hid (find_at (p := (isPre · t)) (show k < signsL.length from hlt) hno)
            clear hno kX
            have HBB := Lib.hid hB
            clear hB
            generalize (signsL[k]'(show k < signsL.length from hlt)) = g at *
            have hip : isPre g t = (decide (g.length ≤ t.length) && (t.take g.length == g)) := rfl
            by_cases h1 : g.length ≤ t.length
            · have ex : (⟨t.toArray⟩ : ByteArray).extract 0 g.length = ⟨(t.take g.length).toArray⟩ := by
                rw [ByteArray.extract_mk]; rfl
              have i1 : (g.length : Int) ≤ t.length := by omega
              rw [decide_eq_true h1, Bool.true_and] at hip
              generalize t.take g.length = x at *
              cases hx : x == g
              · rw [hx] at hip
                have HE := Lib.hid (HSN.out hip)
                clear hip
                go_wp2_with fail
                refine region_seq (S := fun w' => Below wr.heap.size wr w') rfl (by kernel_rfl) (by kernel_rfl) (by repeat (first | (with_reducible assumption) | (with_reducible exact Below.refl _ _) | (with_reducible refine Below.alloc ?_ (by first | omega | (simp; omega) | (simp; done) | (dsimp only; omega)) _) | (with_reducible refine Below.setCell ?_ (by first | omega | (simp; omega) | (simp; done) | (dsimp only; omega)) _) | (with_reducible refine Below.drew ?_) | (with_reducible refine Below.trans ?_ (Below.mono (by assumption) (by first | omega | (simp; omega) | (simp; done) | (dsimp only; omega)))))) (fun fin hfin => ?_)
                iterate 14
                  first
                    | (refine SeqL.yes (v := ?_) (A' := ?_) rfl (by rfl) ?_ ?_ ?_
                       rotate_left 2
                       · intro w' K hS hK
                         obtain ⟨hc, hf⟩ := bcell hS
                         have hz := hS.size
                         go_simp
                         first
                           | exact hK.out _ hS
                           | trace_state
                       · simp only [Act.put, List.setIfInBounds_toArray, List.set_cons_zero, List.set_cons_succ]; exact rfl)
                    | (refine SeqL.no (A' := ?_) rfl (by rfl) ?_ ?_
                       rotate_left
                       · simp only [Act.put, List.setIfInBounds_toArray, List.set_cons_zero, List.set_cons_succ]; exact rfl)
                refine SeqL.nil (hfin.out _ ?_)
                clear hfin fin
                intro w1 hS1
                go_wp2_with fail
                go_roundw
                case rel => exact ⟨k + 1, by omega, by go_num, HE.out, HBB.out.trans (hS1.mono HBB.out.size)⟩
                case measure => simp [RowKit.intOf]; omega
              · rw [hx] at hip
                have HE := Lib.hid (HS.out g (HFA.out hip))
                clear hip
                cases many
                all_goals
                  have HE2 := Lib.hid HE.out
                  go_wp2_with fail
                  refine region_seq (S := fun w' => Below wr.heap.size wr w') rfl (by kernel_rfl) (by kernel_rfl) (by repeat (first | (with_reducible assumption) | (with_reducible exact Below.refl _ _) | (with_reducible refine Below.alloc ?_ (by first | omega | (simp; omega) | (simp; done) | (dsimp only; omega)) _) | (with_reducible refine Below.setCell ?_ (by first | omega | (simp; omega) | (simp; done) | (dsimp only; omega)) _) | (with_reducible refine Below.drew ?_) | (with_reducible refine Below.trans ?_ (Below.mono (by assumption) (by first | omega | (simp; omega) | (simp; done) | (dsimp only; omega)))))) (fun fin hfin => ?_)
                  iterate 14
                    first
                      | (refine SeqL.yes (v := ?_) (A' := ?_) rfl (by rfl) ?_ ?_ ?_
                         rotate_left 2
                         · intro w' K hS hK
                           obtain ⟨hc, hf⟩ := bcell hS
                           have hz := hS.size
                           go_simp
                           first
                             | exact hK.out _ hS
                             | trace_state
                         · simp only [Act.put, List.setIfInBounds_toArray, List.set_cons_zero, List.set_cons_succ]; exact rfl)
                      | (refine SeqL.no (A' := ?_) rfl (by rfl) ?_ ?_
                         rotate_left
                         · simp only [Act.put, List.setIfInBounds_toArray, List.set_cons_zero, List.set_cons_succ]; exact rfl)
                  refine SeqL.nil (hfin.out _ ?_)
                  clear hfin fin
                  intro w1 hS1
                  have hcell1 := (hS1.cell (p := ⟨wc.heap.size, k, none⟩) hbl).trans hcell
                  have kw1 := (hS1.block _ (blk_lt kw)).trans kw
                  have hbw1 := hbw.trans (hS1.mono hbw.size)
                  have g1 := blk_cell kw1
                  have f1 := blk_free kw1
                  clear hS1 kw kw1 hcell g0 f0 hbw
                  go_wp2_with fail
                  refine bodyPost_ret (by simp [results, Tryd.results18, go_sem, *] <;> rfl) rfl ⟨by rw [HE2.out]; rfl, (by repeat (first | (with_reducible assumption) | (with_reducible exact Below.refl _ _) | (with_reducible refine Below.alloc ?_ (by first | omega | (simp; omega) | (simp; done) | (dsimp only; omega)) _) | (with_reducible refine Below.setCell ?_ (by first | omega | (simp; omega) | (simp; done) | (dsimp only; omega)) _) | (with_reducible refine Below.drew ?_) | (with_reducible refine Below.trans ?_ (Below.mono (by assumption) (by first | omega | (simp; omega) | (simp; done) | (dsimp only; omega))))))⟩
            · rw [decide_eq_false h1, Bool.false_and] at hip
              have HE := Lib.hid (HSN.out hip)
              clear hip
              have i1 : ¬ (g.length : Int) ≤ t.length := by omega
              go_wp2_with fail
              refine region_seq (S := fun w' => Below wr.heap.size wr w') rfl (by kernel_rfl) (by kernel_rfl) (by repeat (first | (with_reducible assumption) | (with_reducible exact Below.refl _ _) | (with_reducible refine Below.alloc ?_ (by first | omega | (simp; omega) | (simp; done) | (dsimp only; omega)) _) | (with_reducible refine Below.setCell ?_ (by first | omega | (simp; omega) | (simp; done) | (dsimp only; omega)) _) | (with_reducible refine Below.drew ?_) | (with_reducible refine Below.trans ?_ (Below.mono (by assumption) (by first | omega | (simp; omega) | (simp; done) | (dsimp only; omega)))))) (fun fin hfin => ?_)
              iterate 14
                first
                  | (refine SeqL.yes (v := ?_) (A' := ?_) rfl (by rfl) ?_ ?_ ?_
                     rotate_left 2
                     · intro w' K hS hK
                       obtain ⟨hc, hf⟩ := bcell hS
                       have hz := hS.size
                       go_simp
                       first
                         | exact hK.out _ hS
                         | trace_state
                     · simp only [Act.put, List.setIfInBounds_toArray, List.set_cons_zero, List.set_cons_succ]; exact rfl)
                  | (refine SeqL.no (A' := ?_) rfl (by rfl) ?_ ?_
                     rotate_left
                     · simp only [Act.put, List.setIfInBounds_toArray, List.set_cons_zero, List.set_cons_succ]; exact rfl)
              refine SeqL.nil (hfin.out _ ?_)
              clear hfin fin
              intro w1 hS1
              go_wp2_with fail
              go_roundw
              case rel => exact ⟨k + 1, by omega, by go_num, HE.out, HBB.out.trans (hS1.mono HBB.out.size)⟩
              case measure => simp [RowKit.intOf]; omega
          · have hk22 : k = 22 := by omega
            subst hk22
            have HE := Lib.hid (HN.out (List.find?_eq_none.2 (fun g hg => by rw [hno g (by rwa [List.take_of_length_le (by decide)])]; decide)))
            clear hno
            go_wp2_with fail
            refine bodyPost_ret (by simp [results, Tryd.results18, go_sem, *] <;> rfl) rfl ⟨by rw [HE.out]; rfl, (by repeat (first | (with_reducible assumption) | (with_reducible exact Below.refl _ _) | (with_reducible refine Below.alloc ?_ (by first | omega | (simp; omega) | (simp; done) | (dsimp only; omega)) _) | (with_reducible refine Below.setCell ?_ (by first | omega | (simp; omega) | (simp; done) | (dsimp only; omega)) _) | (with_reducible refine Below.drew ?_) | (with_reducible refine Below.trans ?_ (Below.mono (by assumption) (by first | omega | (simp; omega) | (simp; done) | (dsimp only; omega))))))⟩
end Go.Proofs.YtgaecojdebpcgaaDoor
