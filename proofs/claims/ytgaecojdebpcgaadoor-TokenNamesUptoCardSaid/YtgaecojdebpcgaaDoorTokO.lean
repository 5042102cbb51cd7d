/- X-PARTIAL The document's own answer: reading: layer 10. -/
import Derived.Test.YtgaecojdebpcgaaDoorTokN
namespace Go.Proofs.YtgaecojdebpcgaaDoor
open Go.RowKit Go.Lib

def RdRel (s : Str) (W : World) (v6 v7 : Value) (wr : World) : Prop :=
  ∃ (a : Nat) (L : List Tok), v7 = .int .i64 a ∧ a ≤ s.length ∧ OwnT wr W.heap.size v6 L ∧ L.length ≤ 4000 ∧ readG s a L = readG s 0 [] ∧ Below W.heap.size W wr

theorem blank_tests (c : UInt8) : ∃ b1 b2 b3 b4 : Bool, ((c.toNat : Int) == 32) = b1 ∧ ((c.toNat : Int) == 9) = b2 ∧ ((c.toNat : Int) == 10) = b3 ∧ ((c.toNat : Int) == 13) = b4 ∧ (kB c == 1) = (b1 || b2 || b3 || b4) :=
  ⟨_, _, _, _, rfl, rfl, rfl, rfl, kind_is1 _⟩

set_option maxRecDepth 1000000 in
set_option maxHeartbeats 4000000 in
theorem r10_Read (s : Str) (A : Option Addr) (cp : Nat) (w : World) (hr : BRow w A s) :
    Calls Tryd.prog 7 #[.slice A s.length cp] w fun e w' => (∃ (A2 : Option Addr) (c2 : Nat), e = .returned (.tuple #[.slice A2 (readF s).1.length c2, .int .i64 (readF s).2.1, .int .i64 (readF s).2.2]) ∧ TRow w' A2 (readF s).1) ∧ Below w.heap.size w w' := by
  have hcv := conv_bytes hr cp
  by_cases hl : 20000 < s.length
  · have i1 : decide ((20000 : Int) < s.length) = true := decide_eq_true (by omega)
    rw [show readF s = ([], 0, 6) from if_pos hl]
    go_enter Tryd.func7, Tryd.ntmps7
    go_wp2_with fail
    go_ret3
    exact ⟨⟨none, 0, rfl, rfl⟩, Below.refl _ _⟩
  · have i1 : decide ((20000 : Int) < s.length) = false := decide_eq_false (by omega)
    have hm : s.length ≤ 281474976710656 := by omega
    rw [show readF s = readG s 0 [] from if_neg hl]
    obtain ⟨i0, gi, gz0, gz1, gz2⟩ := info_parts info_tok
    have HO := Lib.hid (fun (t : Str) many w' hn hm => r10_one t many w' hn hm)
    go_enter Tryd.func7, Tryd.ntmps7
    go_wp2_with fail
    clear hcv i1
    go_loopw [6, 7] (fun v6 v7 wr => RdRel s w v6 v7 wr) (fun _ v7 _ => s.length - (RowKit.intOf v7).toNat)
    case atStart => exact ⟨0, [], rfl, Nat.zero_le _, OwnT.nil _ _, by simp, rfl, Below.refl _ _⟩
    case round =>
      obtain ⟨a, L, rfl, ha, hown, hL, hG, hB⟩ := hrel
      have HG := Lib.hid hG
      by_cases hlt : a < s.length
      · have hg := mk_get s a hlt
        have HBL := Lib.hid (readG_blank (L := L) hlt)
        have HBD := Lib.hid (fun r => readG_bad (L := L) (r := r) hlt)
        have HTK := Lib.hid (fun r => readG_tok (L := L) (r := r) hlt)
        have ik : (a : Int) < s.length := by omega
        clear hG
        generalize hcc : s[a] = c at *
        obtain ⟨b1, b2, b3, b4, e1, e2, e3, e4, eb⟩ := blank_tests c
        by_cases hk : kB c = 1
        · have HE := Lib.hid (HBL.out hk)
          have hb : (b1 || b2 || b3 || b4) = true := by rw [← eb, hk]; rfl
          clear eb hk HBL HBD HTK HO
          cases b1
          · cases b2
            · cases b3
              · cases b4
                · exact absurd hb (by decide)
                · go_wp2_with fail
                  go_roundw
                  case rel => exact ⟨a + 1, L, by go_num, by omega, hown, hL, by rw [← HE.out]; exact HG.out, hB⟩
                  case measure => simp [RowKit.intOf]; omega
              · go_wp2_with fail
                go_roundw
                case rel => exact ⟨a + 1, L, by go_num, by omega, hown, hL, by rw [← HE.out]; exact HG.out, hB⟩
                case measure => simp [RowKit.intOf]; omega
            · go_wp2_with fail
              go_roundw
              case rel => exact ⟨a + 1, L, by go_num, by omega, hown, hL, by rw [← HE.out]; exact HG.out, hB⟩
              case measure => simp [RowKit.intOf]; omega
          · go_wp2_with fail
            go_roundw
            case rel => exact ⟨a + 1, L, by go_num, by omega, hown, hL, by rw [← HE.out]; exact HG.out, hB⟩
            case measure => simp [RowKit.intOf]; omega
        · have hb : (b1 || b2 || b3 || b4) = false := by rw [← eb]; simpa using hk
          simp only [Bool.or_eq_false_iff] at hb
          obtain ⟨⟨⟨rfl, rfl⟩, rfl⟩, rfl⟩ := hb
          have HBD2 := Lib.hid (fun r => HBD.out r hk)
          have HTK2 := Lib.hid (fun r => HTK.out r hk)
          clear eb hk HBL HBD HTK
          obtain ⟨A6, c6, rfl, -, -, -⟩ := hown.row
          have ex : (⟨s.toArray⟩ : ByteArray).extract a s.length = ⟨(s.drop a).toArray⟩ := by
            rw [ByteArray.extract_mk, List.take_of_length_le (by rw [List.length_drop]; omega)]
          have HO2 := Lib.hid (fun many w' => HO.out (s.drop a) many w' (by intro h; have := congrArg List.length h; rw [List.length_drop] at this; simp at this; omega) (by rw [List.length_drop]; omega))
          clear HO
          have ia : (a : Int) ≤ s.length := by omega
          have i4 : decide ((4000 : Int) ≤ L.length) = decide (4000 ≤ L.length) := by
            by_cases h : 4000 ≤ L.length
            · rw [decide_eq_true h, decide_eq_true (by omega)]
            · rw [decide_eq_false h, decide_eq_false (by omega)]
          generalize hmany : decide (4000 ≤ L.length) = many at *
          generalize s.drop a = t at *
          go_wp2_with fail
          go_at_call 18
          refine (HO2.out many _).mono ?_
          rintro e w1 ⟨rfl, hb1⟩
          clear HO2
          generalize hr0 : oneF t many = r at *
          by_cases he : r.e = 0
          · have ie : (r.e != 0) = false := by rw [he]; rfl
            obtain ⟨hG2, hL2, hp1, hp2⟩ := HTK2.out r rfl he
            have HG2 := Lib.hid hG2
            have hown2 := hown.mono hb1
            have hB2 := hB.trans (hb1.mono hB.size)
            have hz2 := hB2.size
            clear he hr0 HTK2 HBD2 hown hb1 hB hG2
            go_wp2_with (at_builtin; refine wpList_append_own_at _ rfl _ _ 23 rfl w.heap.size 37 i0 _ 4 40 Tryd.underlying23 gi gz0 gz1 gz2 rfl (by decide) _ _ _ rfl (hown2.mono (by repeat (first | (with_reducible assumption) | (with_reducible exact Below.refl _ _) | (with_reducible refine Below.alloc ?_ (by first | omega | (simp; omega) | (simp; done) | (dsimp only; omega)) _) | (with_reducible refine Below.setCell ?_ (by first | omega | (simp; omega) | (simp; done) | (dsimp only; omega)) _) | (with_reducible refine Below.drew ?_) | (with_reducible refine Below.trans ?_ (Below.mono (by assumption) (by first | omega | (simp; omega) | (simp; done) | (dsimp only; omega))))))) ⟨w1.heap.size + 1, 0, none⟩ 1 1 [.int .i64 r.k, encStr r.t, .int .i64 r.n, .int .i64 a] rfl rfl ?c1 ?c2 ?c3 ?c4 ?c5 ?_)
            case c1 =>
              intro q u hq
              match q, hq with
              | 0, hq => simp at hq; subst hq; simp [Addr.add, go_sem]
              | 1, hq => simp at hq; subst hq; simp [Addr.add, go_sem]
              | 2, hq => simp at hq; subst hq; simp [Addr.add, go_sem]
              | 3, hq => simp at hq; subst hq; simp [Addr.add, go_sem]
              | q + 4, hq => simp at hq
            case c2 => intro u hu; simp at hu; rcases hu with rfl | rfl | rfl | rfl <;> rfl
            case c3 => unfold maxLen; omega
            case c4 => omega
            case c5 => simp; omega
            · intro v' w' hown' hgrow _ hblk
              have hne : (Value.slice A6 L.length c6).ownBlock ≠ some w1.heap.size := fun e => by have := (hown2.lt _ e).2; omega
              have hc1 : w'.cell? ⟨w1.heap.size, 1, none⟩ = some (encStr r.t) := hgrow.cell (by simp [go_sem]) (fun e => hne e.symm)
              have hB3 : Below w.heap.size w w' := Below.grown (a := w) (by repeat (first | (with_reducible assumption) | (with_reducible exact Below.refl _ _) | (with_reducible refine Below.alloc ?_ (by first | omega | (simp; omega) | (simp; done) | (dsimp only; omega)) _) | (with_reducible refine Below.setCell ?_ (by first | omega | (simp; omega) | (simp; done) | (dsimp only; omega)) _) | (with_reducible refine Below.drew ?_) | (with_reducible refine Below.trans ?_ (Below.mono (by assumption) (by first | omega | (simp; omega) | (simp; done) | (dsimp only; omega)))))) hgrow (by simp; omega) (fun k e => by have := (hown2.lt k e).1; omega)
              have HOW := Lib.hid (OwnT.snoc (x := ⟨r.k, r.t, r.n, a⟩) hown')
              have w3 : wrap64 ((a : Int) + r.t.length) = a + r.t.length := by unfold wrap64; omega
              clear hown' hgrow hblk hne hown2 hB2
              go_wp2_with fail
              go_roundw
              case rel => exact ⟨a + r.t.length, L ++ [⟨r.k, r.t, r.n, a⟩], by go_num, hp2, HOW.out, by simp; omega, by rw [← HG2.out]; exact HG.out, hB3⟩
              case measure => simp [RowKit.intOf]; omega
          · have ie : (r.e != 0) = true := by simpa using he
            have HE := Lib.hid (HBD2.out r rfl he)
            have hB2 := hB.trans (hb1.mono hB.size)
            have hz2 := hB2.size
            clear he hr0 HTK2 HBD2 hown hb1 hB
            go_wp2_with fail
            go_ret3
            refine ⟨⟨none, 0, ?_, ?_⟩, (by repeat (first | (with_reducible assumption) | (with_reducible exact Below.refl _ _) | (with_reducible refine Below.alloc ?_ (by first | omega | (simp; omega) | (simp; done) | (dsimp only; omega)) _) | (with_reducible refine Below.setCell ?_ (by first | omega | (simp; omega) | (simp; done) | (dsimp only; omega)) _) | (with_reducible refine Below.drew ?_) | (with_reducible refine Below.trans ?_ (Below.mono (by assumption) (by first | omega | (simp; omega) | (simp; done) | (dsimp only; omega))))))⟩
            · rw [← HG.out, HE.out]; rfl
            · rw [← HG.out, HE.out]; rfl
      · have HE := Lib.hid (readG_end (L := L) hlt)
        obtain ⟨A6, c6, rfl, -, -, -⟩ := hown.row
        have ik : ¬ (a : Int) < s.length := by omega
        clear hG HO
        go_wp2_with (at_builtin; refine wpList_append_own_at _ rfl _ _ 23 rfl w.heap.size 37 i0 _ 4 40 Tryd.underlying23 gi gz0 gz1 gz2 rfl (by decide) _ _ _ rfl (hown.mono (by repeat (first | (with_reducible assumption) | (with_reducible exact Below.refl _ _) | (with_reducible refine Below.alloc ?_ (by first | omega | (simp; omega) | (simp; done) | (dsimp only; omega)) _) | (with_reducible refine Below.setCell ?_ (by first | omega | (simp; omega) | (simp; done) | (dsimp only; omega)) _) | (with_reducible refine Below.drew ?_) | (with_reducible refine Below.trans ?_ (Below.mono (by assumption) (by first | omega | (simp; omega) | (simp; done) | (dsimp only; omega))))))) ⟨wr.heap.size, 0, none⟩ 1 1 [.int .i64 0, encStr [], .int .i64 0, .int .i64 s.length] rfl rfl ?c1 ?c2 ?c3 ?c4 ?c5 ?_)
        case c2 => exact ⟨rfl, rfl, rfl, rfl⟩
        case c3 => unfold maxLen; omega
        case c4 => omega
        case c5 => have := hB.size; simp; omega
        · intro v' w' hown' hgrow _ hblk
          have hz := hB.size
          have hB3 : Below w.heap.size w w' := Below.grown (a := w) (by repeat (first | (with_reducible assumption) | (with_reducible exact Below.refl _ _) | (with_reducible refine Below.alloc ?_ (by first | omega | (simp; omega) | (simp; done) | (dsimp only; omega)) _) | (with_reducible refine Below.setCell ?_ (by first | omega | (simp; omega) | (simp; done) | (dsimp only; omega)) _) | (with_reducible refine Below.drew ?_) | (with_reducible refine Below.trans ?_ (Below.mono (by assumption) (by first | omega | (simp; omega) | (simp; done) | (dsimp only; omega)))))) hgrow (by simp; omega) (fun k e => by have := (hown.lt k e).1; omega)
          have HOW := Lib.hid (OwnT.snoc (x := ⟨0, [], 0, s.length⟩) hown')
          clear hown' hgrow hblk hown hB
          obtain ⟨A7, c7, rfl, -, -, hT⟩ := HOW.out.row
          have HT := Lib.hid hT
          clear hT HOW
          go_wp2_with fail
          go_ret3
          rw [← HG.out, HE.out]
          exact ⟨⟨A7, c7, rfl, HT.out⟩, hB3⟩
end Go.Proofs.YtgaecojdebpcgaaDoor
