/- X-PARTIAL The law TokenBack, walked: layer 10. -/
import Derived.Test.YtgaecojdebpcgaaDoorTokS
import Derived.Test.YtgaecojdebpcgaaDoorTokT
import Derived.Test.YtgaecojdebpcgaaDoorTokU
import Derived.Lib.ConvBytes
import Derived.Lib.AtoiErrMem
namespace Go.Proofs.YtgaecojdebpcgaaDoor
open Go.RowKit Go.Lib

theorem read_none (s : Str) : ∀ (n a : Nat) (L : List Tok), s.length - a ≤ n → (readG s a L).2.2 ≠ 0 → (readG s a L).1 = [] := by
  intro n
  induction n with
  | zero => intro a L h he; rw [readG_end (by omega)] at he; exact absurd rfl he
  | succ n ih =>
    intro a L h he
    by_cases hlt : a < s.length
    · by_cases hk : kB s[a] = 1
      · rw [readG_blank hlt hk] at he ⊢; exact ih _ _ (by omega) he
      · by_cases h0 : (oneF (s.drop a) (decide (4000 ≤ L.length))).e = 0
        · obtain ⟨h1, h2, h3, h4⟩ := readG_tok hlt hk rfl h0
          rw [h1] at he ⊢
          exact ih _ _ (by omega) he
        · rw [readG_bad hlt hk rfl h0]
    · rw [readG_end hlt] at he; exact absurd rfl he
theorem readF_none (s : Str) (he : (readF s).2.2 ≠ 0) : (readF s).1 = [] := by
  unfold readF at he ⊢
  split
  · rfl
  · next h => rw [if_neg h] at he; exact read_none s s.length 0 [] (by omega) he

/-- A text as bytes: a row of its own. -/
theorem conv_text (x : Str) (w : World) : ∃ (c : Nat) (W : World), (convert 9 22 (encStr x)).run Tryd.prog w = .ok (.slice (some ⟨w.heap.size, 0, none⟩) x.length c) W ∧ BRow W (some ⟨w.heap.size, 0, none⟩) x ∧ Below w.heap.size w W := by
  have h := Lib.run_convert_string_bytes (P := Tryd.prog) w 9 22 5 ⟨x.toArray⟩ Tryd.underlying9 Tryd.underlying22 Tryd.underlying5
  rw [mk_size] at h
  refine ⟨_, _, h, fun i hi => ?_, Lib.bytesWorld_below _ _ _⟩
  rw [List.length_map] at hi
  have ea : (⟨w.heap.size, 0, none⟩ : Addr).add i = ⟨w.heap.size, i, none⟩ := by
    unfold Addr.add
    split
    · simp_all
    · simp
  rw [ea, Lib.bytesWorld_cell _ _ _ _ (by rw [mk_size]; exact hi)]
  show some (Value.int .u8 ((x.getD i 0).toNat : Int)) = _
  rw [List.getD_eq_getElem?_getD, List.getElem?_eq_getElem hi, Option.getD_some, List.getElem_map]

set_option maxRecDepth 1000000 in
set_option maxHeartbeats 4000000 in
theorem law_tokenBack (s : Str) (A : Option Addr) (cp : Nat) (w : World) (hr : BRow w A s) (hv : RV w) :
    Calls Tryd.prog 5 #[.slice A s.length cp] w fun e w' => e = .returned (.bool true) ∧ Below w.heap.size w w' := by
  have H0 := token_Read s A cp w hr hv
  have hL : (readF s).1.length ≤ 140737488355328 := Nat.le_trans (readF_len s) (by decide)
  have hL2 : (readF s).1.length ≤ 8796093022208 := Nat.le_trans (readF_len s) (by decide)
  by_cases h0 : (readF s).2.2 = 0
  · obtain ⟨-, hj, hb⟩ := read_back s h0
    have HJ := Lib.hid (fun A2 c2 w' h => token_Join (readF s).1 A2 c2 w' hL2 hj h)
    rw [h0] at H0
    have H1 := Lib.hid H0
    have HR := Lib.hid (fun A3 c3 w' h hv' => token_Read (Lib.join ((readF s).1.map Tok.t) [32]) A3 c3 w' h hv')
    have HS := Lib.hid (fun A2 c2 A3 c3 w' hs h2 h3 => r10_Same false (readF s).1 (readF (Lib.join ((readF s).1.map Tok.t) [32])).1 hs A2 A3 c2 c3 w' hL h2 h3)
    clear H0 hr hj h0 hL hL2
    generalize Lib.join ((readF s).1.map Tok.t) [32] = x at *
    generalize (readF s).2.1 = n at *
    generalize (readF s).1 = L at *
    generalize readF x = R at *
    have HB := Lib.hid hb
    clear hb
    go_enter Tryd.func5, Tryd.ntmps5
    go_wp2_with fail
    go_at_call 6
    refine H1.out.mono ?_
    rintro e w1 ⟨⟨A2, c2, rfl, hT⟩, hb1⟩
    have HT := Lib.hid hT
    have hv1 := hv.mono hb1
    clear hT H1 hv
    go_wp2_with fail
    go_at_call 14
    refine (HJ.out A2 c2 w1 HT.out).mono ?_
    rintro e w2 ⟨rfl, hb2⟩
    have HT2 := Lib.hid (HT.out.mono hb2)
    have hv2 := hv1.mono hb2
    have hB2 := hb1.trans (hb2.mono hb1.size)
    obtain ⟨c3, w3, hcv, hR3, hb3⟩ := conv_text x w2
    have HR3 := Lib.hid hR3
    have HT3 := Lib.hid (HT2.out.mono hb3)
    have hv3 := hv2.mono hb3
    have hB3 := hB2.trans (hb3.mono hB2.size)
    clear HT HT2 hv1 hv2 hR3 hb1 hb2 hb3 hB2 HJ
    go_wp2_with fail
    go_at_call 6
    refine (HR.out _ _ w3 HR3.out hv3).mono ?_
    rintro e w4 ⟨⟨A4, c4, rfl, hT⟩, hb4⟩
    have HT4 := Lib.hid hT
    have HT5 := Lib.hid (HT3.out.mono hb4)
    have hv4 := hv3.mono hb4
    have hB4 := hB3.trans (hb4.mono hB3.size)
    clear HT3 HR3 hv3 hT hb4 hB3 HR hcv
    by_cases hlen : 20000 < x.length
    · have i1 : (20000 : Int) < x.length := by omega
      clear HB HS HT4 HT5
      go_wp2_with fail
      go_at_call 9
      refine (law10_lives w4 hv4).mono ?_
      rintro e w5 ⟨rfl, hb5⟩
      go_wp2_with fail
      go_ret
      exact ⟨rfl, hB4.trans (hb5.mono hB4.size)⟩
    · have i1 : ¬ (20000 : Int) < x.length := by omega
      obtain ⟨he, hs⟩ := HB.out (by omega)
      have HSM := Lib.hid hs
      clear hs HB
      rw [he]
      go_wp2_with fail
      go_at_call 8
      refine (HS.out A2 c2 A4 c4 w4 HSM.out HT5.out HT4.out).mono ?_
      rintro e w5 ⟨rfl, hb5⟩
      have hv5 := hv4.mono hb5
      have hB5 := hB4.trans (hb5.mono hB4.size)
      clear HS HSM HT5 HT4 hv4 hb5 hB4
      go_wp2_with fail
      go_at_call 9
      refine (law10_lives w5 hv5).mono ?_
      rintro e w6 ⟨rfl, hb6⟩
      go_wp2_with fail
      go_ret
      exact ⟨rfl, hB5.trans (hb6.mono hB5.size)⟩
  · have hn := readF_none s h0
    rw [hn] at H0
    have H1 := Lib.hid H0
    have hne : ((readF s).2.2 != 0) = true := by simpa using h0
    clear hr hn h0 hL hL2 H0
    generalize (readF s).2.2 = e at *
    generalize (readF s).2.1 = n at *
    go_enter Tryd.func5, Tryd.ntmps5
    go_wp2_with fail
    go_at_call 6
    refine H1.out.mono ?_
    rintro e w1 ⟨⟨A2, c2, rfl, hT⟩, hb1⟩
    have hv1 := hv.mono hb1
    clear hT H1
    go_wp2_with fail
    go_at_call 9
    refine (law10_lives w1 hv1).mono ?_
    rintro e w2 ⟨rfl, hb2⟩
    go_wp2_with fail
    go_ret
    exact ⟨rfl, hb1.trans (hb2.mono hb1.size)⟩
end Go.Proofs.YtgaecojdebpcgaaDoor
