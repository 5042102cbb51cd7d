/- X-PARTIAL Several parts in one: WebAl WebAm WebAz. -/
import Derived.Test.YtkmpkhbahmehmaaWebHw
import Derived.Test.YtkmpkhbahmehmaaWebP
import Derived.Test.YtkmpkhbahmehmaaKeyHw
namespace Go.Proofs.Ytkmpkhbahmehmaa
section
open Go.RowKit Go.Lib

theorem any_cleanA {out : List Ky} (hc : ∀ z ∈ out, z.cl = z) (k : Ky) : (out.any fun x => decide (x.cl = k.cl)) = decide (k.cl ∈ out) := by
  rw [Bool.eq_iff_iff, List.any_eq_true, decide_eq_true_eq]
  constructor
  · rintro ⟨x, hx, e⟩
    have e := of_decide_eq_true e
    rw [hc x hx] at e
    rw [← e]; exact hx
  · intro h
    exact ⟨_, h, decide_eq_true (Ky.cl_cl _)⟩
/-- What a pair asks for and what it adds. -/
def asks (up : Bool) (p : Pr) : Ky := if up then p.1 else p.2
def adds (up : Bool) (p : Pr) : Ky := if up then p.2 else p.1
def stepA (up : Bool) (out : List Ky) (p : Pr) : List Ky := if asks up p ∈ out then putR out (adds up p) else out
def passA (up : Bool) (m : List Pr) (out : List Ky) : List Ky := m.foldl (stepA up) out
theorem passA_next {up : Bool} {m : List Pr} {i : Nat} (h : i < m.length) (out : List Ky) : passA up (m.take (i + 1)) out = stepA up (passA up (m.take i) out) m[i] := by
  unfold passA
  rw [List.take_succ_eq_append_getElem h, List.foldl_append]
  rfl
def CleanP (m : List Pr) : Prop := ∀ p ∈ m, p.1.cl = p.1 ∧ p.2.cl = p.2
theorem adds_cl {up : Bool} {m : List Pr} (hc : CleanP m) {p : Pr} (hp : p ∈ m) : (adds up p).cl = adds up p := by
  unfold adds
  split
  · exact (hc p hp).2
  · exact (hc p hp).1
theorem asks_cl {up : Bool} {m : List Pr} (hc : CleanP m) {p : Pr} (hp : p ∈ m) : (asks up p).cl = asks up p := by
  unfold asks
  split
  · exact (hc p hp).1
  · exact (hc p hp).2
theorem mem_stepA {up : Bool} {out : List Ky} {p : Pr} (hc : (adds up p).cl = adds up p) {z : Ky} : z ∈ stepA up out p ↔ z ∈ out ∨ (asks up p ∈ out ∧ z = adds up p) := by
  unfold stepA
  by_cases h : asks up p ∈ out
  · rw [if_pos h, mem_putR, hc]
    exact ⟨fun e => e.elim (fun e => Or.inr ⟨h, e⟩) Or.inl, fun e => e.elim Or.inr (fun e => Or.inl e.2)⟩
  · rw [if_neg h]
    exact ⟨Or.inl, fun e => e.elim id (fun e => absurd e.1 h)⟩
theorem strict_stepA {up : Bool} {out : List Ky} {p : Pr} (h : StrictK out) : StrictK (stepA up out p) := by
  unfold stepA
  split
  · exact strict_putR h _
  · exact h
theorem strict_passA {up : Bool} : ∀ {m : List Pr} {out : List Ky}, StrictK out → StrictK (passA up m out)
  | [], _, h => h
  | _ :: m, _, h => strict_passA (m := m) (strict_stepA h)
theorem sub_passA {up : Bool} : ∀ {m : List Pr} {out : List Ky}, CleanP m → ∀ z ∈ out, z ∈ passA up m out
  | [], _, _, _, h => h
  | _p :: m, _, hc, z, h => sub_passA (m := m) (fun q hq => hc q (List.mem_cons_of_mem _ hq)) z ((mem_stepA (adds_cl hc List.mem_cons_self)).2 (Or.inl h))
theorem pass_adds {up : Bool} : ∀ {m : List Pr} {out : List Ky}, CleanP m → ∀ p ∈ m, asks up p ∈ out → adds up p ∈ passA up m out
  | q :: m, out, hc, p, hp, h => by
    have hc' : CleanP m := fun q hq => hc q (List.mem_cons_of_mem _ hq)
    rcases List.mem_cons.1 hp with rfl | hp
    · exact sub_passA (m := m) hc' _ ((mem_stepA (adds_cl hc List.mem_cons_self)).2 (Or.inr ⟨h, rfl⟩))
    · exact pass_adds (m := m) hc' p hp ((mem_stepA (adds_cl hc List.mem_cons_self)).2 (Or.inl h))
/-- What is in after a pass came in by a step. -/
theorem mem_passA {up : Bool} {q : Ky → Prop} : ∀ {m : List Pr} {out : List Ky}, CleanP m → (∀ z ∈ out, q z) → (∀ p ∈ m, q (asks up p) → q (adds up p)) → ∀ z ∈ passA up m out, q z
  | [], _, _, h, _, z, hz => h z hz
  | p :: m, out, hc, h, hs, z, hz => mem_passA (m := m) (fun q hq => hc q (List.mem_cons_of_mem _ hq)) (fun z hz => by
      rcases (mem_stepA (adds_cl hc List.mem_cons_self)).1 hz with hz | ⟨h1, rfl⟩
      · exact h z hz
      · exact hs p List.mem_cons_self (h _ h1)) (fun p hp => hs p (List.mem_cons_of_mem _ hp)) z hz
theorem passA_len {up : Bool} {m : List Pr} {out : List Ky} (hc : CleanP m) (hs : StrictK out) : out.length ≤ (passA up m out).length := nodup_leG (strict_nodup hs) (sub_passA hc)
theorem passA_same {up : Bool} {m : List Pr} {out : List Ky} (hc : CleanP m) (hs : StrictK out) (h : (passA up m out).length = out.length) : passA up m out = out := by
  have h1 := sub_passA (up := up) hc (out := out)
  refine strictK_uniq (strict_passA hs) hs (fun z => ⟨fun hz => ?_, h1 z⟩)
  by_cases hzo : z ∈ out
  · exact hzo
  · exfalso
    have := nodup_leG (l := z :: out) (m := passA up m out) (List.nodup_cons.2 ⟨hzo, strict_nodup hs⟩) (fun y hy => by
      rcases List.mem_cons.1 hy with rfl | hy
      · exact hz
      · exact h1 y hy)
    simp only [List.length_cons] at this
    omega

/-- Where the rounds stand. -/
structure AllI (up : Bool) (f : Ky → List Ky) (m : List Pr) (from_ out : List Ky) (n : Nat) : Prop where
  strict : StrictK out
  start : ∀ y ∈ from_, y.cl ∈ out
  reach : ∀ z ∈ out, Reach f from_ z
  more : ∀ z ∈ out, z ∈ rowR from_ ∨ ∃ p ∈ m, z = adds up p
  count : (rowR from_).length + n ≤ out.length
def FromP (up : Bool) (f : Ky → List Ky) (m : List Pr) : Prop := ∀ a z, z ∈ f a ↔ ∃ p ∈ m, asks up p = a ∧ adds up p = z
theorem AllI.begin {up : Bool} {f : Ky → List Ky} {m : List Pr} (l : List Ky) : AllI up f m l (rowR l) 0 :=
  ⟨strict_rowR l, fun y hy => mem_rowR.2 ⟨y, hy, rfl⟩, fun z hz => by
    obtain ⟨y, hy, rfl⟩ := mem_rowR.1 hz
    exact Reach.base hy, fun z hz => Or.inl hz, Nat.le_refl _⟩
theorem AllI.pass {up : Bool} {f : Ky → List Ky} {m : List Pr} {l out : List Ky} {n : Nat} (h : AllI up f m l out n) (hc : CleanP m) (hf : FromP up f m) (hne : (passA up m out).length ≠ out.length) : AllI up f m l (passA up m out) (n + 1) :=
  ⟨strict_passA h.strict, fun y hy => sub_passA hc _ (h.start y hy), mem_passA hc h.reach (fun p hp hq => hq.step ((hf _ _).2 ⟨p, hp, rfl, rfl⟩)),
    mem_passA hc h.more (fun p hp _ => Or.inr ⟨p, hp, rfl⟩), by have := h.count; have := passA_len (up := up) hc h.strict; omega⟩
theorem AllI.closed {up : Bool} {f : Ky → List Ky} {m : List Pr} {l out : List Ky} {n : Nat} (h : AllI up f m l out n) (hf : FromP up f m) (hcl : ∀ p ∈ m, asks up p ∈ out → adds up p ∈ out) : ∀ z, z ∈ out ↔ Reach f l z := fun z => by
  refine ⟨h.reach z, fun hz => ?_⟩
  induction hz with
  | base hy => exact h.start _ hy
  | step _ hb ih =>
    obtain ⟨p, hp, e1, e2⟩ := (hf _ _).1 hb
    rw [← e2]
    exact hcl p hp (by rw [e1]; exact ih)
theorem AllI.full {up : Bool} {f : Ky → List Ky} {m : List Pr} {l out : List Ky} (h : AllI up f m l out m.length) : ∀ p ∈ m, adds up p ∈ out := fun p hp => by
  by_cases hin : adds up p ∈ out
  · exact hin
  · exfalso
    have hmp : adds up p ∈ m.map (adds up) := List.mem_map.2 ⟨p, hp, rfl⟩
    have := nodup_leG (l := out) (m := rowR l ++ (m.map (adds up)).erase (adds up p)) (strict_nodup h.strict) (fun z hz => by
      rcases h.more z hz with hz' | ⟨q, hq, rfl⟩
      · exact List.mem_append_left _ hz'
      · exact List.mem_append_right _ ((List.mem_erase_of_ne (fun e => hin (by rw [← e]; exact hz))).2 (List.mem_map.2 ⟨q, hq, rfl⟩)))
    rw [List.length_append, List.length_erase_of_mem hmp, List.length_map] at this
    have h2 := h.count
    have h3 : 0 < m.length := List.length_pos_of_mem hp
    omega
theorem more_len {up : Bool} {m : List Pr} {l out : List Ky} (hs : StrictK out) (h : ∀ z ∈ out, z ∈ rowR l ∨ ∃ p ∈ m, z = adds up p) : out.length ≤ l.length + m.length := by
  have := nodup_leG (l := out) (m := rowR l ++ m.map (adds up)) (strict_nodup hs) (fun z hz => by
    rcases h z hz with hz' | ⟨q, hq, rfl⟩
    · exact List.mem_append_left _ hz'
    · exact List.mem_append_right _ (List.mem_map.2 ⟨q, hq, rfl⟩))
  rw [List.length_append, List.length_map] at this
  have := rowR_len l
  omega
end
section
open Go.RowKit Go.Lib

theorem take_clean {m : List Pr} (hc : CleanP m) (i : Nat) : CleanP (m.take i) := fun p hp => hc p (List.mem_of_mem_take hp)

set_option maxRecDepth 100000 in
set_option maxHeartbeats 16000000 in
theorem r29_All (up : Bool) (f : Ky → List Ky) (m : List Pr) (l : List Ky) (A B : Option Addr) (ca cb : Nat) (w : World) (hr : PRow w A m) (hk : KRow w B l) (hc : CleanP m) (hf : FromP up f m) (hl : l.length * 24 ≤ 140737488351232) (hlm : l.length + m.length + 1 ≤ 9382499223534) :
    Calls Try.prog 16 #[.slice A m.length ca, .slice B l.length cb, .bool up] w fun e w' => (∃ A2 c2 out, e = .returned (.slice A2 out.length c2) ∧ KRow w' A2 out ∧ StrictK out ∧ ∀ z, z ∈ out ↔ Reach f l z) ∧ Below w.heap.size w w' := by
  have H := Lib.hid (r26_Row l B cb w hk (by omega))
  have HR := Lib.hid hr
  have HC := Lib.hid hc
  have HF := Lib.hid hf
  have HFC := Lib.hid (show ∀ a b, b ∈ f a → b.cl = b from fun a b h => by
    obtain ⟨p, hp, -, e⟩ := (hf a b).1 h
    rw [← e]; exact adds_cl hc hp)
  clear hr hk hc hf
  go_enter Try.func16, Try.ntmps16
  go_wp2_with fail
  go_at_call 22
  refine H.out.mono ?_
  rintro e w1 ⟨⟨A1, c1, rfl, hr1⟩, hb1⟩
  have HI0 := Lib.hid (AllI.begin (up := up) (f := f) (m := m) l)
  generalize rowR l = r0 at *
  have HR1 := Lib.hid hr1
  have HB1 := Lib.hid hb1
  clear hr1 hb1 H
  go_wp2_with fail
  go_loopw [7, 8] (fun v7 v8 wr => ∃ (n : Nat) (out : List Ky) (A2 : Option Addr) (c2 : Nat), n ≤ m.length ∧ v8 = .int .i64 n ∧ v7 = .slice A2 out.length c2 ∧ KRow wr A2 out ∧ AllI up f m l out n ∧ Below w.heap.size w wr) (fun _ v8 _ => m.length - (RowKit.intOf v8).toNat)
  case atStart => exact ⟨0, r0, A1, c1, Nat.zero_le _, rfl, rfl, HR1.out, HI0.out, HB1.out⟩
  case round =>
    obtain ⟨n, out, A2, c2, hn, rfl, rfl, hkr, hI, hB⟩ := hrel
    have HKR := Lib.hid hkr
    have HI := Lib.hid hI
    have HB := Lib.hid hB
    have HBC := Lib.hid (show ∀ i, (passA up (m.take i) out).length ≤ l.length + m.length from fun i => more_len (up := up) (strict_passA hI.strict) (mem_passA (take_clean HC.out i) hI.more (fun p hp _ => Or.inr ⟨p, List.mem_of_mem_take hp, rfl⟩)))
    have HCC := Lib.hid (show ∀ i, ∀ z ∈ passA up (m.take i) out, z.cl = z from fun i => mem_passA (take_clean HC.out i) (fun z hz => (hI.reach z hz).cl_eq HFC.out) (fun p hp _ => adds_cl HC.out (List.mem_of_mem_take hp)))
    clear hkr hI hB HR1 HI0 HB1
    by_cases hlt : n < m.length
    · have ik : (n : Int) < m.length := by omega
      have hol := HBC.out 0
      rw [show passA up (m.take 0) out = out from rfl] at hol
      go_wp2_with fail
      clear ik
      go_loopw [7, 10] (fun v7 v10 wr2 => ∃ (i : Nat) (A3 : Option Addr) (c3 : Nat), i ≤ m.length ∧ v10 = .int .i64 i ∧ v7 = .slice A3 (passA up (m.take i) out).length c3 ∧ KRow wr2 A3 (passA up (m.take i) out) ∧ Below w.heap.size w wr2) (fun _ v10 _ => m.length - (RowKit.intOf v10).toNat)
      case atStart => exact ⟨0, A2, c2, Nat.zero_le _, rfl, rfl, HKR.out, HB.out⟩
      case round =>
        obtain ⟨i, A3, c3, hi, rfl, rfl, hkr3, hB3⟩ := hrel
        have HK3 := Lib.hid hkr3
        have HB3 := Lib.hid hB3
        have hs3 := hB3.size
        have hcl3 := HBC.out i
        clear hkr3
        by_cases hlt2 : i < m.length
        · have ik2 : (i : Int) < m.length := by omega
          obtain ⟨b, o, he, hz, d0, d1, d2, d3⟩ := (PRow.get (HR.out.below hB3) hlt2)
          have HNX := Lib.hid (passA_next (up := up) hlt2 out)
          have HCI := Lib.hid (HCC.out i)
          have HPC := Lib.hid (show m[i].1.cl = m[i].1 ∧ m[i].2.cl = m[i].2 from HC.out _ (List.getElem_mem _))
          cases he
          clear hB3
          generalize m[i] = p at *
          generalize passA up (m.take i) out = cur at *
          have HNL := Lib.hid (congrArg List.length HNX.out)
          cases up
          · have hH := r26_HasW cur p.2 A3 c3 wr HK3.out (by omega)
            rw [any_cleanA HCI.out, HPC.out.2] at hH
            have HH := Lib.hid hH
            have HMW := Lib.hid (fun v (q : Below wr.heap.size wr v) => r26_PutW cur p.1 A3 c3 v (HK3.out.mono q) (by omega))
            clear hH
            by_cases hin : p.2 ∈ cur
            · have hst : stepA false cur p = putR cur p.1 := if_pos hin
              rw [decide_eq_true hin] at HH
              have HNX2 := Lib.hid (HNX.out.trans hst)
              clear hst hin HNX HNL
              go_wp2_with fail
              go_at_call 18
              refine HH.out.mono ?_
              rintro e w4 ⟨rfl, hb4⟩
              have HB4 := Lib.hid (HB3.out.trans (hb4.mono hs3))
              have HPT := Lib.hid (HMW.out w4 hb4)
              have d0 := (hb4.cell (p := ⟨b, o + i * 4, none⟩) hz).trans d0
              have d1 := (hb4.cell (p := ⟨b, o + i * 4 + 1, none⟩) hz).trans d1
              have d2 := (hb4.cell (p := ⟨b, o + i * 4 + 2, none⟩) hz).trans d2
              have d3 := (hb4.cell (p := ⟨b, o + i * 4 + 3, none⟩) hz).trans d3
              have hs4 := HB4.out.size
              clear hb4 HMW HH
              go_wp2_with fail
              go_at_call 28
              refine HPT.out.mono ?_
              rintro e w5 ⟨⟨A5, c5, rfl, hr5⟩, hb5⟩
              have HR5 := Lib.hid hr5
              have HB5 := Lib.hid (HB4.out.trans (hb5.mono hs4))
              clear hr5 hb5 HPT d0 d1 d2 d3
              rw [← HNX2.out] at HR5
              have HE := Lib.hid (congrArg List.length HNX2.out)
              clear HNX2
              generalize (putR cur p.1).length = nn at *
              go_wp2_with fail
              go_roundw
              case rel => exact ⟨i + 1, A5, c5, by omega, by go_num, by rw [HE.out], HR5.out, HB5.out⟩
              case measure => simp [RowKit.intOf]; omega
            · have hst : stepA false cur p = cur := if_neg hin
              rw [decide_eq_false hin] at HH
              have HNX2 := Lib.hid (HNX.out.trans hst)
              clear hst hin HNX HNL HMW
              go_wp2_with fail
              go_at_call 18
              refine HH.out.mono ?_
              rintro e w4 ⟨rfl, hb4⟩
              have HB4 := Lib.hid (HB3.out.trans (hb4.mono hs3))
              have HK4 := Lib.hid (HK3.out.mono hb4)
              clear hb4 HH d0 d1 d2 d3
              rw [← HNX2.out] at HK4
              have HE := Lib.hid (congrArg List.length HNX2.out)
              clear HNX2 HK3 HCI
              generalize cur.length = nn at *
              go_wp2_with fail
              go_roundw
              case rel => exact ⟨i + 1, A3, c3, by omega, by go_num, by rw [HE.out], HK4.out, HB4.out⟩
              case measure => simp [RowKit.intOf]; omega
          · have hH := r26_HasW cur p.1 A3 c3 wr HK3.out (by omega)
            rw [any_cleanA HCI.out, HPC.out.1] at hH
            have HH := Lib.hid hH
            have HMW := Lib.hid (fun v (q : Below wr.heap.size wr v) => r26_PutW cur p.2 A3 c3 v (HK3.out.mono q) (by omega))
            clear hH
            by_cases hin : p.1 ∈ cur
            · have hst : stepA true cur p = putR cur p.2 := if_pos hin
              rw [decide_eq_true hin] at HH
              have HNX2 := Lib.hid (HNX.out.trans hst)
              clear hst hin HNX HNL
              go_wp2_with fail
              go_at_call 18
              refine HH.out.mono ?_
              rintro e w4 ⟨rfl, hb4⟩
              have HB4 := Lib.hid (HB3.out.trans (hb4.mono hs3))
              have HPT := Lib.hid (HMW.out w4 hb4)
              have d0 := (hb4.cell (p := ⟨b, o + i * 4, none⟩) hz).trans d0
              have d1 := (hb4.cell (p := ⟨b, o + i * 4 + 1, none⟩) hz).trans d1
              have d2 := (hb4.cell (p := ⟨b, o + i * 4 + 2, none⟩) hz).trans d2
              have d3 := (hb4.cell (p := ⟨b, o + i * 4 + 3, none⟩) hz).trans d3
              have hs4 := HB4.out.size
              clear hb4 HMW HH
              go_wp2_with fail
              go_at_call 28
              refine HPT.out.mono ?_
              rintro e w5 ⟨⟨A5, c5, rfl, hr5⟩, hb5⟩
              have HR5 := Lib.hid hr5
              have HB5 := Lib.hid (HB4.out.trans (hb5.mono hs4))
              clear hr5 hb5 HPT d0 d1 d2 d3
              rw [← HNX2.out] at HR5
              have HE := Lib.hid (congrArg List.length HNX2.out)
              clear HNX2
              generalize (putR cur p.2).length = nn at *
              go_wp2_with fail
              go_roundw
              case rel => exact ⟨i + 1, A5, c5, by omega, by go_num, by rw [HE.out], HR5.out, HB5.out⟩
              case measure => simp [RowKit.intOf]; omega
            · have hst : stepA true cur p = cur := if_neg hin
              rw [decide_eq_false hin] at HH
              have HNX2 := Lib.hid (HNX.out.trans hst)
              clear hst hin HNX HNL HMW
              go_wp2_with fail
              go_at_call 18
              refine HH.out.mono ?_
              rintro e w4 ⟨rfl, hb4⟩
              have HB4 := Lib.hid (HB3.out.trans (hb4.mono hs3))
              have HK4 := Lib.hid (HK3.out.mono hb4)
              clear hb4 HH d0 d1 d2 d3
              rw [← HNX2.out] at HK4
              have HE := Lib.hid (congrArg List.length HNX2.out)
              clear HNX2 HK3 HCI
              generalize cur.length = nn at *
              go_wp2_with fail
              go_roundw
              case rel => exact ⟨i + 1, A3, c3, by omega, by go_num, by rw [HE.out], HK4.out, HB4.out⟩
              case measure => simp [RowKit.intOf]; omega
        · have ik2 : ¬ (i : Int) < m.length := by omega
          have hti : m.take i = m := List.take_of_length_le (by omega)
          rw [hti] at HK3 hcl3
          have HTL := Lib.hid (congrArg (fun z => (passA up z out).length) hti)
          clear hti hB3
          have HB4 := HB3
          by_cases heq : (passA up m out).length = out.length
          · have HSM := Lib.hid (passA_same (up := up) HC.out HI.out.strict heq)
            have HCLO := Lib.hid (show ∀ z, z ∈ out ↔ Reach f l z from HI.out.closed HF.out (fun p hp ha => by
              have := pass_adds HC.out p hp ha (up := up)
              rw [HSM.out] at this
              exact this))
            have hlen : (passA up (m.take i) out).length = out.length := HTL.out.trans heq
            have HST := Lib.hid HI.out.strict
            rw [HSM.out] at HK3
            clear heq HSM HI HKR HBC HCC HTL
            generalize (passA up (m.take i) out).length = nn at *
            subst hlen
            have hbe : ((out.length : Int) == (out.length : Int)) = true := beq_self_eq_true _
            go_wp2_with fail
            go_ret
            exact ⟨⟨A3, c3, out, rfl, HK3.out, HST.out, HCLO.out⟩, HB4.out⟩
          · have HIN := Lib.hid (HI.out.pass HC.out HF.out heq)
            have hne : (((passA up (m.take i) out).length : Int) == (out.length : Int)) = false := by
              rw [beq_eq_false_iff_ne]
              intro e
              exact heq (by have h1 : (passA up (m.take i) out).length = (passA up m out).length := HTL.out; omega)
            have hlen := HTL.out
            clear heq HI HKR HBC HCC HTL
            generalize passA up m out = out2 at *
            generalize (passA up (m.take i) out).length = nn at *
            subst hlen
            go_wp2_with fail
            go_roundw
            case rel => exact ⟨n + 1, out2, A3, c3, by omega, by go_num, rfl, HK3.out, HIN.out, HB4.out⟩
            case measure => simp [RowKit.intOf]; omega
    · have ik : ¬ (n : Int) < m.length := by omega
      have hnm : n = m.length := by omega
      have HCLO := Lib.hid (show ∀ z, z ∈ out ↔ Reach f l z from by
        have hI := HI.out
        rw [hnm] at hI
        exact hI.closed HF.out (fun p hp _ => hI.full p hp))
      have HST := Lib.hid HI.out.strict
      clear HI HBC HCC
      go_wp2_with fail
      go_ret
      exact ⟨⟨A2, c2, out, rfl, HKR.out, HST.out, HCLO.out⟩, HB.out⟩
end
section
open Go.RowKit Go.Lib

set_option maxRecDepth 100000 in
set_option maxHeartbeats 8000000 in
theorem law_webAll (l : List Opn) (s : List Ky) (A B : Option Addr) (c d : Nat) (w : World) (hr : ORow w A l) (hk : KRow w B s) (hm : l.length * 56 ≤ 140737488351232) (hs : s.length * 24 ≤ 140737488351232) :
    Calls Try.prog 4 #[.slice A l.length c, .slice B s.length d] w fun e w' => e = .returned (.bool true) ∧ Below w.heap.size w w' := by
  have HLV := Lib.hid law29_lives
  have HN := Lib.hid (web_new w)
  go_enter Try.func4, Try.ntmps4
  go_wp2_with fail
  go_at_call 7
  refine HN.out.mono ?_
  rintro e w1 ⟨⟨W, fp1, fp2, rfl, hw, hW, h1, h2⟩, hb1⟩
  have HP := Lib.hid (law29_play w w1 W fp1 fp2 l A c hr hb1 hw h1 h2 (by omega))
  have HKR := Lib.hid hk
  clear HN hb1 hr h1 h2 hw hW hk
  go_wp2_with fail
  go_at_call 8
  refine HP.out.mono ?_
  rintro e w2 ⟨⟨A2, c2, rfl, hpr, f, g, q1, q2, hw2, hrel⟩, hB2⟩
  have hpl := playP_len l
  have HPR := Lib.hid hpr
  have HW2 := Lib.hid hw2
  have HKR2 := Lib.hid (HKR.out.mono hB2)
  have HB2 := Lib.hid hB2
  generalize playP l = m at *
  have hsum : s.length + m.length + 1 ≤ 9382499223534 := by omega
  have HCP := Lib.hid (show CleanP m from hrel.clean)
  have HFF := Lib.hid (show FromP true f m from fun a z => by
    rw [hrel.on]
    exact ⟨fun h => ⟨_, h, rfl, rfl⟩, fun ⟨p, hp, e1, e2⟩ => by
      have e1' : p.1 = a := e1
      have e2' : p.2 = z := e2
      rw [← e1', ← e2']; exact hp⟩)
  have HFG := Lib.hid (show FromP false g m from fun a z => by
    rw [hrel.of]
    exact ⟨fun h => ⟨_, h, rfl, rfl⟩, fun ⟨p, hp, e1, e2⟩ => by
      have e1' : p.2 = a := e1
      have e2' : p.1 = z := e2
      rw [← e1', ← e2']; exact hp⟩)
  have HBB := Lib.hid (show ∀ (up : Bool) (h : Ky → List Ky), FromP up h m → ∀ out : List Ky, out.Nodup → (∀ z ∈ out, Reach h s z) → out.length + 1 ≤ 9382499223534 from fun up h hf out hn ho => by
    have := nodup_leG hn (m := s.map Ky.cl ++ m.map (adds up)) (fun z hz => by
      cases ho z hz with
      | base hb => exact List.mem_append_left _ (List.mem_map.2 ⟨_, hb, rfl⟩)
      | step _ hb =>
        obtain ⟨p, hp, -, e⟩ := (hf _ _).1 hb
        exact List.mem_append_right _ (List.mem_map.2 ⟨p, hp, e⟩))
    rw [List.length_append, List.length_map, List.length_map] at this
    omega)
  have HBe := Lib.hid (fun v (q : Below w2.heap.size w2 v) => web_belowW v W f g q1 q2 s B d (HW2.out.below q) (HKR2.out.mono q) (by omega) (fun a b h => (HCP.out _ ((hrel.of a b).1 h)).1) (HBB.out false g HFG.out))
  have HAv := Lib.hid (fun v (q : Below w2.heap.size w2 v) => web_aboveW v W f g q1 q2 s B d (HW2.out.below q) (HKR2.out.mono q) (by omega) (fun a b h => (HCP.out _ ((hrel.on a b).1 h)).2) (HBB.out true f HFF.out))
  have HA0 := Lib.hid (fun v (q : Below w2.heap.size w2 v) => r29_All false g m s A2 B c2 d v (HPR.out.below q) (HKR2.out.mono q) HCP.out HFG.out hs hsum)
  have HA1 := Lib.hid (fun v (q : Below w2.heap.size w2 v) => r29_All true f m s A2 B c2 d v (HPR.out.below q) (HKR2.out.mono q) HCP.out HFF.out hs hsum)
  have HEQ := Lib.hid (show ∀ (h : Ky → List Ky) (o1 o2 : List Ky), StrictK o1 → StrictK o2 → (∀ z, z ∈ o1 ↔ Reach h s z) → (∀ z, z ∈ o2 ↔ Reach h s z) → o2 = o1 from fun h o1 o2 hs1 hs2 h1 h2 => strictK_uniq hs2 hs1 (fun z => by rw [h1, h2]))
  have HLE := Lib.hid (show ∀ (up : Bool) (h : Ky → List Ky) (o1 : List Ky), FromP up h m → StrictK o1 → (∀ z, z ∈ o1 ↔ Reach h s z) → o1.length ≤ 140737488355328 from fun up h o1 hf hs1 h1 => by
    have := HBB.out up h hf o1 (strict_nodup hs1) (fun z hz => (h1 z).1 hz)
    omega)
  have HKS := Lib.hid (fun (o : List Ky) X Y d e v (h : KRow v X o) (h' : KRow v Y o) hl => r23_Keys o X Y d e v h h' hl)
  have HB := Below.refl w2.heap.size w2
  clear hpr hw2 hrel hB2 HP HKR HBB
  go_wp2_with fail
  go_at_call 15
  refine (HBe.out _ HB).mono ?_
  rintro e w3 ⟨⟨g3, n3, N3, o1, rfl, ho, hs1, hz1⟩, hb⟩
  have hn := ho.1
  subst hn
  have HX := Lib.hid ho.krow
  replace HB := HB.trans (hb.mono HB.size)
  clear ho hb
  go_wp2_with fail
  go_at_call 16
  refine (HA0.out _ HB).mono ?_
  rintro e w4 ⟨⟨A4, c4, o2, rfl, hr4, hs2, hz2⟩, hb⟩
  have heq := HEQ.out g o1 o2 hs1 hs2 hz1 hz2
  subst heq
  have hle := HLE.out false g o2 HFG.out hs1 hz1
  have HKC := Lib.hid (HKS.out o2 _ _ N3 c4 w4 (HX.out.mono hb) hr4 hle)
  replace HB := HB.trans (hb.mono HB.size)
  clear hb hr4 hs1 hs2 hz1 hz2 hle HX
  go_wp2_with fail
  go_at_call 9
  refine HKC.out.mono ?_
  rintro e w5 ⟨rfl, hb⟩
  replace HB := HB.trans (hb.mono HB.size)
  clear hb HKC
  go_wp2_with fail
  go_at_call 17
  refine (HAv.out _ HB).mono ?_
  rintro e w6 ⟨⟨g6, n6, N6, o3, rfl, ho, hs1, hz1⟩, hb⟩
  have hn := ho.1
  subst hn
  have HX := Lib.hid ho.krow
  replace HB := HB.trans (hb.mono HB.size)
  clear ho hb
  go_wp2_with fail
  go_at_call 16
  refine (HA1.out _ HB).mono ?_
  rintro e w7 ⟨⟨A7, c7, o4, rfl, hr4, hs2, hz2⟩, hb⟩
  have heq := HEQ.out f o3 o4 hs1 hs2 hz1 hz2
  subst heq
  have hle := HLE.out true f o4 HFF.out hs1 hz1
  have HKC := Lib.hid (HKS.out o4 _ _ N6 c7 w7 (HX.out.mono hb) hr4 hle)
  replace HB := HB.trans (hb.mono HB.size)
  clear hb hr4 hs1 hs2 hz1 hz2 hle HX
  go_wp2_with fail
  go_at_call 9
  refine HKC.out.mono ?_
  rintro e w8 ⟨rfl, hb⟩
  replace HB := HB.trans (hb.mono HB.size)
  clear hb HKC
  go_wp2_with fail
  go_at_call 14
  refine (HLV.out _).mono ?_
  rintro e w9 ⟨rfl, hb⟩
  replace HB := HB.trans (hb.mono HB.size)
  clear hb
  go_wp2_with fail
  go_ret
  exact ⟨rfl, HB2.out.trans (HB.mono HB2.out.size)⟩
end
end Go.Proofs.Ytkmpkhbahmehmaa
