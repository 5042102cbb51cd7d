/- X-PARTIAL The law TokenReads, walked: layer 10. -/
import Derived.Test.YtgaecojdebpcgaaDoorTokO
import Derived.Test.YtgaecojdebpcgaaDoorTokQ
import Derived.Test.YtgaecojdebpcgaaDoorTokR
import Derived.Lib.SlBytesConst
namespace Go.Proofs.YtgaecojdebpcgaaDoor
open Go.RowKit Go.Lib

theorem readG_len (s : Str) : ∀ (n a : Nat) (L : List Tok), s.length - a ≤ n → L.length ≤ 4000 → (readG s a L).1.length ≤ 4001 := by
  intro n
  induction n with
  | zero => intro a L h hL; rw [readG_end (by omega)]; simp; omega
  | succ n ih =>
    intro a L h hL
    by_cases hlt : a < s.length
    · by_cases hk : kB s[a] = 1
      · rw [readG_blank hlt hk]; exact ih _ _ (by omega) hL
      · by_cases he : (oneF (s.drop a) (decide (4000 ≤ L.length))).e = 0
        · obtain ⟨h1, h2, h3, h4⟩ := readG_tok hlt hk rfl he
          rw [h1]
          exact ih _ _ (by omega) (by simp; omega)
        · rw [readG_bad hlt hk rfl he]; simp
    · rw [readG_end hlt]; simp; omega
theorem readF_len (s : Str) : (readF s).1.length ≤ 4001 := by
  unfold readF
  split
  · simp
  · exact readG_len s s.length 0 [] (by omega) (by simp)

def livesS : Str := [120, 49, 61, 45, 55, 59]
def livesL : List Tok := [⟨1, [120, 49], 0, 0⟩, ⟨3, [61], 0, 2⟩, ⟨3, [45], 0, 3⟩, ⟨2, [55], 7, 4⟩, ⟨3, [59], 0, 5⟩, ⟨0, [], 0, 6⟩]
theorem read_lives : readF livesS = (livesL, 0, 0) := by
  unfold readF
  rw [if_neg (by decide)]
  have h1 := (readG_tok (s := livesS) (a := 0) (L := []) (r := ⟨1, [120, 49], 0, 0⟩) (by decide) (by decide) (by kernel_rfl) rfl).1
  have h2 := (readG_tok (s := livesS) (a := 2) (L := [⟨1, [120, 49], 0, 0⟩]) (r := ⟨3, [61], 0, 0⟩) (by decide) (by decide) (by kernel_rfl) rfl).1
  have h3 := (readG_tok (s := livesS) (a := 3) (L := [⟨1, [120, 49], 0, 0⟩, ⟨3, [61], 0, 2⟩]) (r := ⟨3, [45], 0, 0⟩) (by decide) (by decide) (by kernel_rfl) rfl).1
  have h4 := (readG_tok (s := livesS) (a := 4) (L := [⟨1, [120, 49], 0, 0⟩, ⟨3, [61], 0, 2⟩, ⟨3, [45], 0, 3⟩]) (r := ⟨2, [55], 7, 0⟩) (by decide) (by decide) (by kernel_rfl) rfl).1
  have h5 := (readG_tok (s := livesS) (a := 5) (L := [⟨1, [120, 49], 0, 0⟩, ⟨3, [61], 0, 2⟩, ⟨3, [45], 0, 3⟩, ⟨2, [55], 7, 4⟩]) (r := ⟨3, [59], 0, 0⟩) (by decide) (by decide) (by kernel_rfl) rfl).1
  have h6 := readG_end (s := livesS) (a := 6) (L := [⟨1, [120, 49], 0, 0⟩, ⟨3, [61], 0, 2⟩, ⟨3, [45], 0, 3⟩, ⟨2, [55], 7, 4⟩, ⟨3, [59], 0, 5⟩]) (by decide)
  exact h1.trans (h2.trans (h3.trans (h4.trans (h5.trans h6))))

theorem row_mark (w : World) (L : List Value) (t : TypeId) (fr : Nat × Nat) : Row (w.alloc (.cells L.toArray t fr)) (some ⟨w.heap.size, 0, none⟩) L := by
  intro i hi
  have e := World.cell?_alloc_mark w L.toArray t fr i
  have ea : (⟨w.heap.size, 0, none⟩ : Addr).add i = ⟨w.heap.size, i, none⟩ := by
    unfold Addr.add
    split
    · simp_all
    · simp
  rw [ea, e]
  simp [hi]

set_option maxHeartbeats 4000000 in
set_option maxRecDepth 1000000 in
theorem law10_lives (w : World) (hv : RV w) :
    Calls Tryd.prog 9 #[] w fun e w' => e = .returned (.bool true) ∧ Below w.heap.size w w' := by
  have hr : BRow (w.alloc (.cells (livesS.map fun c => Value.int .u8 c.toNat).toArray 5 (6, 7))) (some ⟨w.heap.size, 0, none⟩) livesS := row_mark w _ _ _
  have hb0 : Below w.heap.size w (w.alloc (.cells (livesS.map fun c => Value.int .u8 c.toNat).toArray 5 (6, 7))) := (Below.refl _ w).alloc (Nat.le_refl _) _
  have H := token_Read livesS (some ⟨w.heap.size, 0, none⟩) 6 _ hr (hv.mono hb0)
  rw [read_lives] at H
  have HH := Lib.hid H
  have HB := Lib.hid hb0
  clear H hr hb0
  have hcv := Lib.run_convert_bytes_const (P := Tryd.prog) w 22 5 #[.int .u8 120, .int .u8 49, .int .u8 61, .int .u8 45, .int .u8 55, .int .u8 59] 6 6 Tryd.underlying22 Tryd.underlying5
  go_enter Tryd.func9, Tryd.ntmps9
  go_wp2_with fail
  go_at_call 6
  refine HH.out.mono ?_
  rintro e w1 ⟨⟨A2, c2, rfl, hT⟩, hb1⟩
  have hB := HB.out.trans (hb1.mono HB.out.size)
  obtain ⟨b, o, he, x0, x1, x2, x3, -⟩ := hT.cell (k := 0) (by decide)
  obtain ⟨b', o', he', y0, y1, y2, y3, -⟩ := hT.cell (k := 3) (by decide)
  cases he; cases he'
  obtain ⟨b', o', he', z0, z1, z2, z3, -⟩ := hT.cell (k := 5) (by decide)
  cases he'
  have x1' : w1.cell? ⟨b, o + 1, none⟩ = some (encStr [120, 49]) := x1
  have y2' : w1.cell? ⟨b, o + 14, none⟩ = some (.int .i64 7) := y2
  have z3' : w1.cell? ⟨b, o + 23, none⟩ = some (.int .i64 6) := z3
  clear HH HB hT hb1 x0 x1 x2 x3 y0 y1 y2 y3 z0 z1 z2 z3
  go_wp2_with fail
  go_ret
  exact ⟨rfl, hB⟩

set_option maxRecDepth 1000000 in
set_option maxHeartbeats 4000000 in
theorem law_tokenReads (s : Str) (A : Option Addr) (cp : Nat) (w : World) (hr : BRow w A s) (hv : RV w) :
    Calls Tryd.prog 3 #[.slice A s.length cp] w fun e w' => e = .returned (.bool true) ∧ Below w.heap.size w w' := by
  have H1 := Lib.hid (token_Read s A cp w hr hv)
  have H2 := Lib.hid (fun w' (hb : Below w.heap.size w w') => r10_Read s A cp w' (hr.mono hb))
  have hlen : (readF s).1.length ≤ 140737488355328 := Nat.le_trans (readF_len s) (by decide)
  have H3 := Lib.hid (fun A2 c2 A3 c3 w' h2 h3 => r10_Same true (readF s).1 (readF s).1 (SameT.refl _ _) A2 A3 c2 c3 w' hlen h2 h3)
  clear hr hlen
  generalize readF s = R at *
  go_enter Tryd.func3, Tryd.ntmps3
  go_wp2_with fail
  go_at_call 6
  refine H1.out.mono ?_
  rintro e w1 ⟨⟨A2, c2, rfl, hT⟩, hb1⟩
  have HT := Lib.hid hT
  have hv1 := hv.mono hb1
  clear hT H1
  go_wp2_with fail
  go_at_call 7
  refine (H2.out w1 hb1).mono ?_
  rintro e w2 ⟨⟨A3, c3, rfl, hT3⟩, hb2⟩
  have HT2 := Lib.hid (HT.out.mono hb2)
  have HT3 := Lib.hid hT3
  have hv2 := hv1.mono hb2
  have hB2 := hb1.trans (hb2.mono hb1.size)
  clear HT hT3 hv1 hb1 hb2 H2
  go_wp2_with fail
  go_at_call 8
  refine (H3.out A2 c2 A3 c3 w2 HT2.out HT3.out).mono ?_
  rintro e w3 ⟨rfl, hb3⟩
  have hv3 := hv2.mono hb3
  have hB3 := hB2.trans (hb3.mono hB2.size)
  clear HT2 HT3 H3 hv2 hB2 hb3
  go_wp2_with fail
  go_at_call 9
  refine (law10_lives w3 hv3).mono ?_
  rintro e w4 ⟨rfl, hb4⟩
  go_wp2_with fail
  go_ret
  exact ⟨rfl, hB3.trans (hb4.mono hB3.size)⟩
end Go.Proofs.YtgaecojdebpcgaaDoor
