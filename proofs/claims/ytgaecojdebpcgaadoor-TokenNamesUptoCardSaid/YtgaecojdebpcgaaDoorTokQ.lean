/- X-PARTIAL token.Read: layer 10. -/
import Derived.Test.YtgaecojdebpcgaaDoorTokP
import Derived.Test.YtgaecojdebpcgaaDoorSeqg
import Derived.Test.YtgaecojdebpcgaaDoorTake
namespace Go.Proofs.YtgaecojdebpcgaaDoor
open Go.RowKit Go.Lib

theorem readF_one {s : Str} {a : Nat} {L : List Tok} {r : TR} (h : a < s.length) (hL : L.length ≤ 4000) (hk : kB s[a] ≠ 1) (hr : firstF (s.drop a) (kB s[a]) = r) :
    (r.e = 0 ∧ r.t = [] → readG s a L = ([], (a : Int), 3)) ∧ (¬ (r.e = 0 ∧ r.t = []) → L.length = 4000 → readG s a L = ([], (a : Int), 6)) ∧
    (¬ (r.e = 0 ∧ r.t = []) → L.length ≠ 4000 → r.e ≠ 0 → readG s a L = ([], (a : Int), r.e)) ∧
    (¬ (r.e = 0 ∧ r.t = []) → L.length ≠ 4000 → r.e = 0 → readG s a L = readG s (a + r.t.length) (L ++ [⟨r.k, r.t, r.n, a⟩]) ∧ L.length < 4000 ∧ 1 ≤ r.t.length ∧ a + r.t.length ≤ s.length ∧ (∀ j, (hj : j < s.length) → a ≤ j → j < a + r.t.length → kB s[j] ≠ 0)) := by
  have hd : s.drop a = s[a] :: s.drop (a + 1) := List.drop_eq_getElem_cons h
  have hf := first_one s[a] (s.drop (a + 1))
  have hb := firstF_bytes s[a] (s.drop (a + 1))
  rw [← hd, hr] at hf hb
  by_cases h0 : r.e = 0 ∧ r.t = []
  · refine ⟨fun _ => ?_, fun h' => absurd h0 h', fun h' => absurd h0 h', fun h' => absurd h0 h'⟩
    rcases hf with hf | hf
    · exact readG_bad (L := L) (r := .bad 3) h hk (hf.2.2 _) (by decide)
    · exact absurd h0.2 (hf.1 h0.1)
  · rcases hf with hf | hf
    · exact absurd ⟨hf.1, hf.2.1⟩ h0
    · refine ⟨fun h' => absurd h' h0, fun _ hL4 => ?_, fun _ hL4 he => ?_, fun _ hL4 he => ?_⟩
      · exact readG_bad (L := L) (r := .bad 6) h hk (by rw [decide_eq_true (show 4000 ≤ L.length by omega)]; exact hf.2.1) (by decide)
      · exact readG_bad (L := L) (r := r) h hk (by rw [decide_eq_false (show ¬ 4000 ≤ L.length by omega)]; exact hf.2.2) he
      · obtain ⟨g1, g2, g3, g4⟩ := readG_tok h hk (by rw [decide_eq_false (show ¬ 4000 ≤ L.length by omega)]; exact hf.2.2) he
        refine ⟨g1, g2, g3, g4, fun j hj h1 h2 => ?_⟩
        refine hb.1 _ ?_
        rw [hb.2]
        have : s[j] = (s.drop a)[j - a]'(by rw [List.length_drop]; omega) := by
          rw [List.getElem_drop]
          congr 1
          omega
        rw [this, List.mem_iff_getElem]
        exact ⟨j - a, by rw [List.length_take, List.length_drop]; omega, by rw [List.getElem_take]⟩

theorem OwnT.at_ {w w' : World} {base : Nat} {v : Value} {l : List Tok} (h : OwnT w base v l) (hh : ∀ g, base ≤ g → w'.heap[g]? = w.heap[g]?) : OwnT w' base v l := by
  refine ⟨h.1, ?_⟩
  rcases h.2 with h' | ⟨g, cap, cur, e, hb', hg, h1⟩
  · exact Or.inl h'
  · exact Or.inr ⟨g, cap, cur, e, hb', by rw [hh g hb']; exact hg, h1⟩

theorem blk_set4 {w : World} {b : Nat} {c0 c1 c2 c3 v0 v1 v2 v3 : Value} {t : TypeId} (h : w.heap[b]? = some (.cells #[c0, c1, c2, c3] t)) :
    ((((w.setCell ⟨b, 0, none⟩ v0).setCell ⟨b, 1, none⟩ v1).setCell ⟨b, 2, none⟩ v2).setCell ⟨b, 3, none⟩ v3).heap[b]? = some (.cells #[v0, v1, v2, v3] t) := by
  simp [World.setCell, Array.getElem?_modify, h]

theorem iter_kept {w1 Y w' : World} {row : Option Nat} {n : Nat} {o : Obj} (h : w1.heap[n]? = some o) (hB : Below w1.heap.size w1 Y) (hg : Y.grownBy w' row) (hne : row ≠ some n) : w'.heap[n]? = some o := by
  have hn := blk_lt h
  have hz := hB.size
  rw [hg.block n (by omega) (fun e => hne e.symm)]
  exact (hB.block _ hn).trans h

def RtRel (s : Str) (w : World) (N : Nat) (v6 v7 : Value) (wr : World) : Prop :=
  ∃ (p e : Nat) (L : List Tok), v7 = .int .i64 e ∧ p ≤ s.length ∧ e ≤ s.length ∧ wr.heap[N]? = some (.stringIter ⟨s.toArray⟩ p) ∧ OwnT wr (N + 1) v6 L ∧ L.length ≤ 4000 ∧
    readG s (max p e) L = readG s 0 [] ∧ (∀ j, (hj : j < s.length) → p ≤ j → j < e → kB s[j] ≠ 0) ∧ Below w.heap.size w wr

set_option maxRecDepth 1000000 in
set_option maxHeartbeats 4000000 in
theorem token_Read (s : Str) (A : Option Addr) (cp : Nat) (w : World) (hr : BRow w A s) (hv : RV w) :
    Calls Tryd.prog 6 #[.slice A s.length cp] w fun e w' => (∃ (A2 : Option Addr) (c2 : Nat), e = .returned (.tuple #[.slice A2 (readF s).1.length c2, .int .i64 (readF s).2.1, .int .i64 (readF s).2.2]) ∧ TRow w' A2 (readF s).1) ∧ Below w.heap.size w w' := by
  have hcv := conv_bytes hr cp
  by_cases hl : 20000 < s.length
  · have i1 : decide ((20000 : Int) < s.length) = true := decide_eq_true (by omega)
    rw [show readF s = ([], 0, 6) from if_pos hl]
    go_enter Tryd.func6, Tryd.ntmps6
    go_wp2_with fail
    go_ret3
    exact ⟨⟨none, 0, rfl, rfl⟩, Below.refl _ _⟩
  · have i1 : decide ((20000 : Int) < s.length) = false := decide_eq_false (by omega)
    have hm : s.length ≤ 281474976710656 := by omega
    rw [show readF s = readG s 0 [] from if_neg hl]
    obtain ⟨i0, gi, gz0, gz1, gz2⟩ := info_parts info_tok
    go_enter Tryd.func6, Tryd.ntmps6
    go_wp2_with fail
    clear hcv i1
    go_loopw [6, 7] (fun v6 v7 wr => RtRel s w w.heap.size v6 v7 wr) (fun _ _ wr => s.length - wr.iterPos w.heap.size)
    case atStart => exact ⟨0, 0, [], rfl, Nat.zero_le _, Nat.zero_le _, World.iter_heap _ _ _, OwnT.nil _ _, by simp, rfl, fun j _ _ h => absurd h (by omega), below_iter _ _ _⟩
    case round =>
      obtain ⟨p, e, L, rfl, hp, he, hit, hown, hL, hG, hz, hB⟩ := hrel
      have HG := Lib.hid hG
      have HZ := Lib.hid hz
      have hN : w.heap.size < wr.heap.size := (Array.getElem?_eq_some_iff.1 hit).1
      obtain ⟨A6, c6, rfl, -, -, -⟩ := hown.row
      by_cases hlt : p < s.length
      · obtain ⟨dk, d1, d2, d3⟩ := decode_kind s p hlt
        have hnx : ∀ ty, (Instr.next (.pointer (some ⟨w.heap.size, 0, none⟩)) true ty).run Tryd.prog wr = _ := fun ty => run_next_any_at wr w.heap.size ⟨s.toArray⟩ p ty hit (by rw [mk_size]; exact hlt)
        have hit2 := iterAt_heap wr w.heap.size ⟨s.toArray⟩ p (p + (Utf8.decode ⟨s.toArray⟩ p).2) hit
        have hbw2 := below_iterAt hB (k := w.heap.size) (Nat.le_refl _) ⟨s.toArray⟩ (p + (Utf8.decode ⟨s.toArray⟩ p).2)
        have hsz := iterAt_size wr w.heap.size ⟨s.toArray⟩ (p + (Utf8.decode ⟨s.toArray⟩ p).2)
        have hoth : ∀ j, j ≠ w.heap.size → (wr.iterAt w.heap.size ⟨s.toArray⟩ (p + (Utf8.decode ⟨s.toArray⟩ p).2)).heap[j]? = wr.heap[j]? := fun j hj => iterAt_other wr w.heap.size j ⟨s.toArray⟩ _ hj
        generalize Utf8.decode ⟨s.toArray⟩ p = d at *
        generalize hX : wr.iterAt w.heap.size ⟨s.toArray⟩ (p + d.2) = X at *
        have hownX : OwnT X (w.heap.size + 1) (.slice A6 L.length c6) L := hown.at_ (fun g hg => hoth g (by omega))
        have hsX : w.heap.size < X.heap.size := by omega
        clear hoth hX hown hz hG hB
        by_cases hpe : p < e
        · -- within a token
          have ipe : (p : Int) < e := by omega
          have hd := d3 (HZ.out p hlt (Nat.le_refl _) hpe)
          have hrel2 := Lib.hid (show RtRel s w w.heap.size (.slice A6 L.length c6) (.int .i64 e) X from ⟨p + 1, e, L, rfl, by omega, he, by rw [← hd]; exact hit2, hownX, hL, by rw [show max (p + 1) e = max p e by omega]; exact HG.out, fun j hj h1 h2 => HZ.out j hj (by omega) h2, hbw2⟩)
          clear dk d1 hownX HG HZ hbw2
          go_wp2_with fail
          go_roundw
          case rel => exact hrel2.out
          case measure => simp only [World.iterPos, hit2, hit]; omega
        · have hmx : max p e = p := by omega
          rw [hmx] at HG
          have ipe : ¬ (p : Int) < e := by omega
          have HK : Hid (∀ w', _) := Lib.hid (fun w' => (dk ▸ token_kind (d.1 : Int) w' (by omega) (by omega) : Calls Tryd.prog 16 #[.int .i32 d.1] w' fun e w'' => e = .returned (.int .i64 (kB s[p])) ∧ Below w'.heap.size w' w''))
          have hbl := Lib.hid (readG_blank (L := L) hlt)
          have hfo := Lib.hid (fun r => readF_one (L := L) (r := r) hlt hL)
          clear dk d1 HZ hmx
          generalize hk : kB s[p] = k at *
          by_cases h1 : k = 1
          · have hd := d3 (by omega)
            have i1 : (k == 1) = true := by simpa using h1
            have HB := Lib.hid (hbl.out h1)
            clear hfo hbl h1 hk d3
            go_wp2_with fail
            go_at_call 16
            refine (HK.out X).mono ?_
            rintro e1 w1 ⟨rfl, hb1⟩
            have hit3 := (hb1.block _ hsX).trans hit2
            have hrel2 := Lib.hid (show RtRel s w w.heap.size (.slice A6 L.length c6) (.int .i64 e) w1 from ⟨p + 1, e, L, rfl, by omega, he, by rw [← hd]; exact hit3, hownX.mono hb1, hL, by rw [show max (p + 1) e = p + 1 by omega, ← HB.out]; exact HG.out, fun j hj h1 h2 => absurd h2 (by omega), hbw2.trans (hb1.mono (by omega))⟩)
            clear hownX HG HB hbw2 hb1 HK hnx
            go_wp2_with fail
            go_roundw
            case rel => exact hrel2.out
            case measure => simp only [World.iterPos, hit3, hit]; omega
          · have i1 : (k == 1) = false := by simpa using h1
            have ex : (⟨s.toArray⟩ : ByteArray).extract p s.length = ⟨(s.drop p).toArray⟩ := by
              rw [ByteArray.extract_mk, List.take_of_length_le (by rw [List.length_drop]; omega)]
            have hne : s.drop p ≠ [] := by intro h; have := congrArg List.length h; rw [List.length_drop] at this; simp at this; omega
            have hk3 : k = 3 → pre 3 3 (s.drop p) ≠ [] := fun h => by
              rw [List.drop_eq_getElem_cons hlt, pre33, List.takeWhile_cons, if_pos (show isD s[p] = true by unfold isD; rw [hk, h]; rfl)]
              simp
            have HF := Lib.hid (fun w' hv' => token_first (s.drop p) k w' hne hk3 (by rw [List.length_drop]; omega) hv')
            have hfo2 := Lib.hid (fun r => hfo.out r h1)
            have HKQ := Lib.hid hk
            clear hfo hbl h1 hk hne hk3
            have ip : (p : Int) ≤ s.length := by omega
            generalize s.drop p = t at *
            go_wp2_with fail
            go_at_call 16
            refine (HK.out X).mono ?_
            rintro e1 w1 ⟨rfl, hb1⟩
            have hit3 := (hb1.block _ hsX).trans hit2
            have hown3 := hownX.mono hb1
            have hB3 := hbw2.trans (hb1.mono (by omega))
            have hv1 : RV w1 := hv.mono hB3
            have HOW := Lib.hid hown3
            have HB3 := Lib.hid hB3
            have HV1 := Lib.hid hv1
            clear hownX hbw2 hb1 hnx hit2 hsX hown3 hB3 hv1 hr hsz
            go_wp2_with fail
            go_cut [10, 11] (fun s10 s11 wx => ∃ b : Nat, s10 = .pointer (some ⟨b, 0, none⟩) ∧ s11 = .int .i64 (firstF t k).e ∧ wx.heap[b]? = some (.cells #[.int .i64 (firstF t k).k, encStr (firstF t k).t, .int .i64 (firstF t k).n, .int .i64 0] 37) ∧ w1.heap.size ≤ b ∧ Below w1.heap.size w1 wx)
            case first =>
              clear hfo2 HG HB3 HOW hv i0 gi gz0 gz1 gz2
              have HB : Below w1.heap.size w1 w1.drew := (Below.refl _ w1).drew
              refine wp_region_noPanic ?_
              refine wp_region_held_drew (S := fun w' => Below (w1.heap.size) w1 w') (by kernel_rfl) HB (fun _ => ?_)
              refine take_first 0 32 (encStr s) rfl rfl (by kernel_rfl) (by kernel_rfl) (by kernel_rfl) (fun _ _ _ h => h) (by rfl) (fun w' hS => ?_) (by assumption) ?_
              · have hc : ∀ b o, b < w1.heap.size → w'.cell? ⟨b, o, none⟩ = w1.cell? ⟨b, o, none⟩ := fun b o h => hS.cell (p := ⟨b, o, none⟩) h
                go_simp
              simp only [Act.put, List.setIfInBounds_toArray, List.set_cons_zero, List.set_cons_succ]
              refine take_first 1 33 (.int .i64 p) rfl rfl (by kernel_rfl) (by kernel_rfl) (by kernel_rfl) (fun _ _ _ h => h) (by rfl) (fun w' hS => ?_) (by assumption) ?_
              · have hc : ∀ b o, b < w1.heap.size → w'.cell? ⟨b, o, none⟩ = w1.cell? ⟨b, o, none⟩ := fun b o h => hS.cell (p := ⟨b, o, none⟩) h
                go_simp
              simp only [Act.put, List.setIfInBounds_toArray, List.set_cons_zero, List.set_cons_succ]
              refine take_first 2 34 (encStr t) rfl rfl (by kernel_rfl) (by kernel_rfl) (by kernel_rfl) (fun _ _ _ h => h) (by rfl) (fun w' hS => ?_) (by assumption) ?_
              · have hc : ∀ b o, b < w1.heap.size → w'.cell? ⟨b, o, none⟩ = w1.cell? ⟨b, o, none⟩ := fun b o h => hS.cell (p := ⟨b, o, none⟩) h
                go_simp
              simp only [Act.put, List.setIfInBounds_toArray, List.set_cons_zero, List.set_cons_succ]
              refine take_first 3 35 (.int .i32 d.1) rfl rfl (by kernel_rfl) (by kernel_rfl) (by kernel_rfl) (fun _ _ _ h => h) (by rfl) (fun w' hS => ?_) (by assumption) ?_
              · have hc : ∀ b o, b < w1.heap.size → w'.cell? ⟨b, o, none⟩ = w1.cell? ⟨b, o, none⟩ := fun b o h => hS.cell (p := ⟨b, o, none⟩) h
                go_simp
              simp only [Act.put, List.setIfInBounds_toArray, List.set_cons_zero, List.set_cons_succ]
              refine wpAnyH_ready (rs := [4, 9]) (by kernel_rfl) (by simp) ?_
              refine AllReadyH.cons rfl (fun K hK => ?_) (AllReadyH.cons rfl (fun K hK => ?_) (AllReadyH.nil))
              · go_simp
                refine (HK.out _).mono ?_
                rintro e2 w2 ⟨rfl, hb2⟩
                replace HB := HB.trans (hb2.mono HB.size)
                refine hK.out _ _ HB (fun _ => ?_)
                clear hK K hb2
                (try simp only [Act.put, List.setIfInBounds_toArray, List.set_cons_zero, List.set_cons_succ])
                refine wpAnyH_ready (rs := [5, 9]) (by kernel_rfl) (by simp) ?_
                refine AllReadyH.cons rfl (fun K hK => ?_) (AllReadyH.cons rfl (fun K hK => ?_) (AllReadyH.nil))
                · go_simp
                  refine (HF.out _ (HV1.out.mono HB)).mono ?_
                  rintro e3 w3 ⟨rfl, hb3⟩
                  replace HB := HB.trans (hb3.mono HB.size)
                  refine hK.out _ _ HB (fun _ => ?_)
                  clear hK K hb3
                  (try simp only [Act.put, List.setIfInBounds_toArray, List.set_cons_zero, List.set_cons_succ])
                  refine take_first 6 31 (.tuple #[.agg #[.int .i64 (firstF t k).k, encStr (firstF t k).t, .int .i64 (firstF t k).n, .int .i64 0], .int .i64 (firstF t k).e]) rfl rfl (by kernel_rfl) (by kernel_rfl) (by kernel_rfl) (fun _ _ _ h => h) (by rfl) (fun w' hS => ?_) (by assumption) ?_
                  · go_simp
                  (try simp only [Act.put, List.setIfInBounds_toArray, List.set_cons_zero, List.set_cons_succ])
                  refine take_first 7 38 (.agg #[.int .i64 (firstF t k).k, encStr (firstF t k).t, .int .i64 (firstF t k).n, .int .i64 0]) rfl rfl (by kernel_rfl) (by kernel_rfl) (by kernel_rfl) (fun _ _ _ h => h) (by rfl) (fun w' hS => ?_) (by assumption) ?_
                  · go_simp
                  (try simp only [Act.put, List.setIfInBounds_toArray, List.set_cons_zero, List.set_cons_succ])
                  refine take_first 8 39 (.int .i64 (firstF t k).e) rfl rfl (by kernel_rfl) (by kernel_rfl) (by kernel_rfl) (fun _ _ _ h => h) (by rfl) (fun w' hS => ?_) (by assumption) ?_
                  · go_simp
                  (try simp only [Act.put, List.setIfInBounds_toArray, List.set_cons_zero, List.set_cons_succ])
                  refine wpAnyH_ready (rs := [9]) (by kernel_rfl) (by simp) ?_
                  refine AllReadyH.cons rfl (fun K hK => ?_) (AllReadyH.nil)
                  go_simp
                  have q0 := al_new w3 (.cells #[.int .i64 0, encStr [], .int .i64 0, .int .i64 0] 37) rfl
                  have qz : w1.heap.size ≤ w3.heap.size := HB.size
                  have HBP := HB
                  replace HB := Below.alloc HB HB.size (.cells #[.int .i64 0, encStr [], .int .i64 0, .int .i64 0] 37)
                  refine hK.out _ _ HB (fun _ => ?_)
                  clear hK K
                  (try simp only [Act.put, List.setIfInBounds_toArray, List.set_cons_zero, List.set_cons_succ])
                  have g0 := blk_cell q0
                  have f0 := blk_free q0
                  refine wpAnyH_ready (rs := [10]) (by kernel_rfl) (by simp) ?_
                  refine AllReadyH.cons rfl (fun K hK => ?_) (AllReadyH.nil)
                  go_simp
                  refine hK.out _ _ (Below.alloc HBP HBP.size _) (fun hSt => ?_)
                  clear hK K
                  refine wpAnyH_ready (rs := [11]) (by kernel_rfl) (by simp) ?_
                  refine AllReadyH.cons rfl (fun K hK => ?_) (AllReadyH.nil)
                  go_simp
                  refine hK.out _ _ (by assumption) (fun _ => ?_)
                  clear hK K
                  refine wpAnyH_done (by kernel_rfl) (NoPanic.normal ?_) _
                  go_wp2_with fail
                  go_meet
                  exact ⟨_, rfl, rfl, al_new _ _ rfl, qz, hSt⟩
                · go_simp
                  have q0 := al_new w2 (.cells #[.int .i64 0, encStr [], .int .i64 0, .int .i64 0] 37) rfl
                  have qz : w1.heap.size ≤ w2.heap.size := HB.size
                  have HBP := HB
                  replace HB := Below.alloc HB HB.size (.cells #[.int .i64 0, encStr [], .int .i64 0, .int .i64 0] 37)
                  refine hK.out _ _ HB (fun _ => ?_)
                  clear hK K
                  (try simp only [Act.put, List.setIfInBounds_toArray, List.set_cons_zero, List.set_cons_succ])
                  refine wpAnyH_ready (rs := [5]) (by kernel_rfl) (by simp) ?_
                  refine AllReadyH.cons rfl (fun K hK => ?_) (AllReadyH.nil)
                  go_simp
                  refine (HF.out _ (HV1.out.mono HB)).mono ?_
                  rintro e3 w3 ⟨rfl, hb3⟩
                  replace HB := HB.trans (hb3.mono HB.size)
                  have q0 := (hb3.block _ (blk_lt q0)).trans q0
                  refine hK.out _ _ HB (fun _ => ?_)
                  clear hK K hb3
                  (try simp only [Act.put, List.setIfInBounds_toArray, List.set_cons_zero, List.set_cons_succ])
                  refine take_first 6 31 (.tuple #[.agg #[.int .i64 (firstF t k).k, encStr (firstF t k).t, .int .i64 (firstF t k).n, .int .i64 0], .int .i64 (firstF t k).e]) rfl rfl (by kernel_rfl) (by kernel_rfl) (by kernel_rfl) (fun _ _ _ h => h) (by rfl) (fun w' hS => ?_) (by assumption) ?_
                  · go_simp
                  (try simp only [Act.put, List.setIfInBounds_toArray, List.set_cons_zero, List.set_cons_succ])
                  refine take_first 7 38 (.agg #[.int .i64 (firstF t k).k, encStr (firstF t k).t, .int .i64 (firstF t k).n, .int .i64 0]) rfl rfl (by kernel_rfl) (by kernel_rfl) (by kernel_rfl) (fun _ _ _ h => h) (by rfl) (fun w' hS => ?_) (by assumption) ?_
                  · go_simp
                  (try simp only [Act.put, List.setIfInBounds_toArray, List.set_cons_zero, List.set_cons_succ])
                  refine take_first 8 39 (.int .i64 (firstF t k).e) rfl rfl (by kernel_rfl) (by kernel_rfl) (by kernel_rfl) (fun _ _ _ h => h) (by rfl) (fun w' hS => ?_) (by assumption) ?_
                  · go_simp
                  (try simp only [Act.put, List.setIfInBounds_toArray, List.set_cons_zero, List.set_cons_succ])
                  have g0 := blk_cell q0
                  have f0 := blk_free q0
                  refine wpAnyH_ready (rs := [10]) (by kernel_rfl) (by simp) ?_
                  refine AllReadyH.cons rfl (fun K hK => ?_) (AllReadyH.nil)
                  go_simp
                  refine hK.out _ _ (Below.setCell (Below.setCell (Below.setCell (Below.setCell HB (by dsimp only; omega) _) (by dsimp only; omega) _) (by dsimp only; omega) _) (by dsimp only; omega) _) (fun hSt => ?_)
                  clear hK K
                  refine wpAnyH_ready (rs := [11]) (by kernel_rfl) (by simp) ?_
                  refine AllReadyH.cons rfl (fun K hK => ?_) (AllReadyH.nil)
                  go_simp
                  refine hK.out _ _ (by assumption) (fun _ => ?_)
                  clear hK K
                  refine wpAnyH_done (by kernel_rfl) (NoPanic.normal ?_) _
                  go_wp2_with fail
                  go_meet
                  exact ⟨_, rfl, rfl, blk_set4 q0, qz, hSt⟩
              · go_simp
                have q0 : (w1.drew.alloc (.cells #[.int .i64 0, encStr [], .int .i64 0, .int .i64 0] 37)).heap[w1.heap.size]? = some (.cells #[.int .i64 0, encStr [], .int .i64 0, .int .i64 0] 37) := al_new w1.drew _ rfl
                have qz : w1.heap.size ≤ w1.drew.heap.size := HB.size
                have HBP := HB
                replace HB := Below.alloc HB HB.size (.cells #[.int .i64 0, encStr [], .int .i64 0, .int .i64 0] 37)
                refine hK.out _ _ HB (fun _ => ?_)
                clear hK K
                (try simp only [Act.put, List.setIfInBounds_toArray, List.set_cons_zero, List.set_cons_succ])
                refine wpAnyH_ready (rs := [4]) (by kernel_rfl) (by simp) ?_
                refine AllReadyH.cons rfl (fun K hK => ?_) (AllReadyH.nil)
                go_simp
                refine (HK.out _).mono ?_
                rintro e2 w2 ⟨rfl, hb2⟩
                replace HB := HB.trans (hb2.mono HB.size)
                have q0 := (hb2.block _ (blk_lt q0)).trans q0
                refine hK.out _ _ HB (fun _ => ?_)
                clear hK K hb2
                (try simp only [Act.put, List.setIfInBounds_toArray, List.set_cons_zero, List.set_cons_succ])
                refine wpAnyH_ready (rs := [5]) (by kernel_rfl) (by simp) ?_
                refine AllReadyH.cons rfl (fun K hK => ?_) (AllReadyH.nil)
                go_simp
                refine (HF.out _ (HV1.out.mono HB)).mono ?_
                rintro e3 w3 ⟨rfl, hb3⟩
                replace HB := HB.trans (hb3.mono HB.size)
                have q0 := (hb3.block _ (blk_lt q0)).trans q0
                refine hK.out _ _ HB (fun _ => ?_)
                clear hK K hb3
                (try simp only [Act.put, List.setIfInBounds_toArray, List.set_cons_zero, List.set_cons_succ])
                refine take_first 6 31 (.tuple #[.agg #[.int .i64 (firstF t k).k, encStr (firstF t k).t, .int .i64 (firstF t k).n, .int .i64 0], .int .i64 (firstF t k).e]) rfl rfl (by kernel_rfl) (by kernel_rfl) (by kernel_rfl) (fun _ _ _ h => h) (by rfl) (fun w' hS => ?_) (by assumption) ?_
                · go_simp
                (try simp only [Act.put, List.setIfInBounds_toArray, List.set_cons_zero, List.set_cons_succ])
                refine take_first 7 38 (.agg #[.int .i64 (firstF t k).k, encStr (firstF t k).t, .int .i64 (firstF t k).n, .int .i64 0]) rfl rfl (by kernel_rfl) (by kernel_rfl) (by kernel_rfl) (fun _ _ _ h => h) (by rfl) (fun w' hS => ?_) (by assumption) ?_
                · go_simp
                (try simp only [Act.put, List.setIfInBounds_toArray, List.set_cons_zero, List.set_cons_succ])
                refine take_first 8 39 (.int .i64 (firstF t k).e) rfl rfl (by kernel_rfl) (by kernel_rfl) (by kernel_rfl) (fun _ _ _ h => h) (by rfl) (fun w' hS => ?_) (by assumption) ?_
                · go_simp
                (try simp only [Act.put, List.setIfInBounds_toArray, List.set_cons_zero, List.set_cons_succ])
                have g0 := blk_cell q0
                have f0 := blk_free q0
                refine wpAnyH_ready (rs := [10]) (by kernel_rfl) (by simp) ?_
                refine AllReadyH.cons rfl (fun K hK => ?_) (AllReadyH.nil)
                go_simp
                refine hK.out _ _ (Below.setCell (Below.setCell (Below.setCell (Below.setCell HB (by dsimp only; omega) _) (by dsimp only; omega) _) (by dsimp only; omega) _) (by dsimp only; omega) _) (fun hSt => ?_)
                clear hK K
                refine wpAnyH_ready (rs := [11]) (by kernel_rfl) (by simp) ?_
                refine AllReadyH.cons rfl (fun K hK => ?_) (AllReadyH.nil)
                go_simp
                refine hK.out _ _ (by assumption) (fun _ => ?_)
                clear hK K
                refine wpAnyH_done (by kernel_rfl) (NoPanic.normal ?_) _
                go_wp2_with fail
                go_meet
                exact ⟨_, rfl, rfl, blk_set4 q0, Nat.le_refl _, hSt⟩
            case rest =>
              obtain ⟨nb, rfl, rfl, k0, hnb, hb2⟩ := hcut
              have hit4 := (hb2.block _ (blk_lt hit3)).trans hit3
              have hown4 := HOW.out.mono hb2
              have hB4 := HB3.out.trans (hb2.mono HB3.out.size)
              have hNn : w.heap.size < nb := by have := blk_lt hit3; omega
              obtain ⟨q1, q2, q3, q4⟩ := hfo2.out (firstF t k) rfl
              have hzc := hb2.size
              have hzn := blk_lt k0
              have g0 := blk_cell k0
              have f0 := blk_free k0
              have Q1 := Lib.hid q1; have Q2 := Lib.hid q2; have Q3 := Lib.hid q3; have Q4 := Lib.hid q4
              have HOW4 := Lib.hid hown4
              have HIT4 := Lib.hid hit4
              have HB2 := Lib.hid hb2
              have HIT3 := Lib.hid hit3
              clear hfo2 HF HK HV1 hb2 hit3 ex q1 q2 q3 q4 hown4 hit4 hv
              generalize firstF t k = r at *
              by_cases h0 : r.e = 0 ∧ r.t = []
              · have HE := Lib.hid (Q1.out h0)
                have ie : (r.e == 0) = true := by rw [h0.1]; rfl
                have it := h0.2
                clear h0
                go_wp2_with fail
                go_ret3
                refine ⟨⟨none, 0, ?_, ?_⟩, (by repeat (first | (with_reducible assumption) | (with_reducible exact Below.refl _ _) | (with_reducible refine Below.alloc ?_ (by first | omega | (simp; omega) | (simp; done) | (dsimp only; omega)) _) | (with_reducible refine Below.setCell ?_ (by first | omega | (simp; omega) | (simp; done) | (dsimp only; omega)) _) | (with_reducible refine Below.drew ?_) | (with_reducible refine Below.trans ?_ (Below.mono (by assumption) (by first | omega | (simp; omega) | (simp; done) | (dsimp only; omega))))))⟩
                · rw [← HG.out, HE.out]; rfl
                · rw [← HG.out, HE.out]; rfl
              · have hcs : (r.e == 0) = false ∨ (r.e == 0) = true ∧ (r.t == []) = false ∧ r.t.isEmpty = false := by
                  by_cases he0 : r.e = 0
                  · right
                    have ht : r.t ≠ [] := fun h => h0 ⟨he0, h⟩
                    exact ⟨by rw [he0]; rfl, by simpa using ht, by simpa using ht⟩
                  · left; simpa using he0
                have Q2' := Lib.hid (Q2.out h0); have Q3' := Lib.hid (Q3.out h0); have Q4' := Lib.hid (Q4.out h0)
                clear h0 Q1 Q2 Q3 Q4
                by_cases hL4 : L.length = 4000
                · have HE := Lib.hid (Q2'.out hL4)
                  have il : ((L.length : Int) == 4000) = true := by rw [hL4]; rfl
                  clear Q2' Q3' Q4'
                  rcases hcs with hc | ⟨hc, hc2, hc3⟩
                  all_goals
                    go_wp2_with fail
                    go_ret3
                    refine ⟨⟨none, 0, ?_, ?_⟩, (by repeat (first | (with_reducible assumption) | (with_reducible exact Below.refl _ _) | (with_reducible refine Below.alloc ?_ (by first | omega | (simp; omega) | (simp; done) | (dsimp only; omega)) _) | (with_reducible refine Below.setCell ?_ (by first | omega | (simp; omega) | (simp; done) | (dsimp only; omega)) _) | (with_reducible refine Below.drew ?_) | (with_reducible refine Below.trans ?_ (Below.mono (by assumption) (by first | omega | (simp; omega) | (simp; done) | (dsimp only; omega))))))⟩
                    · rw [← HG.out, HE.out]; rfl
                    · rw [← HG.out, HE.out]; rfl
                · have il : ((L.length : Int) == 4000) = false := by simpa using (show ¬ (L.length : Int) = 4000 by omega)
                  have Q3 := Lib.hid (Q3'.out hL4); have Q4 := Lib.hid (Q4'.out hL4)
                  clear Q2' Q3' Q4' hL4
                  rcases hcs with hc | ⟨hc, hc2, hc3⟩
                  · have he0 : r.e ≠ 0 := by simpa using hc
                    have HE := Lib.hid (Q3.out he0)
                    have ie : (r.e != 0) = true := by simpa using he0
                    clear Q3 Q4 he0
                    go_wp2_with fail
                    go_ret3
                    refine ⟨⟨none, 0, ?_, ?_⟩, (by repeat (first | (with_reducible assumption) | (with_reducible exact Below.refl _ _) | (with_reducible refine Below.alloc ?_ (by first | omega | (simp; omega) | (simp; done) | (dsimp only; omega)) _) | (with_reducible refine Below.setCell ?_ (by first | omega | (simp; omega) | (simp; done) | (dsimp only; omega)) _) | (with_reducible refine Below.drew ?_) | (with_reducible refine Below.trans ?_ (Below.mono (by assumption) (by first | omega | (simp; omega) | (simp; done) | (dsimp only; omega))))))⟩
                    · rw [← HG.out, HE.out]; rfl
                    · rw [← HG.out, HE.out]; rfl
                  · have he0 : r.e = 0 := by simpa using hc
                    obtain ⟨z1, z2, z3, z4, z5⟩ := Q4.out he0
                    have ie : (r.e != 0) = false := by rw [he0]; rfl
                    have Z1 := Lib.hid z1; have Z5 := Lib.hid z5
                    clear Q3 Q4 he0 z1 z5 HIT4 HOW4
                    have hb2 := HB2.out
                    have hb3 := HB3.out
                    have hw1 : w.heap.size < w1.heap.size := blk_lt HIT3.out
                    go_wp2_with (at_builtin; refine wpList_append_own_at _ rfl _ _ 23 rfl (w.heap.size + 1) 37 i0 _ 4 40 Tryd.underlying23 gi gz0 gz1 gz2 rfl (by decide) _ _ _ rfl (HOW.out.mono (by repeat (first | (with_reducible assumption) | (with_reducible exact Below.refl _ _) | (with_reducible refine Below.alloc ?_ (by first | omega | (simp; omega) | (simp; done) | (dsimp only; omega)) _) | (with_reducible refine Below.setCell ?_ (by first | omega | (simp; omega) | (simp; done) | (dsimp only; omega)) _) | (with_reducible refine Below.drew ?_) | (with_reducible refine Below.trans ?_ (Below.mono (by assumption) (by first | omega | (simp; omega) | (simp; done) | (dsimp only; omega))))))) ⟨wc.heap.size, 0, none⟩ 1 1 [.int .i64 r.k, encStr r.t, .int .i64 r.n, .int .i64 p] rfl rfl ?c1 ?c2 ?c3 ?c4 ?c5 ?_)
                    case c1 =>
                      intro q u hq
                      match q, hq with
                      | 0, hq => simp at hq; subst hq; simp [Addr.add, go_sem]
                      | 1, hq => simp at hq; subst hq; simp [Addr.add, go_sem]
                      | 2, hq => simp at hq; subst hq; simp [Addr.add, go_sem]
                      | 3, hq => simp at hq; subst hq; simp [Addr.add, go_sem]
                      | q + 4, hq => simp at hq
                    case c2 => intro u hu; simp at hu; rcases hu with rfl | rfl | rfl | rfl <;> rfl
                    case c3 => exact Nat.le_trans (show L.length + 1 ≤ 4001 by omega) (by unfold maxLen; decide)
                    case c4 => exact Nat.le_trans (Nat.mul_le_mul_right 40 (show L.length + 1 ≤ 4001 by omega)) (by decide)
                    case c5 => simp; omega
                    · intro v' w' hown' hgrow _ hblk
                      have hne : (Value.slice A6 L.length c6).ownBlock ≠ some w.heap.size := fun e => by have := (HOW.out.lt _ e).1; omega
                      have hd := d3 (by rw [← HKQ.out]; exact Z5.out p hlt (Nat.le_refl _) (by omega))
                      have hit5 := iter_kept HIT3.out (by repeat (first | (with_reducible assumption) | (with_reducible exact Below.refl _ _) | (with_reducible refine Below.alloc ?_ (by first | omega | (simp; omega) | (simp; done) | (dsimp only; omega)) _) | (with_reducible refine Below.setCell ?_ (by first | omega | (simp; omega) | (simp; done) | (dsimp only; omega)) _) | (with_reducible refine Below.drew ?_) | (with_reducible refine Below.trans ?_ (Below.mono (by assumption) (by first | omega | (simp; omega) | (simp; done) | (dsimp only; omega)))))) hgrow hne
                      have hB5 : Below w.heap.size w w' := Below.grown (a := w) (by repeat (first | (with_reducible assumption) | (with_reducible exact Below.refl _ _) | (with_reducible refine Below.alloc ?_ (by first | omega | (simp; omega) | (simp; done) | (dsimp only; omega)) _) | (with_reducible refine Below.setCell ?_ (by first | omega | (simp; omega) | (simp; done) | (dsimp only; omega)) _) | (with_reducible refine Below.drew ?_) | (with_reducible refine Below.trans ?_ (Below.mono (by assumption) (by first | omega | (simp; omega) | (simp; done) | (dsimp only; omega)))))) hgrow (by simp; omega) (fun k e => by have := (HOW.out.lt k e).1; omega)
                      have hrel2 := Lib.hid (fun v7 (h7 : v7 = .int .i64 ((p + r.t.length : Nat) : Int)) => (show RtRel s w w.heap.size v' v7 w' from ⟨p + 1, p + r.t.length, L ++ [⟨r.k, r.t, r.n, p⟩], h7, by omega, z4, by rw [← hd]; exact hit5, OwnT.snoc (x := ⟨r.k, r.t, r.n, p⟩) hown', by simp; omega, by rw [show max (p + 1) (p + r.t.length) = p + r.t.length by omega, ← Z1.out]; exact HG.out, fun j hj h1 h2 => Z5.out j hj (by omega) h2, hB5⟩))
                      clear hown' hgrow hblk hne hb2 hb3 HB2 HB3 HOW HIT3 hB5 g0 f0 k0
                      go_wp2_with fail
                      go_roundw
                      case rel => exact hrel2.out _ (by go_num)
                      case measure => simp only [World.iterPos, hit5, hit]; omega
      · have hnx : ∀ ty, (Instr.next (.pointer (some ⟨w.heap.size, 0, none⟩)) true ty).run Tryd.prog wr = _ := fun ty => run_next_end_at wr w.heap.size ⟨s.toArray⟩ p ty hit (by rw [mk_size]; exact hlt)
        have HE := Lib.hid (readG_end (s := s) (a := max p e) (L := L) (by omega))
        go_wp2_with (at_builtin; refine wpList_append_own_at _ rfl _ _ 23 rfl (w.heap.size + 1) 37 i0 _ 4 40 Tryd.underlying23 gi gz0 gz1 gz2 rfl (by decide) _ _ _ rfl (hown.mono (by repeat (first | (with_reducible assumption) | (with_reducible exact Below.refl _ _) | (with_reducible refine Below.alloc ?_ (by first | omega | (simp; omega) | (simp; done) | (dsimp only; omega)) _) | (with_reducible refine Below.setCell ?_ (by first | omega | (simp; omega) | (simp; done) | (dsimp only; omega)) _) | (with_reducible refine Below.drew ?_) | (with_reducible refine Below.trans ?_ (Below.mono (by assumption) (by first | omega | (simp; omega) | (simp; done) | (dsimp only; omega))))))) ⟨wr.heap.size, 0, none⟩ 1 1 [.int .i64 0, encStr [], .int .i64 0, .int .i64 s.length] rfl rfl ?c1 ?c2 ?c3 ?c4 ?c5 ?_)
        case c1 =>
          intro q u hq
          match q, hq with
          | 0, hq => simp at hq; subst hq; simp [Addr.add, go_sem]
          | 1, hq => simp at hq; subst hq; simp [Addr.add, go_sem]
          | 2, hq => simp at hq; subst hq; simp [Addr.add, go_sem]
          | 3, hq => simp at hq; subst hq; simp [Addr.add, go_sem]
          | q + 4, hq => simp at hq
        case c2 => intro u hu; simp at hu; rcases hu with rfl | rfl | rfl | rfl <;> rfl
        case c3 => exact Nat.le_trans (show L.length + 1 ≤ 4001 by omega) (by unfold maxLen; decide)
        case c4 => exact Nat.le_trans (Nat.mul_le_mul_right 40 (show L.length + 1 ≤ 4001 by omega)) (by decide)
        case c5 => simp; omega
        · intro v' w' hown' hgrow _ hblk
          have hz := hB.size
          have hB3 : Below w.heap.size w w' := Below.grown (a := w) (by repeat (first | (with_reducible assumption) | (with_reducible exact Below.refl _ _) | (with_reducible refine Below.alloc ?_ (by first | omega | (simp; omega) | (simp; done) | (dsimp only; omega)) _) | (with_reducible refine Below.setCell ?_ (by first | omega | (simp; omega) | (simp; done) | (dsimp only; omega)) _) | (with_reducible refine Below.drew ?_) | (with_reducible refine Below.trans ?_ (Below.mono (by assumption) (by first | omega | (simp; omega) | (simp; done) | (dsimp only; omega)))))) hgrow (by simp; omega) (fun k e => by have := (hown.lt k e).1; omega)
          have HOW := Lib.hid (OwnT.snoc (x := ⟨0, [], 0, s.length⟩) hown')
          clear hown' hgrow hblk hown hB
          obtain ⟨A7, c7, rfl, -, -, hT⟩ := HOW.out.row
          have HT := Lib.hid hT
          clear hT HOW
          go_wp2_with fail
          go_ret3
          rw [← HG.out, HE.out]
          exact ⟨⟨A7, c7, rfl, HT.out⟩, hB3⟩
end Go.Proofs.YtgaecojdebpcgaaDoor
