/- X-PARTIAL All places of a memory of one array of two: layer 19. -/
import Derived.Test.YtpjocnnmienfpaaMemS
import Derived.Test.YtpjocnnmienfpaaMapR
import Derived.Maps.AppendAt
import Derived.RangeFuncBox
import Derived.Laws.OwnMore
import Derived.Test.YtpjocnnmienfpaaGrow
import Derived.Test.YtpjocnnmienfpaaSrtLay
namespace Go.Proofs.Ytpjocnnmienfpaa
open Go.RowKit Go.Lib

theorem info_str : (Try.prog.info? 9).map (fun i => (i.zero, i.size, i.bytes)) = some (some (.string ⟨#[]⟩), 1, 16) := by kernel_rfl

theorem own_mono {W W' : World} {base : Nat} {e : TypeId} {size n : Nat} {v : Value} {xs : List Value} (h : W.ownsRow base e size v n xs) (hb : Below W.heap.size W W') : W'.ownsRow base e size v n xs := by
  refine ⟨h.1, ?_⟩
  rcases h.2 with h' | ⟨g, cap, cur, e', hb', hg', h1⟩
  · exact Or.inl h'
  · exact Or.inr ⟨g, cap, cur, e', hb', by rw [hb.block g (blk_lt hg')]; exact hg', h1⟩
theorem own_base {W : World} {b b' : Nat} {e : TypeId} {size n : Nat} {v : Value} {xs : List Value} (h : W.ownsRow b e size v n xs) (hb : b' ≤ b) : W.ownsRow b' e size v n xs := by
  refine ⟨h.1, ?_⟩
  rcases h.2 with h' | ⟨g, cap, cur, e', hb', hg', h1⟩
  · exact Or.inl h'
  · exact Or.inr ⟨g, cap, cur, e', Nat.le_trans hb hb', hg', h1⟩
theorem info_held : (Try.prog.info? 50).map (fun i => (i.zero, i.size, i.bytes)) = some (some (.agg #[.string ⟨#[]⟩, .int .i64 0, .bool false, .int .i64 0, .string ⟨#[]⟩, .int .i64 0]), 6, 64) := by kernel_rfl
theorem wp_append_h {w : World} {o : Oper} {a : Act} {K : Act → World → Prop} {Q : Exit → Act → World → Prop} (s x : Operand)
    (ho : o.op = .call { callee := .builtin .append, args := #[s, x], argTypes := #[33, 33] })
    (base : Nat) (v : Value) (n : Nat) (xs : List Value) (hs : a.eval s = v) (hown : w.ownsRow base 50 6 v n xs) (ad : Addr) (news : List Value) (hx : a.eval x = .slice (some ad) 1 1) (hl : news.length = 6)
    (hnews : ∀ j u, news[j]? = some u → w.cell? (ad.add j) = some u) (h1 : ∀ u ∈ news, u.oneCell' = true) (hlen : n ≤ 1000) (hbase : base ≤ w.heap.size)
    (h : ∀ v' w', w'.ownsRow base 50 6 v' (n + 1) (xs ++ news) → w.grownBy w' v.ownBlock → K (a.put o.dst v') w') :
    Oper.wp Try.prog o a w K Q := by
  obtain ⟨i0, gi, gz0, gz1, gz2⟩ := info_parts info_held
  obtain ⟨v', w', hr, h2, h3, _, _⟩ := run_append_own_at (P := Try.prog) w base 33 o.type 50 i0 _ 6 64 Try.underlying33 gi gz0 gz1 gz2 rfl (by decide) v n xs hown ad 1 1 news (by rw [hl]) hnews h1 (by unfold maxLen; omega) (by omega) hbase
  unfold Oper.wp execOp
  simp only [ho, resolve, invoke, builtin, Sem.run_bind, Sem.run_pure, Result.andThen_ok, List.map_toArray, List.map_cons, List.map_nil, hs, hx, hr]
  exact h v' w' h2 h3
def nv (N : Int) (j : Nat) : Int := if j = 1 then N else 0
def heldAt (N : Int) (j : Nat) : List Value := [.string ⟨#[97]⟩, .int .i64 j, .bool false, .int .i64 (nv N j), .string ⟨#[]⟩, .int .i64 0]
def hrow (N : Int) : Nat → List Value
  | 0 => []
  | j + 1 => hrow N j ++ heldAt N j

set_option maxRecDepth 100000 in
set_option maxHeartbeats 4000000 in
theorem mem_all (w : World) (M G D : Nat) (es : Array MapEntry) (clk : Nat) (N : Int) (ok : Nat → Bool) (h : MemAt w M G D es clk) (hl : ∀ j : Nat, j < 2 → Looks es j (.agg #[.bool false, .int .i64 (nv N j), .string ⟨#[]⟩, .int .i64 0]) (ok j) ∧ (ok j = false → nv N j = 0)) :
    Calls Try.prog 7 #[.pointer (some ⟨M, 0, none⟩)] w fun e w' => (∃ g c, e = .returned (.slice (some ⟨g, 0, none⟩) 2 c) ∧ w'.ownsRow w.heap.size 50 6 (.slice (some ⟨g, 0, none⟩) 2 c) 2 (hrow N 2)) ∧ MemAt w' M G D es clk ∧ Below w.heap.size w w' := by
  have HLK := Lib.hid hl
  clear hl
  have m0 := blk_cell h.1 0
  simp at m0
  have z0 := blk_lt h.1
  have lr := range_one (P := Try.prog) Try.underlying42 h.2.1
  go_enter Try.func7, Try.ntmps7
  go_wp2_with fail
  have hA : MemAt (w.alloc (.mapIter (some G) 1 #[] 1)) M G D es clk := h.mono ((Below.refl _ w).alloc (Nat.le_refl _) _)
  have hi : (w.alloc (.mapIter (some G) 1 #[] 1)).heap[w.heap.size]? = some (.mapIter (some G) 1 #[] 1) := World.alloc_heap_new w _
  have hB : Below w.heap.size w (w.alloc (.mapIter (some G) 1 #[] 1)) := (Below.refl _ w).alloc (Nat.le_refl _) _
  have zi : w.heap.size + 1 ≤ (w.alloc (.mapIter (some G) 1 #[] 1)).heap.size := by rw [World.size_alloc]; omega
  have zM : M < w.heap.size := z0
  have zG : G < w.heap.size := (Array.getElem?_eq_some_iff.1 h.2.1).1
  have zD : D < w.heap.size := (Array.getElem?_eq_some_iff.1 h.2.2).1
  generalize w.alloc (.mapIter (some G) 1 #[] 1) = W at *
  clear lr m0 z0 h
  obtain ⟨i0, gi, gz0, gz1, gz2⟩ := info_parts info_str
  go_loopw [3] (fun v3 wr => ∃ k : Nat, k ≤ 1 ∧ MemAt wr M G D es clk ∧ wr.heap[w.heap.size]? = some (.mapIter (some G) 1 (if k = 0 then #[] else #[0]) 1) ∧ (if k = 0 then v3 = .slice none 0 0 else wr.ownsRow (w.heap.size + 1) 9 1 v3 1 [.string ⟨#[97]⟩]) ∧ Below w.heap.size w wr) (fun v3 _ => match v3 with | .slice none _ _ => 1 | _ => 0)
  case atStart => exact ⟨0, by omega, hA, hi, rfl, hB⟩
  case round =>
    obtain ⟨k, hk, hM, hI, hv, hBr⟩ := hrel
    clear hA hi hB
    have zr := Nat.le_trans (Nat.le_refl _) hBr.size
    by_cases h0 : k = 0
    · subst h0
      simp only [if_true] at hI hv
      subst hv
      have hI2 : (wr.putObj w.heap.size (.mapIter (some G) 1 #[0] 1)).heap[w.heap.size]? = some (.mapIter (some G) 1 #[0] 1) := World.putObj_heap_same (Array.getElem?_eq_some_iff.1 hI).1
      have hgp := grownBy_putObj' wr w.heap.size (.mapIter (some G) 1 #[0] 1)
      have hBp : Below w.heap.size w (wr.putObj w.heap.size (.mapIter (some G) 1 #[0] 1)) := Below.grown hBr hgp hBr.size (fun j e => by cases e; exact Nat.le_refl _)
      have hMp : MemAt (wr.putObj w.heap.size (.mapIter (some G) 1 #[0] 1)) M G D es clk :=
        ⟨(hgp.block M (blk_lt hM.1) (fun e => by have := Option.some.inj e; omega)).trans hM.1, (hgp.block G (blk_lt hM.2.1) (fun e => by have := Option.some.inj e; omega)).trans hM.2.1, (hgp.block D (blk_lt hM.2.2) (fun e => by have := Option.some.inj e; omega)).trans hM.2.2⟩
      have l1 := next_one (P := Try.prog) hI hM.2.1 0
      have l2 := entry_one (P := Try.prog) hI2 hMp.2.1
      have zp : w.heap.size < (wr.putObj w.heap.size (.mapIter (some G) 1 #[0] 1)).heap.size := (Array.getElem?_eq_some_iff.1 hI2).1
      have HMp := Lib.hid hMp
      have HI2 := Lib.hid hI2
      have HBp := Lib.hid hBp
      clear hM hI hI2 hgp hBp hMp hBr
      generalize wr.putObj w.heap.size (.mapIter (some G) 1 #[0] 1) = X at *
      go_wp2_with (at_builtin; refine wpList_append_own_at _ rfl _ _ 47 rfl (w.heap.size + 1) 9 i0 _ 1 16 Try.underlying47 gi gz0 gz1 gz2 rfl (by decide) (.slice none 0 0) 0 [] rfl (World.ownsRow_nil _ _ _ _) ⟨X.heap.size, 0, none⟩ 1 1 [.string ⟨#[97]⟩] rfl rfl (cell_one_new _ _ _) ?c2 ?c3 ?c4 ?c5 ?_)
      case c2 => intro u hu; simp at hu; subst hu; rfl
      case c3 => unfold maxLen; omega
      case c4 => omega
      case c5 => simp; omega
      · intro v' w' hown' hgrow hne hblk
        have hne' : ¬ v' = .slice none 0 0 := by simpa using hne
        have hBa : Below X.heap.size X w' := Below.grown ((Below.refl _ X).alloc (Nat.le_refl _) (.cells #[.string ⟨#[97]⟩] 9)) hgrow (by rw [World.size_alloc]; omega) (fun j e => by cases e)
        have HO := Lib.hid hown'
        have HMf := Lib.hid (HMp.out.mono hBa)
        have HIf := Lib.hid ((hBa.block _ zp).trans HI2.out)
        have HBf := Lib.hid (HBp.out.trans (hBa.mono HBp.out.size))
        obtain ⟨g', cap', rfl⟩ := ownsRow_succ hown'
        clear hown' hgrow hblk hBa l1 l2 hne hne'
        go_wp2_with fail
        go_roundw
        case rel => exact ⟨1, by omega, HMf.out, by rw [if_neg (by omega)]; exact HIf.out, by rw [if_neg (by omega)]; exact HO.out, HBf.out⟩
        case measure => simp
    · have : k = 1 := by omega
      subst this
      rw [if_neg (by omega)] at hI hv
      have l1 := next_over (P := Try.prog) hI hM.2.1 0
      have HM := Lib.hid hM
      have HI := Lib.hid hI
      have HB := Lib.hid hBr
      have HV := Lib.hid hv
      clear hM hI hBr hv
      obtain ⟨g', cap', rfl⟩ := ownsRow_succ HV.out
      have hc := HV.out.cellAt 0 (by omega)
      have hf := HV.out.frozenAt 0
      have hg := HV.out.lt g' rfl
      have HS := Lib.hid (sort_one wr g' cap' [97] hc hf hg.2)
      clear hc hf
      go_wp2_with fail
      go_at_call 12
      refine HS.out.mono ?_
      rintro e w2 ⟨rfl, hc2, hgr2⟩
      have hB2 : Below w.heap.size w w2 := Below.grown HB.out hgr2 HB.out.size (fun j e => by cases e; omega)
      have hM2 : MemAt w2 M G D es clk :=
        ⟨(hgr2.block M (blk_lt HM.out.1) (fun e => by have := Option.some.inj e; omega)).trans HM.out.1, (hgr2.block G (blk_lt HM.out.2.1) (fun e => by have := Option.some.inj e; omega)).trans HM.out.2.1, (hgr2.block D (blk_lt HM.out.2.2) (fun e => by have := Option.some.inj e; omega)).trans HM.out.2.2⟩
      have hg2 := Nat.lt_of_lt_of_le hg.2 hgr2.size
      clear hgr2 HS HM HB HV HI l1
      go_wp2_with fail
      have HBX := Lib.hid (show Below w.heap.size w w2 from hB2)
      clear gz0 gz1 gz2 gi zi zr hk h0
      obtain ⟨i1, gi, gz0, gz1, gz2⟩ := info_parts info_held
      go_loopw [5, 29] (fun v5 v29 wr => ∃ k : Nat, k ≤ 1 ∧ v29 = .int .i64 k ∧ MemAt wr M G D es clk ∧ wr.ownsRow w2.heap.size 50 6 v5 (2 * k) (hrow N (2 * k)) ∧ wr.cell? ⟨g', 0, none⟩ = some (.string ⟨#[97]⟩) ∧ Below w.heap.size w wr ∧ Below w2.heap.size w2 wr) (fun _ v29 _ => 1 - (RowKit.intOf v29).toNat)
      case atStart => exact ⟨0, by omega, rfl, hM2, World.ownsRow_nil _ _ _ _, hc2, hB2, Below.refl _ _⟩
      case round =>
        obtain ⟨k, hk, rfl, hM3, hO3, hc3, hB3, hB4⟩ := hrel
        clear hc2 hM2 hB2
        have zg3 := Nat.lt_of_lt_of_le hg2 hB4.size
        by_cases h0 : k = 0
        · subst h0
          have hM4 := hM3.mono (Below.refl _ _)
          have m0 := blk_cell hM3.1 0
          simp at m0
          have zM3 := blk_lt hM3.1
          have l1 := look_glob false hM3
          simp only [glob, Bool.false_eq_true, if_false] at l1
          have HPL := Lib.hid (fun W => mem_places W)
          simp only [glob] at HPL
          have HM3 := Lib.hid hM3
          have HO3 := Lib.hid hO3
          have HB3 := Lib.hid hB3
          have HB4 := Lib.hid hB4
          clear hM3 hM4 hO3 hB3 hB4
          go_wp2_with fail
          go_at_call 11
          refine (HPL.out _).mono ?_
          rintro e w4 ⟨rfl, hb4⟩
          have hc4 := (hb4.cell (p := ⟨g', 0, none⟩) zg3).trans hc3
          have hM4 := HM3.out.mono hb4
          have hO4 : w4.ownsRow w2.heap.size 50 6 u5 0 [] := own_mono HO3.out hb4
          have hB4' := HB3.out.trans (hb4.mono HB3.out.size)
          have hB5 := HB4.out.trans (hb4.mono HB4.out.size)
          clear hb4 HPL HM3 HO3 HB3 HB4 l1 m0 zM3 zg3 hc3
          go_wp2_with fail
          go_loopw [5, 40] (fun v5 v40 wr => ∃ j : Nat, j ≤ 2 ∧ v40 = .int .i64 j ∧ MemAt wr M G D es clk ∧ wr.ownsRow w2.heap.size 50 6 v5 j (hrow N j) ∧ wr.cell? ⟨g', 0, none⟩ = some (.string ⟨#[97]⟩) ∧ Below w.heap.size w wr ∧ Below w2.heap.size w2 wr) (fun _ v40 _ => 2 - (RowKit.intOf v40).toNat)
          case atStart => exact ⟨0, by omega, rfl, hM4, hO4, hc4, hB4', hB5⟩
          case round =>
            obtain ⟨j, hj, rfl, hM6, hO6, hc6, hB6, hB7⟩ := hrel
            clear hM4 hO4 hc4 hB4' hB5
            by_cases hjl : j < 2
            · have ij : (j : Int) < 2 := by omega
              obtain ⟨hl1, hl2⟩ := HLK.out j hjl
              have HW := Lib.hid (fun W (h : MemAt W M G D es clk) => mem_word W M G D es clk j false (nv N j) ⟨#[]⟩ 0 (ok j) h hl1 (fun h => ⟨rfl, hl2 h, rfl, rfl⟩))
              have HM6 := Lib.hid hM6
              have HO6 := Lib.hid hO6
              have HB6 := Lib.hid hB6
              have HB7 := Lib.hid hB7
              have zg6 := Nat.lt_of_lt_of_le hg2 hB7.size
              clear hM6 hO6 hB6 hB7 hl1 hl2
              have hb6 : Below wr.heap.size wr (wr.alloc (.cells #[.string ⟨#[97]⟩, .int .i64 j] 23)) := (Below.refl _ wr).alloc (Nat.le_refl _) _
              have q0 : (wr.alloc (.cells #[.string ⟨#[97]⟩, .int .i64 j] 23)).cell? ⟨wr.heap.size, 0, none⟩ = some (.string ⟨#[97]⟩) := by simp [go_sem]
              have q1 : (wr.alloc (.cells #[.string ⟨#[97]⟩, .int .i64 j] 23)).cell? ⟨wr.heap.size, 1, none⟩ = some (.int .i64 j) := by simp [go_sem]
              have z6 : wr.heap.size < (wr.alloc (.cells #[.string ⟨#[97]⟩, .int .i64 j] 23)).heap.size := by simp
              go_upto_region 17 with fail
              generalize wr.alloc (.cells #[.string ⟨#[97]⟩, .int .i64 j] 23) = W6 at *
              have hW6 : w.heap.size ≤ W6.heap.size := Nat.le_trans HB6.out.size hb6.size
              have HB : Below w.heap.size W6 W6.drew ∧ W6.drew.cell? ⟨wr.heap.size, 0, none⟩ = some (.string ⟨#[97]⟩) ∧ W6.drew.cell? ⟨wr.heap.size, 1, none⟩ = some (.int .i64 j) := ⟨(Below.refl _ W6).drew, q0, q1⟩
              refine wp_region_noPanic ?_
              refine wp_region_held_drew (S := fun w' => Below w.heap.size W6 w' ∧ w'.cell? ⟨wr.heap.size, 0, none⟩ = some (.string ⟨#[97]⟩) ∧ w'.cell? ⟨wr.heap.size, 1, none⟩ = some (.int .i64 j)) (by kernel_rfl) HB (fun _ => ?_)
              refine take_first 0 46 (u5) rfl rfl (by kernel_rfl) (by kernel_rfl) (by kernel_rfl) (fun _ _ _ h => h) (by rfl) (fun w' hS => ?_) (by assumption) ?_
              · obtain ⟨_, s0, s1⟩ := hS
                go_simp
              (try simp only [Act.put, List.setIfInBounds_toArray, List.set_cons_zero, List.set_cons_succ])
              refine take_first 1 47 (.agg #[.string ⟨#[97]⟩, .int .i64 j]) rfl rfl (by kernel_rfl) (by kernel_rfl) (by kernel_rfl) (fun _ _ _ h => h) (by rfl) (fun w' hS => ?_) (by assumption) ?_
              · obtain ⟨_, s0, s1⟩ := hS
                go_simp
              (try simp only [Act.put, List.setIfInBounds_toArray, List.set_cons_zero, List.set_cons_succ])
              refine take_first 2 48 (.pointer (some ⟨M, 0, none⟩)) rfl rfl (by kernel_rfl) (by kernel_rfl) (by kernel_rfl) (fun _ _ _ h => h) (by rfl) (fun w' hS => ?_) (by assumption) ?_
              · obtain ⟨_, s0, s1⟩ := hS
                go_simp
              (try simp only [Act.put, List.setIfInBounds_toArray, List.set_cons_zero, List.set_cons_succ])
              refine take_first 3 49 (.agg #[.string ⟨#[97]⟩, .int .i64 j]) rfl rfl (by kernel_rfl) (by kernel_rfl) (by kernel_rfl) (fun _ _ _ h => h) (by rfl) (fun w' hS => ?_) (by assumption) ?_
              · obtain ⟨_, s0, s1⟩ := hS
                go_simp
              (try simp only [Act.put, List.setIfInBounds_toArray, List.set_cons_zero, List.set_cons_succ])
              refine wpAnyH_ready (rs := [4]) (by kernel_rfl) (by simp) ?_
              refine AllReadyH.cons rfl (fun K hK => ?_) AllReadyH.nil
              go_simp
              refine (HW.out W6.drew (HM6.out.mono (hb6.drew))).mono ?_
              rintro e w7 ⟨rfl, hb7⟩
              have hb67 : Below W6.heap.size W6 w7 := ((Below.refl _ W6).drew).trans hb7
              replace HB := (show _ ∧ _ ∧ _ from ⟨hb67.mono hW6, (hb67.cell (p := ⟨wr.heap.size, 0, none⟩) z6).trans q0, (hb67.cell (p := ⟨wr.heap.size, 1, none⟩) z6).trans q1⟩)
              refine hK.out _ _ HB (fun _ => ?_)
              clear hK K
              (try simp only [Act.put, List.setIfInBounds_toArray, List.set_cons_zero, List.set_cons_succ])
              refine take_first 5 51 (.agg #[.string ⟨#[97]⟩, .int .i64 j, .bool false, .int .i64 (nv N j), .string ⟨#[]⟩, .int .i64 0]) rfl rfl (by kernel_rfl) (by kernel_rfl) (by kernel_rfl) (fun _ _ _ h => h) (by rfl) (fun w' hS => ?_) (by assumption) ?_
              · obtain ⟨_, s0, s1⟩ := hS
                go_simp
              (try simp only [Act.put, List.setIfInBounds_toArray, List.set_cons_zero, List.set_cons_succ])
              refine wpAnyH_ready (rs := [6]) (by kernel_rfl) (by simp) ?_
              refine AllReadyH.cons rfl (fun K hK => ?_) AllReadyH.nil
              go_simp
              have hb8 : Below w7.heap.size w7 (w7.alloc (.cells #[.string ⟨#[97]⟩, .int .i64 j, .bool false, .int .i64 (nv N j), .string ⟨#[]⟩, .int .i64 0] 50)) := (Below.refl _ w7).alloc (Nat.le_refl _) _
              have kh := al_new w7 (.cells #[.string ⟨#[97]⟩, .int .i64 j, .bool false, .int .i64 (nv N j), .string ⟨#[]⟩, .int .i64 0] 50) rfl
              have hw7 : w.heap.size ≤ w7.heap.size := Nat.le_trans hW6 hb67.size
              have z7 : wr.heap.size < w7.heap.size := Nat.lt_of_lt_of_le z6 hb67.size
              have hO8 := own_mono (own_mono (own_mono HO6.out hb6) hb67) hb8
              have hM8 := ((HM6.out.mono hb6).mono hb67).mono hb8
              have hB8 := ((HB6.out.trans (hb6.mono HB6.out.size)).trans (hb67.mono hW6)).trans (hb8.mono hw7)
              have hw2r := HB7.out.size
              have hB82 := ((HB7.out.trans (hb6.mono hw2r)).trans (hb67.mono (Nat.le_trans hw2r hb6.size))).trans (hb8.mono (Nat.le_trans (Nat.le_trans hw2r hb6.size) hb67.size))
              replace HB := (show _ ∧ _ ∧ _ from ⟨HB.1.trans (hb8.mono hw7), (hb8.cell (p := ⟨wr.heap.size, 0, none⟩) z7).trans HB.2.1, (hb8.cell (p := ⟨wr.heap.size, 1, none⟩) z7).trans HB.2.2⟩)
              refine hK.out _ _ HB (fun _ => ?_)
              clear hK K
              (try simp only [Act.put, List.setIfInBounds_toArray, List.set_cons_zero, List.set_cons_succ])
              have gh := blk_cell kh
              have hw8 : w.heap.size ≤ (w7.alloc (.cells #[.string ⟨#[97]⟩, .int .i64 j, .bool false, .int .i64 (nv N j), .string ⟨#[]⟩, .int .i64 0] 50)).heap.size := Nat.le_trans hw7 hb8.size
              have hc8 := (hb8.cell (p := ⟨g', 0, none⟩) (Nat.lt_of_lt_of_le (Nat.lt_of_lt_of_le zg6 hb6.size) hb67.size)).trans ((hb67.cell (p := ⟨g', 0, none⟩) (Nat.lt_of_lt_of_le zg6 hb6.size)).trans ((hb6.cell (p := ⟨g', 0, none⟩) zg6).trans hc6))
              generalize w7.alloc (.cells #[.string ⟨#[97]⟩, .int .i64 j, .bool false, .int .i64 (nv N j), .string ⟨#[]⟩, .int .i64 0] 50) = W8 at *
              refine wpAnyH_ready (rs := [7]) (by kernel_rfl) (by simp) ?_
              refine AllReadyH.cons rfl (fun K hK => ?_) AllReadyH.nil
              rw [if_pos (by rfl)]
              refine wp_append_h _ _ rfl w2.heap.size u5 j (hrow N j) rfl hO8 ⟨w7.heap.size, 0, none⟩ (heldAt N j) rfl rfl ?c1 ?c2 (by omega) hB82.size (fun v' w9 hown9 hgr9 => ?_)
              case c1 =>
                intro q u hq
                match q, hq with
                | 0, hq => simp [heldAt] at hq; subst hq; simp [Addr.add, gh]
                | 1, hq => simp [heldAt] at hq; subst hq; simp [Addr.add, gh]
                | 2, hq => simp [heldAt] at hq; subst hq; simp [Addr.add, gh]
                | 3, hq => simp [heldAt] at hq; subst hq; simp [Addr.add, gh]
                | 4, hq => simp [heldAt] at hq; subst hq; simp [Addr.add, gh]
                | 5, hq => simp [heldAt] at hq; subst hq; simp [Addr.add, gh]
                | q + 6, hq => simp [heldAt] at hq
              case c2 => intro u hu; simp [heldAt] at hu; rcases hu with rfl | rfl | rfl | rfl | rfl | rfl <;> rfl
              have hlt := HO6.out.lt
              have hbz : Below w.heap.size W8 w9 := Below.grown (Below.refl _ W8) hgr9 hw8 (fun k e => Nat.le_trans HBX.out.size (hlt k e).1)
              have hbz2 : Below w2.heap.size W8 w9 := Below.grown (Below.refl _ W8) hgr9 hB82.size (fun k e => (hlt k e).1)
              have hne : ∀ k, some wr.heap.size = u5.ownBlock → k → False := fun k e _ => by have := (hlt _ e.symm).2; omega
              replace HB := (show _ ∧ _ ∧ _ from ⟨HB.1.trans hbz, hgr9.cell HB.2.1 (fun e => hne True e trivial), hgr9.cell HB.2.2 (fun e => hne True e trivial)⟩)
              have hM9 : MemAt w9 M G D es clk := ⟨(hbz.block M zM).trans hM8.1, (hbz.block G zG).trans hM8.2.1, (hbz.block D zD).trans hM8.2.2⟩
              have hc9 := (hbz2.cell (p := ⟨g', 0, none⟩) hg2).trans hc8
              have hB9 := hB8.trans hbz
              have hB92 := hB82.trans hbz2
              refine hK.out _ _ HB (fun _ => ?_)
              clear hK K
              (try simp only [Act.put, List.setIfInBounds_toArray])
              refine take_first 8 5 (v') rfl rfl (by kernel_rfl) (by kernel_rfl) (by kernel_rfl) (fun _ _ _ h => h) (by rfl) (fun w' hS => ?_) (by assumption) ?_
              · go_simp
              (try simp only [Act.put])
              refine wpAnyH_done (by kernel_rfl) (NoPanic.normal ?_) _
              have HO9 := Lib.hid hown9
              have HM9 := Lib.hid hM9
              have HB9 := Lib.hid hB9
              have HB92 := Lib.hid hB92
              clear hown9 hM9 hB9 hB92 hbz hbz2 hgr9 HB hM8 hO8 hB8 hB82 hc8 gh hlt hne kh hb8 hb67 hb7 hb6 q0 q1 HW HM6 HO6
              go_wp2_with fail
              go_roundw
              case rel => exact ⟨j + 1, by omega, by go_num, HM9.out, HO9.out, hc9, HB9.out, HB92.out⟩
              case measure => simp [RowKit.intOf]; omega
            · have : j = 2 := by omega
              subst this
              have ij : ¬ ((2 : Nat) : Int) < 2 := by omega
              have HM6 := Lib.hid hM6
              have HO6 := Lib.hid hO6
              have HB6 := Lib.hid hB6
              have HB7 := Lib.hid hB7
              clear hM6 hO6 hB6 hB7
              go_wp2_with fail
              go_roundw
              case rel => exact ⟨1, by omega, by go_num, HM6.out, HO6.out, hc6, HB6.out, HB7.out⟩
              case measure => simp [RowKit.intOf]
        · have : k = 1 := by omega
          subst this
          obtain ⟨g5, c5, rfl⟩ := ownsRow_succ hO3
          have HO := Lib.hid hO3
          have HM := Lib.hid hM3
          have HB := Lib.hid hB3
          clear hO3 hM3 hB3 hB4 h0
          go_wp2_with fail
          go_ret
          exact ⟨⟨g5, c5, rfl, own_base HO.out HBX.out.size⟩, HM.out, HB.out⟩
end Go.Proofs.Ytpjocnnmienfpaa
