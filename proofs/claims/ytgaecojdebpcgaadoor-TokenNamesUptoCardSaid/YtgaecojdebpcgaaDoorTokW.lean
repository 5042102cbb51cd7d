/- X-PARTIAL The document's own answer: tokens as a text again: layer 10. -/
import Derived.Test.YtgaecojdebpcgaaDoorTokV
import Derived.Maps.AppendAt
namespace Go.Proofs.YtgaecojdebpcgaaDoor
open Go.RowKit Go.Lib

/-- The first k texts, joined. -/
def joinB (L : List Tok) (k : Nat) : Str := Lib.join ((L.take k).map Tok.t) [32]
theorem joinB_zero (L : List Tok) : joinB L 0 = [] := rfl
theorem joinB_all (L : List Tok) : joinB L L.length = Lib.join (L.map Tok.t) [32] := by unfold joinB; rw [List.take_length]
theorem join_snoc (x : Str) (r : List Str) (y : Str) : Lib.join (x :: r ++ [y]) [32] = Lib.join (x :: r) [32] ++ 32 :: y := by
  rw [List.cons_append, Lib.join_cons, Lib.join_cons]
  simp [Lib.joinTail]
theorem joinB_one (L : List Tok) (h : 0 < L.length) : joinB L 1 = L[0].t := by
  unfold joinB
  cases L with
  | nil => simp at h
  | cons x L => exact Lib.join_one _ _
theorem joinB_next (L : List Tok) {k : Nat} (h : k < L.length) (h0 : 0 < k) : joinB L (k + 1) = joinB L k ++ [32] ++ L[k].t := by
  unfold joinB
  rw [List.take_succ_eq_append_getElem h, List.map_append]
  cases L with
  | nil => simp at h
  | cons x L =>
    obtain ⟨j, rfl⟩ : ∃ j, k = j + 1 := ⟨k - 1, by omega⟩
    rw [List.take_succ_cons, List.map_cons]
    show Lib.join (x.t :: (L.take j).map Tok.t ++ [_]) [32] = _
    rw [join_snoc, List.append_assoc]
    rfl
theorem joinB_len (L : List Tok) (k : Nat) : (joinB L k).length ≤ Lib.lens (L.map Tok.t) + L.length := by
  have h1 := Lib.lens_take_le (L.map Tok.t) k
  rw [← List.map_take] at h1
  have h2 : ((L.take k).map Tok.t).length ≤ L.length := by rw [List.length_map, List.length_take]; omega
  unfold joinB
  generalize (L.take k).map Tok.t = xs at h1 h2
  cases xs with
  | nil => exact Nat.zero_le _
  | cons x r =>
    rw [Lib.join_cons, List.length_append, Lib.joinTail_length]
    have : Lib.lens (x :: r) = x.length + Lib.lens r := by simp [Lib.lens]
    simp at h2 ⊢
    omega

/-- The value v is a row of the call's own (blocks from 'base' on) that holds these bytes. -/
def OwnB (w : World) (base : Nat) (v : Value) (l : Str) : Prop := w.ownsRow base 5 1 v l.length (l.map fun c => Value.int .u8 c.toNat)
theorem OwnB.nil (w : World) (base : Nat) : OwnB w base (.slice none 0 0) [] := World.ownsRow_nil _ _ _ _
theorem OwnB.row {w : World} {base : Nat} {v : Value} {l : Str} (h : OwnB w base v l) : ∃ (A : Option Addr) (c : Nat), v = .slice A l.length c ∧ BRow w A l := by
  rcases h.2 with ⟨rfl, hn⟩ | ⟨g, cap, cur, rfl, hb, hg, h1, h2, h3, h4⟩
  · have : l = [] := List.eq_nil_of_length_eq_zero hn
    subst this
    exact ⟨none, 0, rfl, rfl⟩
  · refine ⟨some ⟨g, 0, none⟩, cap, rfl, fun i hi => ?_⟩
    have hh : w.ownsRow base 5 1 (.slice (some ⟨g, 0, none⟩) l.length cap) l.length (l.map fun c => Value.int .u8 c.toNat) := h
    have e : (⟨g, 0, none⟩ : Addr).add i = ⟨g, 0 + i, none⟩ := by
      unfold Addr.add; split
      · next h => subst h; rfl
      · rfl
    have hi' : i < l.length := by rwa [List.length_map] at hi
    rw [e, Nat.zero_add, hh.cellAt _ (by omega)]
    exact List.getElem?_eq_getElem hi
theorem OwnB.mono {w w' : World} {base : Nat} {v : Value} {l : Str} (h : OwnB w base v l) (hb : Below w.heap.size w w') : OwnB w' base v l := by
  refine ⟨h.1, ?_⟩
  rcases h.2 with h' | ⟨g, cap, cur, e, hb', hg, h1⟩
  · exact Or.inl h'
  · exact Or.inr ⟨g, cap, cur, e, hb', by rw [hb.block g (blk_lt hg)]; exact hg, h1⟩
theorem OwnB.lt {w : World} {base : Nat} {v : Value} {l : Str} (h : OwnB w base v l) : ∀ k, v.ownBlock = some k → base ≤ k ∧ k < w.heap.size := World.ownsRow.lt h
theorem OwnB.app {w : World} {base : Nat} {v : Value} {l m : Str} (h : w.ownsRow base 5 1 v (l.length + m.length) ((l.map fun c => Value.int .u8 c.toNat) ++ (m.map fun c => Value.int .u8 c.toNat))) : OwnB w base v (l ++ m) := by
  unfold OwnB
  rw [List.length_append, List.map_append]
  exact h
theorem info_byte : (Tryd.prog.info? 5).map (fun i => (i.zero, i.size, i.bytes)) = some (some (.int .u8 0), 1, 1) := by kernel_rfl

set_option maxRecDepth 1000000 in
set_option maxHeartbeats 4000000 in
theorem r10_Join (L : List Tok) (A : Option Addr) (cp : Nat) (w : World) (hm : Lib.lens (L.map Tok.t) + L.length ≤ 70368744177664) (hr : TRow w A L) :
    Calls Tryd.prog 15 #[.slice A L.length cp] w fun e w' => e = .returned (encStr (Lib.join (L.map Tok.t) [32])) ∧ Below w.heap.size w w' := by
  obtain ⟨i0, gi, gz0, gz1, gz2⟩ := info_parts info_byte
  have hJ := fun k => joinB_len L k
  go_enter Tryd.func15, Tryd.ntmps15
  go_wp2_with fail
  go_loopw [3, 4] (fun v3 v4 wr => ∃ k : Nat, k ≤ L.length ∧ v4 = .int .i64 k ∧ OwnB wr w.heap.size v3 (joinB L k) ∧ Below w.heap.size w wr) (fun _ v4 _ => L.length - (RowKit.intOf v4).toNat)
  case atStart => exact ⟨0, Nat.zero_le _, rfl, OwnB.nil _ _, Below.refl _ _⟩
  case round =>
    obtain ⟨k, hk, rfl, hown, hB⟩ := hrel
    by_cases hlt : k < L.length
    · have ik : (k : Int) < L.length := by omega
      obtain ⟨a, o, he, c0, d1, c2, c3, ha⟩ := hr.cell hlt
      cases he
      have c1 := (hB.cell (p := ⟨a, o + k * 4 + 1, none⟩) ha).trans d1
      have hz : a < wr.heap.size := Nat.lt_of_lt_of_le ha hB.size
      have hjk := hJ k
      obtain ⟨A3, c3', rfl, -⟩ := hown.row
      by_cases h0 : k = 0
      · subst h0
        have HN := Lib.hid (joinB_one L hlt)
        clear hr hJ c0 c2 c3
        have hxl : L[0].t.length ≤ Lib.lens (L.map Tok.t) + L.length := by rw [← joinB_one L hlt]; exact joinB_len L 1
        generalize L[0].t = x at *
        obtain ⟨c9, w3, hcv, hR3, hb3⟩ := conv_text x wr
        have hown3 := hown.mono hb3
        have hB3 := hB.trans (hb3.mono hB.size)
        have hz3 := hB3.size
        have hw3 : wr.heap.size ≤ w3.heap.size := hb3.size
        clear hown hB hb3
        go_wp2_with (at_builtin; refine wpList_append_own_at _ rfl _ _ 22 rfl w.heap.size 5 i0 _ 1 1 Tryd.underlying22 gi gz0 gz1 gz2 rfl (by decide) _ _ _ rfl hown3 ⟨wr.heap.size, 0, none⟩ x.length c9 (x.map fun c => Value.int .u8 c.toNat) rfl (by rw [List.length_map, Nat.mul_one]) ?c1 ?c2 ?c3 ?c4 ?c5 ?_)
        case c1 =>
          intro j u hj
          obtain ⟨hj', e'⟩ := List.getElem?_eq_some_iff.1 hj
          rw [hR3 j hj', e']
        case c2 =>
          intro u hu
          obtain ⟨c, _, rfl⟩ := List.mem_map.1 hu
          rfl
        case c3 => unfold maxLen; omega
        case c4 => omega
        case c5 => exact hz3
        · intro v' w' hown' hgrow _ hblk
          have HOW := Lib.hid (OwnB.app hown')
          have hB4 : Below w.heap.size w w' := Below.grown hB3 hgrow hz3 (fun k e => (hown3.lt k e).1)
          clear hown' hgrow hblk hown3 hB3 hcv hR3
          go_wp2_with fail
          go_roundw
          case rel => exact ⟨1, by omega, by go_num, by rw [HN.out]; exact HOW.out, hB4⟩
          case measure => simp [RowKit.intOf]; omega
      · have i0' : (0 : Int) < k := by omega
        have HN := Lib.hid (joinB_next L hlt (by omega))
        clear hr hJ c0 c2 c3
        have hjk1 := joinB_len L (k + 1)
        rw [joinB_next L hlt (by omega), List.length_append, List.length_append, List.length_singleton] at hjk1
        have hk0 : 0 < k := by omega
        generalize L[k].t = x at *
        go_wp2_with (at_builtin; refine wpList_append_own_at _ rfl _ _ 22 rfl w.heap.size 5 i0 _ 1 1 Tryd.underlying22 gi gz0 gz1 gz2 rfl (by decide) _ _ _ rfl (hown.mono (by repeat (first | (with_reducible assumption) | (with_reducible exact Below.refl _ _) | (with_reducible refine Below.alloc ?_ (by first | omega | (simp; omega) | (simp; done) | (dsimp only; omega)) _) | (with_reducible refine Below.setCell ?_ (by first | omega | (simp; omega) | (simp; done) | (dsimp only; omega)) _) | (with_reducible refine Below.drew ?_) | (with_reducible refine Below.trans ?_ (Below.mono (by assumption) (by first | omega | (simp; omega) | (simp; done) | (dsimp only; omega))))))) ⟨wr.heap.size, 0, none⟩ 1 1 [.int .u8 32] rfl rfl ?c1 ?c2 ?c3 ?c4 ?c5 ?_)
        case c1 =>
          intro q u hq
          match q, hq with
          | 0, hq => simp at hq; subst hq; simp [Addr.add, go_sem]
          | q + 1, hq => simp at hq
        case c2 => intro u hu; simp at hu; subst hu; rfl
        case c3 => unfold maxLen; omega
        case c4 => omega
        case c5 => simp; have := hB.size; omega
        · intro v' w' hown' hgrow _ hblk
          have hz := hB.size
          have hlt3 := fun k e => (hown.lt k e).1
          have hown2 : OwnB w' w.heap.size v' (joinB L k ++ [32]) := OwnB.app (m := [32]) hown'
          have hB2 : Below w.heap.size w w' := Below.grown (a := w) (by repeat (first | (with_reducible assumption) | (with_reducible exact Below.refl _ _) | (with_reducible refine Below.alloc ?_ (by first | omega | (simp; omega) | (simp; done) | (dsimp only; omega)) _) | (with_reducible refine Below.setCell ?_ (by first | omega | (simp; omega) | (simp; done) | (dsimp only; omega)) _) | (with_reducible refine Below.drew ?_) | (with_reducible refine Below.trans ?_ (Below.mono (by assumption) (by first | omega | (simp; omega) | (simp; done) | (dsimp only; omega)))))) hgrow (by simp; omega) hlt3
          have c1' := (hB2.cell (p := ⟨a, o + k * 4 + 1, none⟩) ha).trans d1
          obtain ⟨A6, c6, rfl, -⟩ := hown2.row
          obtain ⟨c9, w3, hcv, hR3, hb3⟩ := conv_text x w'
          have hown3 := hown2.mono hb3
          have hB3 := hB2.trans (hb3.mono hB2.size)
          have hz3 := hB3.size
          have hl : (joinB L k ++ [32] : Str).length = (joinB L k).length + 1 := by simp
          clear hown hown' hown2 hgrow hblk hB hB2 hb3 hlt3
          generalize joinB L k ++ [32] = y at *
          go_wp2_with (at_builtin; refine wpList_append_own_at _ rfl _ _ 22 rfl w.heap.size 5 i0 _ 1 1 Tryd.underlying22 gi gz0 gz1 gz2 rfl (by decide) _ _ _ rfl hown3 ⟨w'.heap.size, 0, none⟩ x.length c9 (x.map fun c => Value.int .u8 c.toNat) rfl (by rw [List.length_map, Nat.mul_one]) ?c1 ?c2 ?c3 ?c4 ?c5 ?_)
          case c1 =>
            intro j u hj
            obtain ⟨hj', e'⟩ := List.getElem?_eq_some_iff.1 hj
            rw [hR3 j hj', e']
          case c2 =>
            intro u hu
            obtain ⟨c, _, rfl⟩ := List.mem_map.1 hu
            rfl
          case c3 => unfold maxLen; omega
          case c4 => omega
          case c5 => exact hz3
          · intro v'' w'' hown' hgrow _ hblk
            rw [← hl] at hown'
            have HOW := Lib.hid (OwnB.app hown')
            have hB4 : Below w.heap.size w w'' := Below.grown hB3 hgrow hz3 (fun k e => (hown3.lt k (by rw [hl]; exact e)).1)
            clear hown' hgrow hblk hown3 hB3 hcv hR3
            go_wp2_with fail
            go_roundw
            case rel => exact ⟨k + 1, by omega, by go_num, by rw [HN.out]; exact HOW.out, hB4⟩
            case measure => simp [RowKit.intOf]; omega
    · have ik : ¬ (k : Int) < L.length := by omega
      have e : k = L.length := by omega
      subst e
      rw [joinB_all] at hown
      obtain ⟨A3, c3', rfl, hrow⟩ := hown.row
      have hcv := conv_bytes hrow c3'
      clear hr hJ hown
      go_wp2_with fail
      go_ret
      exact ⟨rfl, hB⟩
end Go.Proofs.YtgaecojdebpcgaaDoor
