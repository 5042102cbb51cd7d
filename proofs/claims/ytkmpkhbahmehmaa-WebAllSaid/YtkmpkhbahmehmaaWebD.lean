/- X-PARTIAL Links: the row of a key: layer 29. -/
import Derived.Test.YtkmpkhbahmehmaaWebC
import Derived.Test.YtkmpkhbahmehmaaKeyAp
namespace Go.Proofs.Ytkmpkhbahmehmaa
open Go.RowKit Go.Lib

theorem keysL_length {L : List (Ky × Value)} : (keysL L).length = L.length := by simp [keysL]
theorem strict_rowR (l : List Ky) : StrictK (rowR l) := (fold_row l [] List.Pairwise.nil).1
theorem mem_rowR {l : List Ky} {z : Ky} : z ∈ rowR l ↔ ∃ y ∈ l, z = y.cl := ((fold_row l [] List.Pairwise.nil).2 z).trans (by simp)
theorem rowR_ext {l l' : List Ky} (h : ∀ z, (∃ y ∈ l, z = Ky.cl y) ↔ (∃ y ∈ l', z = Ky.cl y)) : rowR l = rowR l' :=
  strictK_uniq (strict_rowR l) (strict_rowR l') (fun z => by rw [mem_rowR, mem_rowR]; exact h z)
theorem rowR_perm {l l' : List Ky} (h : l.Perm l') : rowR l = rowR l' := rowR_ext fun _z => ⟨fun ⟨y, hy, e⟩ => ⟨y, h.mem_iff.1 hy, e⟩, fun ⟨y, hy, e⟩ => ⟨y, h.mem_iff.2 hy, e⟩⟩

theorem OwnK.base {w : World} {b b' g n c : Nat} {l : List Ky} (h : OwnK w b g n c l) (hb : b' ≤ b) : OwnK w b' g n c l := by
  obtain ⟨h1, h2, h3, h4⟩ := h
  refine ⟨h1, h2, h3, ?_⟩
  rcases h4 with h' | ⟨g, cap, cur, e, hb', hg, h'⟩
  · exact Or.inl h'
  · exact Or.inr ⟨g, cap, cur, e, Nat.le_trans hb hb', hg, h'⟩
def sliceLen : Value → Nat
  | .slice _ n _ => n
  | _ => 0

set_option maxRecDepth 100000 in
set_option maxHeartbeats 4000000 in
theorem links_row (w : World) (r : Nat) (f : Ky → List Ky) (fp : Nat → Prop) (a : Ky) (h : LinksAt w r f fp) (hm : (f a).length * 24 ≤ 140737488355328) :
    Calls Try.prog 25 #[.map (some r), .agg #[encStr a.n, .int .i64 a.d]] w fun e w' => (∃ g n N, e = .returned (.slice (some ⟨g, 0, none⟩) n N) ∧ OwnK w' w.heap.size g n N (rowR (f a))) ∧ Below w.heap.size w w' := by
  obtain ⟨es, clock, L, hb, hE, hr, hlt, hin, hno, hinj⟩ := h
  have hzr := blk_lt hb
  cases hg : getL a L with
  | none =>
    have hfa := hno a (key_getL.2 hg)
    rw [hfa]
    clear hlt hin hno hinj hfa hm
    go_enter Try.func25, Try.ntmps25
    go_upto_region 2 with fail
    have ka := al_new w (.cells #[encStr a.n, .int .i64 a.d] 24) rfl
    have hbW : Below w.heap.size w (w.alloc (.cells #[encStr a.n, .int .i64 a.d] 24)) := (Below.refl _ w).alloc (Nat.le_refl _) _
    generalize w.alloc (.cells #[encStr a.n, .int .i64 a.d] 24) = W at *
    have hbr := (hbW.block r hzr).trans hb
    have ca := blk_cell ka
    have lk := hE.look key_law links_under (z := .map none) (fun w => Try.zeroValue56 w) a false hbr
    rw [hg] at lk
    simp only [Bool.false_eq_true, if_false, Option.getD_none, encKy] at lk
    have rn := run_range_nil (P := Try.prog) set_under W
    have hW2 : Below w.heap.size w (W.alloc (.mapIter none 0 #[] 0)) := hbW.alloc hbW.size _
    have kit := al_new W (.mapIter none 0 #[] 0) rfl
    go_upto_block 0 with fail
    clear lk rn ca ka hbr hbW
    generalize hit : W.heap.size = it at *
    generalize W.alloc (.mapIter none 0 #[] 0) = W2 at *
    have H := Lib.hid (key_Row [] none 0 W2 (fun j hj => absurd hj (by simp)) (by simp))
    go_wp2_with fail
    go_loopw [5] (fun v5 wr => v5 = .slice none 0 0 ∧ wr = W2) (fun _ _ => 0)
    case atStart => exact ⟨rfl, rfl⟩
    case round =>
      obtain ⟨rfl, rfl⟩ := hrel
      have nx := fun ty => run_next_nil (P := Try.prog) kit ty
      go_wp2_with fail
      go_at_call 29
      refine H.out.mono ?_
      rintro e w1 ⟨⟨g, n, N, rfl, ho⟩, hb1⟩
      have HO := Lib.hid (ho.base hW2.size)
      have hB := hW2.trans (hb1.mono hW2.size)
      clear ho hb1 nx kit
      go_wp2_with fail
      go_ret
      exact ⟨⟨g, n, N, rfl, HO.out⟩, hB⟩
  | some v =>
    have hv := getL_mem hg
    obtain ⟨n, rfl, hfn, hnr, hset⟩ := hin a v hv
    obtain ⟨esn, cn, Ln, hbn, hEn, hkn, hvn⟩ := hset
    rw [← hkn]
    rw [← hkn] at hm
    clear hlt hin hno hinj hvn hkn
    have hzn := blk_lt hbn
    go_enter Try.func25, Try.ntmps25
    go_upto_region 2 with fail
    have ka := al_new w (.cells #[encStr a.n, .int .i64 a.d] 24) rfl
    have hbW : Below w.heap.size w (w.alloc (.cells #[encStr a.n, .int .i64 a.d] 24)) := (Below.refl _ w).alloc (Nat.le_refl _) _
    have hsW : (w.alloc (.cells #[encStr a.n, .int .i64 a.d] 24)).heap.size = w.heap.size + 1 := al_size _ _
    generalize w.alloc (.cells #[encStr a.n, .int .i64 a.d] 24) = W at *
    have hbr := (hbW.block r hzr).trans hb
    have hbn' := (hbW.block n hzn).trans hbn
    have ca := blk_cell ka
    have lk := hE.look key_law links_under (z := .map none) (fun w => Try.zeroValue56 w) a false hbr
    rw [hg] at lk
    simp only [Bool.false_eq_true, if_false, Option.getD_some, encKy] at lk
    have rn := run_range_map (P := Try.prog) set_under hbn'
    have hW2 : Below w.heap.size w (W.alloc (.mapIter (some n) cn #[] cn)) := hbW.alloc hbW.size _
    have hz2 : (W.alloc (.mapIter (some n) cn #[] cn)).heap.size = w.heap.size + 2 := by rw [al_size, hsW]
    have kit := al_new W (.mapIter (some n) cn #[] cn) rfl
    have hb2 := (al_old W (.mapIter (some n) cn #[] cn) (blk_lt hbn')).trans hbn'
    go_upto_block 0 with fail
    clear lk rn ca ka hbr hbW hbn' hb hE hg hv hfn hnr hr
    rw [hsW] at kit
    have hln := keysL_length (L := Ln)
    generalize W.alloc (.mapIter (some n) cn #[] cn) = W2 at *
    clear hsW
    have HEN := Lib.hid hEn
    clear hEn
    go_wp2_with fail
    go_loopw [5] (fun v5 wr => ∃ (dn : List Ky) (left : List (Ky × Value)) (seen : Array Nat), (keysL Ln).Perm (dn ++ keysL left) ∧ LeftE encKy esn seen left ∧ OwnKv wr (w.heap.size + 2) v5 dn ∧ wr.heap[w.heap.size + 1]? = some (.mapIter (some n) cn seen cn) ∧ w.heap.size + 2 ≤ wr.heap.size ∧ Below w.heap.size w wr) (fun v5 _ => Ln.length - sliceLen v5)
    case atStart => exact ⟨[], Ln, #[], List.Perm.refl _, leftE_all HEN.out.1, OwnKv.nil _ _, kit, by omega, hW2⟩
    case round =>
      obtain ⟨dn, left, seen, hp, hleft, hown, hit, hsz, hB⟩ := hrel
      have hbn2 := (hB.block n hzn).trans hbn
      have hlen : Ln.length = dn.length + left.length := by
        have := hp.length_eq
        simpa [keysL] using this
      obtain ⟨A5, c5, rfl, hkr⟩ := hown.row
      rcases HEN.out.next (P := Try.prog) hleft hit hbn2 with ⟨rfl, hnext⟩ | ⟨k, v, left', seen', w1, hpl, hw1, hnext, hleft', hentry⟩
      · have HR := Lib.hid (rowR_perm hp)
        have H := Lib.hid (key_Row dn A5 c5 wr hkr (by have := hp.length_eq; simp [keysL] at this; omega))
        clear hp hleft hown hkr
        go_wp2_with fail
        go_at_call 29
        refine H.out.mono ?_
        rintro e w2 ⟨⟨g, m, N, rfl, ho⟩, hb1⟩
        have HO := Lib.hid (ho.base hB.size)
        have hB2 := hB.trans (hb1.mono hB.size)
        clear ho hb1 hnext hit hbn2
        go_wp2_with fail
        go_ret
        refine ⟨⟨g, m, N, rfl, ?_⟩, hB2⟩
        rw [HR.out, show keysL ([] : List (Ky × Value)) = [] from rfl, List.append_nil]
        exact HO.out
      · have HP := Lib.hid hpl
        have HPP := Lib.hid hp
        have HL := Lib.hid hleft'
        clear hp hpl hleft hleft' hkr
        have hll : left.length = left'.length + 1 := by simpa using HP.out.length_eq
        have hz1 : w1.heap.size = wr.heap.size := by rcases hw1 with rfl | rfl <;> rfl
        have hit1 : w1.heap[w.heap.size + 1]? = some (.mapIter (some n) cn seen cn) := by rcases hw1 with rfl | rfl <;> exact hit
        have hbn3 : (w1.putObj (w.heap.size + 1) (.mapIter (some n) cn seen' cn)).heap[n]? = some (.map esn cn) := (World.putObj_heap_other (by omega)).trans (by rcases hw1 with rfl | rfl <;> exact hbn2)
        have hit2 : (w1.putObj (w.heap.size + 1) (.mapIter (some n) cn seen' cn)).heap[w.heap.size + 1]? = some (.mapIter (some n) cn seen' cn) := World.putObj_heap_same (blk_lt hit1)
        have hgr : w1.grownBy (w1.putObj (w.heap.size + 1) (.mapIter (some n) cn seen' cn)) (some (w.heap.size + 1)) := grownBy_putObj' _ _ _
        have hown1 : OwnKv w1 (w.heap.size + 2) (.slice A5 dn.length c5) dn := by rcases hw1 with rfl | rfl <;> exact hown
        have hB1 : Below w.heap.size w w1 := by
          rcases hw1 with rfl | rfl
          · exact hB
          · exact hB.drew
        have hB2 : Below w.heap.size w (w1.putObj (w.heap.size + 1) (.mapIter (some n) cn seen' cn)) := hB1.grown hgr hB1.size (fun j e => by cases e; omega)
        have hown2 : OwnKv (w1.putObj (w.heap.size + 1) (.mapIter (some n) cn seen' cn)) (w.heap.size + 2) (.slice A5 dn.length c5) dn := hown1.kept hgr (Or.inr (fun e => by have := (hown1.lt _ e).1; omega))
        have hz2' : (w1.putObj (w.heap.size + 1) (.mapIter (some n) cn seen' cn)).heap.size = wr.heap.size := by rw [putObj_size, hz1]
        have en := hentry _ hit2 hbn3
        unfold encKy at en hnext
        clear hentry hown hown1 hB hB1 hgr hit1 hit hbn2
        go_upto_region 4 with fail
        clear hnext
        generalize w1.putObj (w.heap.size + 1) (.mapIter (some n) cn seen' cn) = X at *
        clear hz1 hw1
        go_upto_region 5 with fail
        clear en
        have ky := al_new X (.cells #[encStr k.n, .int .i64 k.d] 24) hz2'.symm
        have hbY : Below X.heap.size X (X.alloc (.cells #[encStr k.n, .int .i64 k.d] 24)) := (Below.refl _ X).alloc (Nat.le_refl _) _
        have hit3 := (hbY.block _ (blk_lt hit2)).trans hit2
        have hown3 := hown2.mono hbY
        have hB3 := hB2.trans (hbY.mono hB2.size)
        have hz3 : (X.alloc (.cells #[encStr k.n, .int .i64 k.d] 24)).heap.size = wr.heap.size + 1 := by rw [al_size, hz2']
        unfold encStr at ky hbY hit3 hown3 hB3 hz3
        generalize X.alloc (.cells #[.string ⟨k.n.toArray⟩, .int .i64 k.d] 24) = Y at *
        have cy := blk_cell ky
        have HZ3 := Lib.hid hz3
        clear hbY hown2 hB2 hit2 hbn3 hz3
        go_wp2_with (at_builtin; go_loud (refine wpList_append_kk rfl _ _ rfl (w.heap.size + 2) _ dn [k] rfl (hown3.mono ((Below.refl _ Y).alloc (Nat.le_refl _) _)) (some ⟨Y.heap.size, 0, none⟩) 1 rfl (fun e => nomatch e) (krow_new k _ _ (al_new Y _ rfl)) ?c1 ?c2 ?_))
        case c1 => simp; omega
        case c2 => rw [al_size]; have := HZ3.out; omega
        · intro v' w' hown' hgrow
          have HO := Lib.hid hown'
          have hz3 := HZ3.out
          have hYa := al_size Y (.cells #[.string ⟨k.n.toArray⟩, .int .i64 k.d] 24)
          have hB4 : Below w.heap.size w w' := Below.grown (hB3.alloc hB3.size (.cells #[.string ⟨k.n.toArray⟩, .int .i64 k.d] 24)) hgrow (by have := hB3.size; omega) (fun j e => by have := (hown3.lt j e).1; omega)
          have hit4 : w'.heap[w.heap.size + 1]? = some (.mapIter (some n) cn seen' cn) := (hgrow.block _ (by have := blk_lt hit3; omega) (fun e => by have := (hown3.lt _ e.symm).1; omega)).trans ((al_old Y _ (blk_lt hit3)).trans hit3)
          have hsz4 : w.heap.size + 2 ≤ w'.heap.size := by have := hgrow.size; omega
          obtain ⟨A6, c6, e6, -⟩ := hown'.row
          clear hown' hgrow hown3 hB3 hit3 cy ky
          subst e6
          go_wp2_with fail
          go_roundw
          case rel =>
            refine ⟨dn ++ [k], left', seen', HPP.out.trans ?_, HL.out, HO.out, hit4, hsz4, hB4⟩
            rw [List.append_assoc]
            exact List.Perm.append_left dn (HP.out.map _)
          case measure => simp [sliceLen]; omega
end Go.Proofs.Ytkmpkhbahmehmaa
