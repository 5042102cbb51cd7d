/- X-PARTIAL Going through two lists of keys: the iterator: layer 26. -/
import Derived.RangeFuncNested
import Derived.RangeFuncBound
import Derived.RangeFuncCalls
import Derived.RangeFuncLeaves
import Derived.RangeFuncBox
import Derived.Shelf.Abstract
import Derived.Shelf.RegionOpen
import Derived.WalkKit
import Derived.OwnWalkIn
import Derived.TacticsInMore
import Derived.LoopNIn
import Derived.LoopIn
import Derived.Maps.AppendAt
import Derived.Test.YtkmpkhbahmehmaaKeyC
namespace Go.Proofs.Ytkmpkhbahmehmaa
open Go.RowKit Go.Shelf

attribute [local go_sem] Oper.semAt_some

/-- What lies in blocks other than two is kept. -/
def Kept (x g : Nat) (W W' : World) : Prop := W.heap.size ≤ W'.heap.size ∧ ∀ p v, p.block ≠ x → p.block ≠ g → W.cell? p = some v → W'.cell? p = some v
theorem Kept.refl (x g : Nat) (W : World) : Kept x g W W := ⟨Nat.le_refl _, fun _ _ _ _ h => h⟩
theorem Kept.trans {x g : Nat} {A B C : World} (h : Kept x g A B) (k : Kept x g B C) : Kept x g A C := ⟨Nat.le_trans h.1 k.1, fun p v h1 h2 hv => k.2 p v h1 h2 (h.2 p v h1 h2 hv)⟩
theorem Kept.below {x g : Nat} {A B : World} (h : Below A.heap.size A B) : Kept x g A B :=
  ⟨h.size, fun p v _ _ hv => by
    by_cases hp : p.block < A.heap.size
    · rw [h.cell hp]; exact hv
    · exfalso
      have : A.heap[p.block]? = none := Array.getElem?_eq_none (by omega)
      rw [World.cell?, this] at hv
      cases hv⟩
theorem below_grown {A B : World} (h : Below A.heap.size A B) : A.grownBy B none := ⟨h.os, h.tape, h.output, h.size, fun k hk _ => h.block k hk⟩

/-- A row of keys in a slice, in a block other than two. -/
def KRowE (x g : Nat) (w : World) (A : Option Addr) (l : List Ky) : Prop :=
  ∀ j, (h : j < l.length) → ∃ b o : Nat, A = some ⟨b, o, none⟩ ∧ b ≠ x ∧ b ≠ g ∧ w.cell? ⟨b, o + j * 2, none⟩ = some (encStr l[j].n) ∧ w.cell? ⟨b, o + j * 2 + 1, none⟩ = some (.int .i64 l[j].d)
theorem KRowE.kept {x g : Nat} {w w' : World} {A : Option Addr} {l : List Ky} (h : KRowE x g w A l) (hk : Kept x g w w') : KRowE x g w' A l := fun j hj => by
  obtain ⟨b, o, e, h1, h2, h3, h4⟩ := h j hj
  exact ⟨b, o, e, h1, h2, hk.2 _ _ h1 h2 h3, hk.2 _ _ h1 h2 h4⟩

theorem both_in (A B : Option Addr) (la lb ca cb : Nat) (w : World) :
    Calls Try.prog 35 #[.slice A la ca, .slice B lb cb] w fun e w' => e = .returned (.func (.func 39) #[] #[.pointer (some ⟨w.heap.size, 0, none⟩), .pointer (some ⟨w.heap.size + 1, 0, none⟩)]) ∧ w' = (w.alloc (.cells #[.slice A la ca] 30)).alloc (.cells #[.slice B lb cb] 30) := by
  go_enter Try.func35, Try.ntmps35
  go_wp2_with fail
  go_ret
  exact ⟨rfl, rfl⟩

def prefK (la lb : List Ky) : Nat → List Ky
  | 0 => []
  | 1 => la.map Ky.cl
  | _ => (la ++ lb).map Ky.cl

set_option maxRecDepth 100000 in
set_option maxHeartbeats 4000000 in
theorem both1_in (l B1 B2 x g : Nat) (la lb : List Ky) (A B : Option Addr) (ca cb : Nat) (J Jx : List Ky → World → Prop) (W : World) (hJ : AbidesFrom W.heap.size J)
    (hY : ∀ pre k W1, J pre W1 → pre.length < la.length + lb.length → YieldAt Fence.wide 1 Try.prog l #[.agg #[encStr k.n, .int .i64 k.d]] W1 fun e W' =>
      (e = .returned (.bool true) ∧ J (pre ++ [k]) W' ∧ Kept x g W1 W') ∨ (e = .returned (.bool false) ∧ Jx (pre ++ [k]) W'))
    (hx : x < W.heap.size) (hg : g < W.heap.size) (hm : la.length ≤ 140737488355328 ∧ lb.length ≤ 140737488355328)
    (h1 : W.cell? ⟨B1, 0, none⟩ = some (.slice A la.length ca)) (h2 : W.cell? ⟨B2, 0, none⟩ = some (.slice B lb.length cb)) (hra : KRowE x g W A la) (hrb : KRowE x g W B lb) (h0 : J [] W) :
    CallsIn Fence.wide 2 Try.prog 39 #[.func (.yield l) #[] #[], .pointer (some ⟨B1, 0, none⟩), .pointer (some ⟨B2, 0, none⟩)] W fun e W' => (∃ v, e = .returned v) ∧
      ((∃ ys, ys = (la ++ lb).map Ky.cl ∧ J ys W') ∨ (∃ pre : List Ky, True ∧ Jx pre W')) := by
  refine callsIn_of_wp Try.func39 rfl trivial ?_ rfl
  simp only [Try.ntmps39, List.size_toArray, List.length_cons, List.length_nil, Nat.reduceAdd, Nat.reduceSub, Array.replicate_succ, Array.replicate_zero, List.push_toArray, List.append_toArray, List.nil_append, List.cons_append]
  gi_wp2
  have hJB : ∀ pre X Y, J pre X → Below X.heap.size X Y → J pre Y := fun pre X Y hj hb => hJ pre X Y none hj (below_grown hb) (fun r e => by cases e)
  have hW0 : Below W.heap.size W (W.alloc (.cells #[.slice A la.length ca, .slice B lb.length cb] 30)) := (Below.refl _ W).alloc (Nat.le_refl _) _
  have q0 : (W.alloc (.cells #[.slice A la.length ca, .slice B lb.length cb] 30)).cell? ⟨W.heap.size, 0, none⟩ = some (.slice A la.length ca) := by simp [go_sem]
  have q1 : (W.alloc (.cells #[.slice A la.length ca, .slice B lb.length cb] 30)).cell? ⟨W.heap.size, 1, none⟩ = some (.slice B lb.length cb) := by simp [go_sem]
  have j0 := hJB [] _ _ h0 hW0
  generalize hWW : W.alloc (.cells #[.slice A la.length ca, .slice B lb.length cb] 30) = W0 at *
  have hxs : W.heap.size ≠ x := by omega
  have hgs : W.heap.size ≠ g := by omega
  -- what an outer round reads
  have hrow : ∀ i : Nat, i < 2 → ∃ (cur : List Ky) (A' : Option Addr) (c' : Nat), W0.cell? ⟨W.heap.size, i, none⟩ = some (.slice A' cur.length c') ∧ KRowE x g W0 A' cur ∧ prefK la lb (i + 1) = prefK la lb i ++ cur.map Ky.cl ∧
      (prefK la lb i).length + cur.length ≤ la.length + lb.length ∧ cur.length ≤ 140737488355328 := by
    intro i hi
    match i, hi with
    | 0, _ => exact ⟨la, A, ca, q0, hra.kept (Kept.below hW0), rfl, by simp [prefK], hm.1⟩
    | 1, _ => exact ⟨lb, B, cb, q1, hrb.kept (Kept.below hW0), by simp [prefK], by simp [prefK], hm.2⟩
  have HJB := Lib.hid hJB
  have HROW := Lib.hid hrow
  have HY := Lib.hid hY
  clear hJB hrow hra hrb h0 q0 q1 hWW hW0 hY hJ h1 h2 hx hg hm
  gi_loopw [12] (fun v12 wr => ∃ i : Nat, i ≤ 2 ∧ v12 = .int .i64 i ∧ J (prefK la lb i) wr ∧ Kept x g W0 wr) (fun v12 _ => 2 - (intOf v12).toNat)
  case atStart => exact ⟨0, by omega, rfl, j0, Kept.refl _ _ _⟩
  case round =>
    obtain ⟨i, hi, rfl, hj, hk⟩ := hrel
    by_cases hlt : i < 2
    · have ii : (i : Int) < 2 := by omega
      obtain ⟨cur, A', c', hc, hr, hp, hlen, hcl⟩ := HROW.out i hlt
      have hc' := hk.2 _ _ hxs hgs hc
      have HR := Lib.hid hr
      have HP := Lib.hid hp
      clear hr hp hc
      gi_wp2
      gi_loopw [18] (fun v18 ws => ∃ j : Nat, j ≤ cur.length ∧ v18 = .int .i64 j ∧ J (prefK la lb i ++ (cur.take j).map Ky.cl) ws ∧ Kept x g W0 ws) (fun v18 _ => cur.length - (intOf v18).toNat)
      case atStart => exact ⟨0, Nat.zero_le _, rfl, by simpa using hj, hk⟩
      case round =>
        obtain ⟨j, hjl, rfl, hjj, hkj⟩ := hrel
        by_cases hlj : j < cur.length
        · have ij : (j : Int) < cur.length := by omega
          obtain ⟨b, o, he, hb1, hb2, c0, c1⟩ := (HR.out.kept hkj) j hlj
          cases he
          have hjn : prefK la lb i ++ (cur.take (j + 1)).map Ky.cl = (prefK la lb i ++ (cur.take j).map Ky.cl) ++ [cur[j].cl] := by
            rw [List.take_succ_eq_append_getElem hlj, List.map_append, ← List.append_assoc]; rfl
          have HJN := Lib.hid hjn
          have hpl : (prefK la lb i ++ (cur.take j).map Ky.cl).length < la.length + lb.length := by
            rw [List.length_append, List.length_map, List.length_take]; omega
          have HC := Lib.hid (key_Clean cur[j])
          clear hjn hj hk hc'
          generalize prefK la lb i ++ (cur.take j).map Ky.cl = pre at *
          generalize cur[j] = kk at *
          gi_wp2_with (refine ⟨trivial, ?_⟩; gi_at_call 26; refine (callsIn_wide.2 (HC.out _)).mono ?_; rintro e w1 ⟨rfl, hb⟩)
          have hbw : Below wr.heap.size wr w1 := ((Below.refl _ wr).alloc (Nat.le_refl _) _).trans (hb.mono (by simp))
          have hj1 := HJB.out _ _ _ hjj hbw
          obtain ⟨fn, tmps, assign, body, hy, hR⟩ := HY.out pre kk.cl w1 hj1 hpl
          have HR2 := Lib.hid hR
          clear hb HC hj1 hR
          rw [hy]
          gi_wp2
          refine HR2.out.mono ?_
          rintro e W3 (⟨rfl, hJ3, hk3⟩ | ⟨rfl, hJx3⟩)
          · have HJ3 := Lib.hid hJ3
            have HK3 := Lib.hid hk3
            clear hJ3 hk3 hy HR2
            gi_wp2
            go_roundw
            case rel => exact ⟨j + 1, by omega, by go_num, by rw [HJN.out]; exact HJ3.out, hkj.trans ((Kept.below hbw).trans HK3.out)⟩
            case measure => simp [intOf]; omega
          · clear hy HR2
            gi_wp2
            refine bodyPost_ret (results_none rfl _ _ _) rfl ?_
            exact ⟨⟨_, rfl⟩, .inr ⟨_, trivial, hJx3⟩⟩
        · have ij : ¬ (j : Int) < cur.length := by omega
          have e : j = cur.length := by omega
          subst e
          rw [List.take_length, ← HP.out] at hjj
          clear hj hk hc'
          gi_wp2
          go_roundw
          case rel => exact ⟨i + 1, by omega, by go_num, hjj, hkj⟩
          case measure => simp [intOf]; omega
    · have ii : ¬ (i : Int) < 2 := by omega
      have e : i = 2 := by omega
      subst e
      gi_wp2
      go_end0
      exact ⟨⟨_, rfl⟩, .inl (by simpa [prefK] using hj)⟩
end Go.Proofs.Ytkmpkhbahmehmaa
