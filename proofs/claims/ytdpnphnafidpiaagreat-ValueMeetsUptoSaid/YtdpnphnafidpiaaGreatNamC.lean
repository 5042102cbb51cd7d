/- Rows of strings that the call itself makes; appending to them: layer 7. -/
import Derived.Test.YtdpnphnafidpiaaGreatNamB
import Derived.Maps.AppendAt
import Derived.Laws.AppendOwnNone
import Derived.Sort.OwnSorted
import Derived.OneCell
namespace Go.Proofs.YtdpnphnafidpiaaGreat
open Go.RowKit

theorem info_str : (Tryz.prog.info? 9).map (fun i => (i.zero, i.size, i.bytes)) = some (some (.string ⟨#[]⟩), 1, 16) := by kernel_rfl
theorem info_three {P : Program} {t : TypeId} {z : Value} {s b : Nat} (h : (P.info? t).map (fun i => (i.zero, i.size, i.bytes)) = some (some z, s, b)) : ∃ i, P.info? t = some i ∧ i.zero = some z ∧ i.size = s ∧ i.bytes = b := by
  cases hi : P.info? t with
  | none => rw [hi] at h; simp at h
  | some i =>
    rw [hi] at h
    simp only [Option.map_some, Option.some.injEq, Prod.mk.injEq] at h
    exact ⟨i, rfl, h.1, h.2.1, h.2.2⟩
/-- The value v is a row of the call's own (blocks from 'base' on) that holds these strings. -/
def OwnS (w : World) (base : Nat) (v : Value) (l : List Str) : Prop := w.ownsRow base 9 1 v l.length (l.map encStr)
theorem OwnS.nil (w : World) (base : Nat) : OwnS w base (.slice none 0 0) [] := World.ownsRow_nil _ _ _ _
theorem OwnS.row {w : World} {base : Nat} {v : Value} {l : List Str} (h : OwnS w base v l) : ∃ (A : Option Addr) (c : Nat), v = .slice A l.length c ∧ l.length ≤ c ∧ c ≤ 9223372036854775807 ∧ SRow w A l ∧ (A = none → c = 0) := by
  rcases h.2 with ⟨rfl, hn⟩ | ⟨g, cap, cur, rfl, hb, hg, h1, h2, h3, h4⟩
  · have : l = [] := List.eq_nil_of_length_eq_zero hn
    subst this
    exact ⟨none, 0, rfl, Nat.le_refl _, by omega, rfl, fun _ => rfl⟩
  · refine ⟨some ⟨g, 0, none⟩, cap, rfl, h1, by unfold maxLen at h2; omega, fun i hi => ?_, fun e => by cases e⟩
    have hh : w.ownsRow base 9 1 (.slice (some ⟨g, 0, none⟩) l.length cap) l.length (l.map encStr) := h
    have e : ∀ j, (⟨g, 0, none⟩ : Addr).add j = ⟨g, 0 + j, none⟩ := by
      intro j; unfold Addr.add; split
      · next h => subst h; rfl
      · rfl
    rw [e, Nat.zero_add, hh.cellAt _ (by simpa using hi)]
    exact List.getElem?_eq_getElem hi
theorem OwnS.mono {w w' : World} {base : Nat} {v : Value} {l : List Str} (h : OwnS w base v l) (hb : Below w.heap.size w w') : OwnS w' base v l := by
  refine ⟨h.1, ?_⟩
  rcases h.2 with h' | ⟨g, cap, cur, e, hb', hg, h1⟩
  · exact Or.inl h'
  · exact Or.inr ⟨g, cap, cur, e, hb', by rw [hb.block g (blk_lt hg)]; exact hg, h1⟩
theorem OwnS.lt {w : World} {base : Nat} {v : Value} {l : List Str} (h : OwnS w base v l) : ∀ k, v.ownBlock = some k → base ≤ k ∧ k < w.heap.size := World.ownsRow.lt h
theorem OwnS.base {w : World} {b b' : Nat} {v : Value} {l : List Str} (h : OwnS w b v l) (hb : b' ≤ b) : OwnS w b' v l := by
  refine ⟨h.1, ?_⟩
  rcases h.2 with h' | ⟨g, cap, cur, e, hb', hg, h1⟩
  · exact Or.inl h'
  · exact Or.inr ⟨g, cap, cur, e, Nat.le_trans hb hb', hg, h1⟩

theorem run_append_ss {w : World} (ty : TypeId) (base : Nat) (v : Value) (l m : List Str) (hown : OwnS w base v l) (A : Option Addr) (c : Nat) (hz : A = none → c = 0) (hm : SRow w A m)
    (hlen : (l.length + m.length) * 16 ≤ 140737488355328) (hbase : base ≤ w.heap.size) :
    ∃ v' w', (Builtin.append_ #[26, 26] ty #[v, .slice A m.length c]).run Tryz.prog w = .ok v' w' ∧ OwnS w' base v' (l ++ m) ∧ w.grownBy w' v.ownBlock ∧ (v'.ownBlock = v.ownBlock ∨ v'.ownBlock = some w.heap.size) := by
  obtain ⟨i0, gi, gz0, gz1, gz2⟩ := info_three info_str
  cases A with
  | none =>
    have hm0 : m = [] := by
      have : m.map encStr = [] := hm
      simpa using this
    subst hm0
    rw [hz rfl]
    refine ⟨v, w, run_append_owned_none (P := Tryz.prog) (w := w) base 26 ty 9 i0 1 Tryz.underlying26 gi v l.length _ hown, by rw [List.append_nil]; exact hown, World.grownBy.refl w _, Or.inl rfl⟩
  | some ad =>
    obtain ⟨v', w', hr, h2, h3, _, h5⟩ := run_append_own_at (P := Tryz.prog) w base 26 ty 9 i0 _ 1 16 Tryz.underlying26 gi gz0 gz1 gz2 rfl (by decide) v l.length (l.map encStr) hown ad m.length c (m.map encStr) (by simp) (by
      intro j u hj
      have hj' : j < (m.map encStr).length := by
        rcases Nat.lt_or_ge j (m.map encStr).length with h | h
        · exact h
        · rw [List.getElem?_eq_none h] at hj; cases hj
      have := hm j hj'
      rw [List.getElem?_eq_getElem hj'] at hj
      rw [this, hj]) (by intro u hu; obtain ⟨s, _, rfl⟩ := List.mem_map.1 hu; rfl) (by unfold maxLen; omega) hlen hbase
    refine ⟨v', w', hr, ?_, h3, h5⟩
    unfold OwnS
    rw [List.length_append, List.map_append]
    exact h2
theorem wpList_append_ss {w : World} {ops : Array Oper} {rest : List Oper} {o : Oper} {a : Act} {Q : Exit → Act → World → Prop} (hgd : o.guard = none) (s x : Operand)
    (ho : o.op = .call { callee := .builtin .append, args := #[s, x], argTypes := #[26, 26] })
    (base : Nat) (v : Value) (l m : List Str) (hs : a.eval s = v) (hown : OwnS w base v l) (A : Option Addr) (c : Nat) (hx : a.eval x = .slice A m.length c) (hz : A = none → c = 0) (hm : SRow w A m)
    (hlen : (l.length + m.length) * 16 ≤ 140737488355328) (hbase : base ≤ w.heap.size)
    (h : ∀ v' w', OwnS w' base v' (l ++ m) → w.grownBy w' v.ownBlock → (v'.ownBlock = v.ownBlock ∨ v'.ownBlock = some w.heap.size) → wpList Tryz.prog ops Q rest (a.put o.dst v') w') :
    wpList Tryz.prog ops Q (o :: rest) a w := by
  refine wpList_plain hgd fun K hK => ?_
  obtain ⟨v', w', hr, h2, h3, h4⟩ := run_append_ss o.type base v l m hown A c hz hm hlen hbase
  unfold Oper.wp execOp
  simp only [ho, resolve, invoke, builtin, Sem.run_bind, Sem.run_pure, Result.andThen_ok, List.map_toArray, List.map_cons, List.map_nil, hs, hx, hr]
  exact hK _ _ (h v' w' h2 h3 h4)
theorem wp_append_ss {w : World} {o : Oper} {a : Act} {K : Act → World → Prop} {Q : Exit → Act → World → Prop} (s x : Operand)
    (ho : o.op = .call { callee := .builtin .append, args := #[s, x], argTypes := #[26, 26] })
    (base : Nat) (v : Value) (l m : List Str) (hs : a.eval s = v) (hown : OwnS w base v l) (A : Option Addr) (c : Nat) (hx : a.eval x = .slice A m.length c) (hz : A = none → c = 0) (hm : SRow w A m)
    (hlen : (l.length + m.length) * 16 ≤ 140737488355328) (hbase : base ≤ w.heap.size)
    (h : ∀ v' w', OwnS w' base v' (l ++ m) → w.grownBy w' v.ownBlock → (v'.ownBlock = v.ownBlock ∨ v'.ownBlock = some w.heap.size) → K (a.put o.dst v') w') :
    Oper.wp Tryz.prog o a w K Q := by
  obtain ⟨v', w', hr, h2, h3, h4⟩ := run_append_ss o.type base v l m hown A c hz hm hlen hbase
  unfold Oper.wp execOp
  simp only [ho, resolve, invoke, builtin, Sem.run_bind, Sem.run_pure, Result.andThen_ok, List.map_toArray, List.map_cons, List.map_nil, hs, hx, hr]
  exact h v' w' h2 h3 h4
end Go.Proofs.YtdpnphnafidpiaaGreat
