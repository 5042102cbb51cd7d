/- X-PARTIAL Appending rows of keys: layer 26. -/
import Derived.Test.YtkmpkhbahmehmaaKeyX
import Derived.Laws.Append
namespace Go.Proofs.Ytkmpkhbahmehmaa
open Go.RowKit Go.Lib

theorem kcells_get? (l : List Ky) : ∀ (j : Nat) (u : Value), (kcells l)[j]? = some u → ∃ i, ∃ h : i < l.length, (j = i * 2 ∧ u = encStr l[i].n) ∨ (j = i * 2 + 1 ∧ u = .int .i64 l[i].d) := by
  intro j u hu
  have hj : j < (kcells l).length := by
    rcases Nat.lt_or_ge j (kcells l).length with h | h
    · exact h
    · rw [List.getElem?_eq_none h] at hu; cases hu
  rw [kcells_len] at hj
  have hi : j / 2 < l.length := by omega
  obtain ⟨g0, g1⟩ := kcells_get l (j / 2) hi
  refine ⟨j / 2, hi, ?_⟩
  rcases Nat.mod_two_eq_zero_or_one j with h | h
  · left
    rw [show j / 2 * 2 = j by omega, hu] at g0
    exact ⟨by omega, Option.some.inj g0⟩
  · right
    rw [show j / 2 * 2 + 1 = j by omega, hu] at g1
    exact ⟨by omega, Option.some.inj g1⟩
theorem kcells_one : ∀ (l : List Ky), ∀ u ∈ kcells l, u.oneCell' = true := by
  intro l u hu
  obtain ⟨j, hj⟩ := List.mem_iff_getElem?.1 hu
  obtain ⟨i, h, ⟨_, rfl⟩ | ⟨_, rfl⟩⟩ := kcells_get? l j u hj <;> rfl

theorem addr_add (b o i : Nat) : (⟨b, o, none⟩ : Addr).add i = ⟨b, o + i, none⟩ := by
  unfold Addr.add
  split
  · next h => subst h; rfl
  · rfl

theorem run_append_kk {w : World} (ty : TypeId) (base : Nat) (v : Value) (l m : List Ky) (hown : OwnKv w base v l) (A : Option Addr) (c : Nat) (hz : A = none → c = 0) (hm : KRow w A m)
    (hlen : (l.length + m.length) * 24 ≤ 140737488355328) (hbase : base ≤ w.heap.size) :
    ∃ v' w', (Builtin.append_ #[30, 30] ty #[v, .slice A m.length c]).run Try.prog w = .ok v' w' ∧ OwnKv w' base v' (l ++ m) ∧ w.grownBy w' v.ownBlock := by
  obtain ⟨i0, gi, gz0, gz1, gz2⟩ := info_parts info_key
  cases A with
  | none =>
    have hm0 : m = [] := by
      cases m with
      | nil => rfl
      | cons x m =>
        obtain ⟨b, o, e, _⟩ := hm 0 (by simp)
        cases e
    subst hm0
    rw [hz rfl]
    refine ⟨v, w, run_append_owned_none (P := Try.prog) (w := w) base 30 ty 24 i0 2 Try.underlying30 gi v l.length _ hown, by rw [List.append_nil]; exact hown, World.grownBy.refl w _⟩
  | some ad =>
    obtain ⟨v', w', hr, h2, h3, _, h5⟩ := run_append_own_at (P := Try.prog) w base 30 ty 24 i0 _ 2 24 Try.underlying30 gi gz0 gz1 gz2 rfl (by decide) v l.length (kcells l) hown ad m.length c (kcells m) (kcells_len m) (by
      intro j u hj
      obtain ⟨i, h, hh⟩ := kcells_get? m j u hj
      obtain ⟨b, o, e, _, c0, c1⟩ := hm i h
      cases e
      rcases hh with ⟨rfl, rfl⟩ | ⟨rfl, rfl⟩
      · rw [addr_add]; exact c0
      · rw [addr_add]; exact c1) (kcells_one m) (by unfold maxLen; omega) hlen hbase
    refine ⟨v', w', hr, ?_, h3⟩
    unfold OwnKv
    rw [List.length_append, kcells_append]
    exact h2
theorem wpList_append_kk {w : World} {ops : Array Oper} {rest : List Oper} {o : Oper} {a : Act} {Q : Exit → Act → World → Prop} (hgd : o.guard = none) (s x : Operand)
    (ho : o.op = .call { callee := .builtin .append, args := #[s, x], argTypes := #[30, 30] })
    (base : Nat) (v : Value) (l m : List Ky) (hs : a.eval s = v) (hown : OwnKv w base v l) (A : Option Addr) (c : Nat) (hx : a.eval x = .slice A m.length c) (hz : A = none → c = 0) (hm : KRow w A m)
    (hlen : (l.length + m.length) * 24 ≤ 140737488355328) (hbase : base ≤ w.heap.size)
    (h : ∀ v' w', OwnKv w' base v' (l ++ m) → w.grownBy w' v.ownBlock → wpList Try.prog ops Q rest (a.put o.dst v') w') :
    wpList Try.prog ops Q (o :: rest) a w := by
  refine wpList_plain hgd fun K hK => ?_
  obtain ⟨v', w', hr, h2, h3⟩ := run_append_kk o.type base v l m hown A c hz hm hlen hbase
  unfold Oper.wp execOp
  simp only [ho, resolve, invoke, builtin, Sem.run_bind, Sem.run_pure, Result.andThen_ok, List.map_toArray, List.map_cons, List.map_nil, hs, hx, hr]
  exact hK _ _ (h v' w' h2 h3)

end Go.Proofs.Ytkmpkhbahmehmaa
