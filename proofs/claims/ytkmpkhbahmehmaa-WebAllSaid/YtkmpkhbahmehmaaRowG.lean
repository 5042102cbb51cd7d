/- Rows of structs of any type: read, owned, appended to. General: over any program. -/
import Derived.Test.YtkmpkhbahmehmaaTouch
import Derived.Maps.AppendAt
import Derived.Laws.Append
import Derived.Laws.OwnMore
import Derived.WalkKit
namespace Go.Proofs.Ytkmpkhbahmehmaa
open Go.RowKit

theorem add_none (b o i : Nat) : (⟨b, o, none⟩ : Addr).add i = ⟨b, o + i, none⟩ := by
  unfold Addr.add
  split
  · next h => subst h; rfl
  · rfl
section
variable {α : Type}
/-- The cells of a row of structs. -/
def gcells (enc : α → List Value) (l : List α) : List Value := l.flatMap enc
/-- A row of structs in a slice value: n cells each. -/
def GRow (enc : α → List Value) (n : Nat) (w : World) (A : Option Addr) (l : List α) : Prop :=
  ∀ j, (hj : j < l.length) → ∃ b o : Nat, A = some ⟨b, o, none⟩ ∧ b < w.heap.size ∧ ∀ i, i < n → w.cell? ⟨b, o + j * n + i, none⟩ = (enc l[j])[i]?
/-- A row of structs of the call's own, nil too. -/
def OwnG (enc : α → List Value) (n : Nat) (T : TypeId) (w : World) (base : Nat) (v : Value) (l : List α) : Prop := w.ownsRow base T n v l.length (gcells enc l)

variable {enc : α → List Value} {n : Nat} {T : TypeId}
theorem gcells_len (hn : ∀ x, (enc x).length = n) : ∀ l : List α, (gcells enc l).length = l.length * n
  | [] => by simp [gcells]
  | x :: l => by
    have ih := gcells_len hn l
    unfold gcells at *
    rw [List.flatMap_cons, List.length_append, ih, hn, List.length_cons, Nat.add_mul, Nat.one_mul, Nat.add_comm]
theorem gcells_append (l m : List α) : gcells enc (l ++ m) = gcells enc l ++ gcells enc m := by simp [gcells]
theorem gcells_get (hn : ∀ x, (enc x).length = n) : ∀ (l : List α) (j : Nat) (hj : j < l.length) (i : Nat), i < n → (gcells enc l)[j * n + i]? = (enc l[j])[i]?
  | x :: l, 0, _, i, hi => by
    show (enc x ++ gcells enc l)[0 * n + i]? = _
    rw [Nat.zero_mul, Nat.zero_add, List.getElem?_append_left (by rw [hn]; exact hi)]
    rfl
  | x :: l, j + 1, hj, i, hi => by
    show (enc x ++ gcells enc l)[(j + 1) * n + i]? = _
    rw [List.getElem?_append_right (by rw [hn, Nat.add_mul, Nat.one_mul]; omega), hn, show (j + 1) * n + i - n = j * n + i by rw [Nat.add_mul, Nat.one_mul]; omega]
    exact gcells_get hn l j (by simpa using hj) i hi
theorem gcells_get? (hn : ∀ x, (enc x).length = n) (hp : 0 < n) (l : List α) (j : Nat) (u : Value) (h : (gcells enc l)[j]? = some u) : ∃ i, ∃ hi : i < l.length, ∃ k, k < n ∧ j = i * n + k ∧ (enc l[i])[k]? = some u := by
  have hj : j < (gcells enc l).length := by
    rcases Nat.lt_or_ge j (gcells enc l).length with h' | h'
    · exact h'
    · rw [List.getElem?_eq_none h'] at h; cases h
  rw [gcells_len hn] at hj
  have hi : j / n < l.length := Nat.div_lt_of_lt_mul (by rwa [Nat.mul_comm])
  have hk : j % n < n := Nat.mod_lt _ hp
  have e : j = j / n * n + j % n := by rw [Nat.mul_comm]; exact (Nat.div_add_mod j n).symm
  refine ⟨j / n, hi, j % n, hk, e, ?_⟩
  rw [← gcells_get hn l _ hi _ hk, ← e, h]

theorem GRow.nil (A : Option Addr) (w : World) : GRow enc n w A [] := fun j hj => absurd hj (by simp)
theorem GRow.mono {w w' : World} {A : Option Addr} {l : List α} (h : GRow enc n w A l) {B : Nat} (hb : Below B w w') (hB : w.heap.size ≤ B) : GRow enc n w' A l := fun j hj => by
  obtain ⟨b, o, e, hz, hc⟩ := h j hj
  exact ⟨b, o, e, Nat.lt_of_lt_of_le hz hb.size, fun i hi => (hb.cell (p := ⟨b, _, none⟩) (Nat.lt_of_lt_of_le hz hB)).trans (hc i hi)⟩
theorem GRow.below {w w' : World} {A : Option Addr} {l : List α} (h : GRow enc n w A l) (hb : Below w.heap.size w w') : GRow enc n w' A l := h.mono hb (Nat.le_refl _)
theorem GRow.touch {fp : Nat → Prop} {w w' : World} {A : Option Addr} {l : List α} (h : GRow enc n w A l) (ht : Touch fp w w') (hn : ∀ a, A = some a → ¬ fp a.block) : GRow enc n w' A l := fun j hj => by
  obtain ⟨b, o, e, hz, hc⟩ := h j hj
  have hb := ht.block b hz (hn _ e)
  exact ⟨b, o, e, Nat.lt_of_lt_of_le hz ht.size, fun i hi => (World.cell?_of_block (w := w) hb).trans (hc i hi)⟩
theorem GRow.new {w : World} {b : Nat} {x : α} {C : Array Value} {t : TypeId} (h : w.heap[b]? = some (.cells C t)) (he : C.toList = enc x) : GRow enc n w (some ⟨b, 0, none⟩) [x] := fun j hj => by
  have hj0 : j = 0 := by simp at hj; omega
  subst hj0
  have hlt : b < w.heap.size := by
    rcases Nat.lt_or_ge b w.heap.size with h' | h'
    · exact h'
    · rw [Array.getElem?_eq_none h'] at h; cases h
  refine ⟨b, 0, rfl, hlt, fun i _ => ?_⟩
  show _ = (enc x)[i]?
  rw [← he]
  simp [World.cell?, h]

theorem OwnG.nil (w : World) (base : Nat) : OwnG enc n T w base (.slice none 0 0) [] := World.ownsRow_nil _ _ _ _
theorem OwnG.mono {w w' : World} {base : Nat} {v : Value} {l : List α} (h : OwnG enc n T w base v l) (hb : Below w.heap.size w w') : OwnG enc n T w' base v l := by
  refine ⟨h.1, ?_⟩
  rcases h.2 with h' | ⟨g, cap, cur, e, hb', hg, h1⟩
  · exact Or.inl h'
  · exact Or.inr ⟨g, cap, cur, e, hb', by rw [hb.block g (by
      rcases Nat.lt_or_ge g w.heap.size with h' | h'
      · exact h'
      · rw [Array.getElem?_eq_none h'] at hg; cases hg)]; exact hg, h1⟩
theorem OwnG.touch {fp : Nat → Prop} {w w' : World} {base : Nat} {v : Value} {l : List α} (h : OwnG enc n T w base v l) (ht : Touch fp w w') (hn : ∀ k, v.ownBlock = some k → ¬ fp k) : OwnG enc n T w' base v l := by
  refine ⟨h.1, ?_⟩
  rcases h.2 with h' | ⟨g, cap, cur, rfl, hb', hg, h1⟩
  · exact Or.inl h'
  · exact Or.inr ⟨g, cap, cur, rfl, hb', by rw [ht.block g (by
      rcases Nat.lt_or_ge g w.heap.size with h' | h'
      · exact h'
      · rw [Array.getElem?_eq_none h'] at hg; cases hg) (hn g rfl)]; exact hg, h1⟩
theorem OwnG.base {w : World} {b b' : Nat} {v : Value} {l : List α} (h : OwnG enc n T w b v l) (hb : b' ≤ b) : OwnG enc n T w b' v l := by
  refine ⟨h.1, ?_⟩
  rcases h.2 with h' | ⟨g, cap, cur, e, hb', hg, h1⟩
  · exact Or.inl h'
  · exact Or.inr ⟨g, cap, cur, e, Nat.le_trans hb hb', hg, h1⟩
theorem OwnG.lt {w : World} {base : Nat} {v : Value} {l : List α} (h : OwnG enc n T w base v l) : ∀ k, v.ownBlock = some k → base ≤ k ∧ k < w.heap.size := World.ownsRow.lt h
/-- What an own row is: a slice value, its row, where it lies. -/
theorem OwnG.row {w : World} {base : Nat} {v : Value} {l : List α} (hn : ∀ x, (enc x).length = n) (h : OwnG enc n T w base v l) : ∃ (A : Option Addr) (c : Nat), v = .slice A l.length c ∧ GRow enc n w A l ∧ (∀ a, A = some a → base ≤ a.block ∧ a.block < w.heap.size) ∧ (A = none → c = 0) := by
  have hlt := h.lt
  rcases h.2 with ⟨rfl, hl⟩ | ⟨g, cap, cur, rfl, hb, hg, h1, h2, h3, h4⟩
  · have : l = [] := List.eq_nil_of_length_eq_zero hl
    subst this
    exact ⟨none, 0, rfl, GRow.nil _ _, fun a e => (by cases e), fun _ => rfl⟩
  · have hz := (hlt g rfl)
    refine ⟨_, cap, rfl, fun j hj => ⟨g, 0, rfl, hz.2, fun i hi => ?_⟩, fun a e => by cases e; exact hz, fun e => (by cases e)⟩
    have hc := World.ownsRow.cells (g := g) h rfl (j * n + i)
    have hx := gcells_get (n := n) hn l j hj i hi
    have hlt2 : i < (enc l[j]).length := by rw [hn]; exact hi
    rw [List.getElem?_eq_getElem hlt2] at hx ⊢
    have := hc _ hx
    rw [add_none, ← Nat.add_assoc] at this
    exact this

variable {P : Program} {tS : TypeId}
/-- What is asked of an element's type. -/
structure GType (P : Program) (tS T : TypeId) (n bytes : Nat) : Prop where
  slice : P.underlying tS = some (.slice T)
  info : ∃ i z, P.info? T = some i ∧ i.zero = some z ∧ i.size = n ∧ i.bytes = bytes ∧ z.cells.size = n
  pos : 0 < n
theorem gtype_of {tS T : TypeId} {n bytes : Nat} {z : Value} (hs : P.underlying tS = some (.slice T)) (hi : (P.info? T).map (fun i => (i.zero, i.size, i.bytes)) = some (some z, n, bytes)) (hz : z.cells.size = n) (hp : 0 < n) : GType P tS T n bytes := by
  cases h : P.info? T with
  | none => rw [h] at hi; cases hi
  | some i =>
    rw [h] at hi
    simp only [Option.map_some, Option.some.injEq, Prod.mk.injEq] at hi
    exact ⟨hs, ⟨i, z, h, hi.1, hi.2.1, hi.2.2, hz⟩, hp⟩

theorem wpList_append_g {bytes : Nat} {w : World} {ops : Array Oper} {rest : List Oper} {o : Oper} {a : Act} {Q : Exit → Act → World → Prop} (G : GType P tS T n bytes) (hn : ∀ x, (enc x).length = n) (ho1 : ∀ x, ∀ u ∈ enc x, u.oneCell' = true) (hgd : o.guard = none) (s x : Operand)
    (ho : o.op = .call { callee := .builtin .append, args := #[s, x], argTypes := #[tS, tS] })
    (base : Nat) (v : Value) (l m : List α) (hs : a.eval s = v) (hown : OwnG enc n T w base v l) (g c : Nat) (hx : a.eval x = .slice (some ⟨g, 0, none⟩) m.length c) (hm : GRow enc n w (some ⟨g, 0, none⟩) m)
    (hlen : (l.length + m.length) * bytes ≤ 140737488355328) (h63 : l.length + m.length ≤ maxLen) (hbase : base ≤ w.heap.size)
    (h : ∀ v' w', OwnG enc n T w' base v' (l ++ m) → w.grownBy w' v.ownBlock → wpList P ops Q rest (a.put o.dst v') w') :
    wpList P ops Q (o :: rest) a w := by
  obtain ⟨i0, z0, gi, gz0, gz1, gz2, gz3⟩ := G.info
  refine wpList_append_own_at w hgd s x tS ho base T i0 z0 n bytes G.slice gi gz0 gz1 gz2 gz3 G.pos v l.length (gcells enc l) hs hown ⟨g, 0, none⟩ m.length c (gcells enc m) hx (gcells_len hn m) ?_ ?_ h63 hlen hbase ?_
  · intro j u hj
    obtain ⟨i, hi, k, hk, rfl, hu⟩ := gcells_get? hn G.pos m j u hj
    obtain ⟨b, o', e, _, hc⟩ := hm i hi
    cases e
    have := hc k hk
    rw [hu] at this
    rw [add_none]
    rw [Nat.zero_add] at this ⊢
    exact this
  · intro u hu
    obtain ⟨y, _, hy⟩ := List.mem_flatMap.1 hu
    exact ho1 y u hy
  · intro v' w' h1 h2 _ _
    refine h v' w' ?_ h2
    unfold OwnG
    rw [List.length_append, gcells_append]
    exact h1
end
end Go.Proofs.Ytkmpkhbahmehmaa
