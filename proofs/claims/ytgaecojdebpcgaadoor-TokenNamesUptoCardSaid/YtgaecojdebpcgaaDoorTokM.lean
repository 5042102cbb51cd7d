/- X-PARTIAL Rows of tokens, bytes as a text: layer 10. -/
import Derived.Test.YtgaecojdebpcgaaDoorTokJ
import Derived.Test.YtgaecojdebpcgaaDoorRow
import Derived.Test.YtgaecojdebpcgaaDoorAlloc
import Derived.Maps.AppendAt
import Derived.Laws.BytesArg
namespace Go.Proofs.YtgaecojdebpcgaaDoor
open Go.RowKit Go.Lib

/-- A token. -/
structure Tok where
  k : Int
  t : Str
  n : Int
  at_ : Int
def Tok.c (x : Tok) : List Value := [.int .i64 x.k, encStr x.t, .int .i64 x.n, .int .i64 x.at_]
def tcells : List Tok → List Value
  | [] => []
  | x :: l => .int .i64 x.k :: encStr x.t :: .int .i64 x.n :: .int .i64 x.at_ :: tcells l
theorem tcells_append (l m : List Tok) : tcells (l ++ m) = tcells l ++ tcells m := by
  induction l with
  | nil => rfl
  | cons x l ih => show _ :: _ :: _ :: _ :: tcells (l ++ m) = _; rw [ih]; rfl
theorem tcells_len : ∀ l : List Tok, (tcells l).length = l.length * 4
  | [] => rfl
  | x :: l => by
    have := tcells_len l
    show (tcells l).length + 1 + 1 + 1 + 1 = (l.length + 1) * 4
    omega
theorem tcells_get : ∀ (l : List Tok) (i : Nat) (h : i < l.length), (tcells l)[i * 4]? = some (.int .i64 l[i].k) ∧ (tcells l)[i * 4 + 1]? = some (encStr l[i].t) ∧ (tcells l)[i * 4 + 2]? = some (.int .i64 l[i].n) ∧ (tcells l)[i * 4 + 3]? = some (.int .i64 l[i].at_)
  | x :: l, 0, _ => ⟨rfl, rfl, rfl, rfl⟩
  | x :: l, i + 1, h => by
    have := tcells_get l i (by simpa using h)
    rw [show (i + 1) * 4 = i * 4 + 1 + 1 + 1 + 1 by omega]
    exact this

/-- The slice value at 'A' reads as the tokens 'l'. -/
def TRow (w : World) (A : Option Addr) (l : List Tok) : Prop := Row w A (tcells l)
theorem TRow.mono {w w' : World} {A : Option Addr} {l : List Tok} (h : TRow w A l) (hb : Below w.heap.size w w') : TRow w' A l := Row.mono h hb
theorem TRow.cell {w : World} {A : Option Addr} {l : List Tok} (h : TRow w A l) {k : Nat} (hk : k < l.length) :
    ∃ b o : Nat, A = some ⟨b, o, none⟩ ∧ w.cell? ⟨b, o + k * 4, none⟩ = some (.int .i64 l[k].k) ∧ w.cell? ⟨b, o + k * 4 + 1, none⟩ = some (encStr l[k].t) ∧ w.cell? ⟨b, o + k * 4 + 2, none⟩ = some (.int .i64 l[k].n) ∧ w.cell? ⟨b, o + k * 4 + 3, none⟩ = some (.int .i64 l[k].at_) ∧ b < w.heap.size := by
  have hl := tcells_len l
  obtain ⟨b, o, e, h1, h2⟩ := Row.cell h (k := k * 4) (by omega)
  obtain ⟨g1, g2, g3, g4⟩ := tcells_get l k hk
  have cc : ∀ j v, (tcells l)[j]? = some v → w.cell? ⟨b, o + j, none⟩ = some v := fun j v hj => by
    obtain ⟨hj', e'⟩ := List.getElem?_eq_some_iff.1 hj
    rw [h1 j hj', e']
  exact ⟨b, o, e, cc _ _ g1, by rw [Nat.add_assoc]; exact cc _ _ g2, by rw [Nat.add_assoc]; exact cc _ _ g3, by rw [Nat.add_assoc]; exact cc _ _ g4, h2⟩

/-- The value v is a row of the call's own (blocks from 'base' on) that holds these tokens. -/
def OwnT (w : World) (base : Nat) (v : Value) (l : List Tok) : Prop := w.ownsRow base 37 4 v l.length (tcells l)
theorem OwnT.nil (w : World) (base : Nat) : OwnT w base (.slice none 0 0) [] := World.ownsRow_nil _ _ _ _
theorem OwnT.row {w : World} {base : Nat} {v : Value} {l : List Tok} (h : OwnT w base v l) : ∃ (A : Option Addr) (c : Nat), v = .slice A l.length c ∧ l.length ≤ c ∧ c ≤ 9223372036854775807 ∧ TRow w A l := by
  rcases h.2 with ⟨rfl, hn⟩ | ⟨g, cap, cur, rfl, hb, hg, h1, h2, h3, h4⟩
  · have : l = [] := List.eq_nil_of_length_eq_zero hn
    subst this
    exact ⟨none, 0, rfl, Nat.le_refl _, by omega, rfl⟩
  · refine ⟨some ⟨g, 0, none⟩, cap, rfl, h1, by unfold maxLen at h2; omega, fun i hi => ?_⟩
    have hh : w.ownsRow base 37 4 (.slice (some ⟨g, 0, none⟩) l.length cap) l.length (tcells l) := h
    have e : (⟨g, 0, none⟩ : Addr).add i = ⟨g, 0 + i, none⟩ := by
      unfold Addr.add; split
      · next h => subst h; rfl
      · rfl
    have hl := tcells_len l
    rw [e, Nat.zero_add, hh.cellAt _ (by omega)]
    exact List.getElem?_eq_getElem hi
theorem OwnT.mono {w w' : World} {base : Nat} {v : Value} {l : List Tok} (h : OwnT w base v l) (hb : Below w.heap.size w w') : OwnT w' base v l := by
  refine ⟨h.1, ?_⟩
  rcases h.2 with h' | ⟨g, cap, cur, e, hb', hg, h1⟩
  · exact Or.inl h'
  · exact Or.inr ⟨g, cap, cur, e, hb', by rw [hb.block g (blk_lt hg)]; exact hg, h1⟩
theorem OwnT.lt {w : World} {base : Nat} {v : Value} {l : List Tok} (h : OwnT w base v l) : ∀ k, v.ownBlock = some k → base ≤ k ∧ k < w.heap.size := World.ownsRow.lt h
theorem OwnT.snoc {w : World} {base : Nat} {v : Value} {l : List Tok} {x : Tok} (h : w.ownsRow base 37 4 v (l.length + 1) (tcells l ++ [.int .i64 x.k, encStr x.t, .int .i64 x.n, .int .i64 x.at_])) : OwnT w base v (l ++ [x]) := by
  unfold OwnT
  rw [List.length_append, tcells_append]
  exact h

theorem info_tok : (Tryd.prog.info? 37).map (fun i => (i.zero, i.size, i.bytes)) = some (some (.agg #[.int .i64 0, .string ⟨#[]⟩, .int .i64 0, .int .i64 0]), 4, 40) := by kernel_rfl

/-- A slice of bytes that reads as a text. -/
def BRow (w : World) (A : Option Addr) (l : Str) : Prop := Row w A (l.map fun c => Value.int .u8 c.toNat)
theorem BRow.mono {w w' : World} {A : Option Addr} {l : Str} (h : BRow w A l) (hb : Below w.heap.size w w') : BRow w' A l := Row.mono h hb
theorem nums_bytes (l : Str) : strOfNums (l.map fun c => (c.toNat : Int)) = ⟨l.toArray⟩ := by
  unfold strOfNums
  rw [List.map_map]
  have : ((fun n : Int => UInt8.ofNat n.toNat) ∘ fun c : UInt8 => (c.toNat : Int)) = id := by funext c; simp
  rw [this, List.map_id]
theorem conv_bytes {w : World} {A : Option Addr} {l : Str} (h : BRow w A l) (c : Nat) :
    (convert 22 9 (.slice A l.length c)).run Tryd.prog w = .ok (encStr l) w := by
  cases A with
  | none =>
    have : l = [] := by
      have h' : (l.map fun c => Value.int .u8 c.toNat) = [] := h
      simpa using h'
    subst this
    exact run_convert_bytes_nil w 22 5 Tryd.underlying22 Tryd.underlying5 0 c 9 Tryd.underlying9
  | some a =>
    by_cases hl : l = []
    · subst hl
      have e : (loadCells a 0).run Tryd.prog w = .ok (([] : List Int).map (Value.int .u8)).toArray w := by
        simpa using run_loadCells_list (P := Tryd.prog) w a [] (by simp)
      show (convert 22 9 (.slice (some a) 0 c)).run Tryd.prog w = _
      rw [run_convert_bytes_string w 22 9 5 (some a) 0 c Tryd.underlying22 Tryd.underlying5 Tryd.underlying9, run_bytesToString w a 0 c [] e]
      rfl
    · have hpos : 0 < l.length := List.length_pos_iff.2 hl
      obtain ⟨b, o, e, h1, -⟩ := Row.cell h (k := 0) (by simpa using hpos)
      cases e
      have hx := run_convert_bytes_arg w 22 5 Tryd.underlying22 Tryd.underlying5 b o l.length c (l.map fun c => (c.toNat : Int)) (by simp) (fun i hi => by
        rw [h1 i (by simpa using hi), List.getD_eq_getElem?_getD, List.getElem?_map, List.getElem?_eq_getElem hi, List.getElem_map]
        rfl) 9 Tryd.underlying9
      rw [hx, nums_bytes]
end Go.Proofs.YtgaecojdebpcgaaDoor
