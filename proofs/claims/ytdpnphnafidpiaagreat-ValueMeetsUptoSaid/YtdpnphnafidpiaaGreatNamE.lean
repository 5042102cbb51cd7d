/- What names.row returns: layer 7. -/
import Derived.Test.YtdpnphnafidpiaaGreatNamD
namespace Go.Proofs.YtdpnphnafidpiaaGreat
open Go.RowKit

theorem OwnS.set {w : World} {base g n cap : Nat} {q : List Str} (h : OwnS w base (.slice (some ⟨g, 0, none⟩) n cap) q) (i : Nat) (x : Str) :
    OwnS (w.setCell ⟨g, i, none⟩ (encStr x)) base (.slice (some ⟨g, 0, none⟩) n cap) (q.set i x) := by
  rcases h.2 with ⟨h0, _⟩ | ⟨g', cap', cur, e, hb, hg, h1, h2, h3, h4⟩
  · cases h0
  · cases e
    refine ⟨by simp, Or.inr ⟨g, cap, cur.setIfInBounds i (encStr x), by rw [List.length_set], hb, by simp [World.setCell, Array.getElem?_modify, hg], by rw [List.length_set]; exact h1, h2, by simpa using h3, ?_⟩⟩
    rw [Array.toList_setIfInBounds, List.take_set, List.length_set, h4, List.map_set]
theorem OwnS.spot {w : World} {base : Nat} {A : Option Addr} {n c : Nat} {l : List Str} (h : OwnS w base (.slice A n c) l) : ∀ a, A = some a → a.spot = none := by
  intro a e
  subst e
  rcases h.2 with ⟨h0, _⟩ | ⟨g', cap', cur, e, _⟩
  · cases h0
  · cases e; rfl
theorem OwnS.at {w : World} {base g n cap : Nat} {q : List Str} (h : OwnS w base (.slice (some ⟨g, 0, none⟩) n cap) q) {k : Nat} (hk : k < q.length) : w.cell? ⟨g, k, none⟩ = some (encStr q[k]) := by
  obtain ⟨A, c, e, _, _, hr, _⟩ := h.row
  cases e
  obtain ⟨b, o, e, hc, _⟩ := hr.cell hk
  cases e
  simpa using hc
theorem OwnS.free {w : World} {base g n cap : Nat} {q : List Str} (h : OwnS w base (.slice (some ⟨g, 0, none⟩) n cap) q) (o : Nat) : w.frozen? ⟨g, o, none⟩ = false ∧ g < w.heap.size := by
  rcases h.2 with ⟨h0, _⟩ | ⟨g', cap', cur, e, hb, hg, h1, h2, h3, h4⟩
  · cases h0
  · cases e
    exact ⟨by simp [World.frozen?, hg], blk_lt hg⟩

/-- The row q as the loop over ms has left it behind k rounds. -/
def RowQ (ms q : List Str) (k : Nat) : Prop := q.length = ms.length ∧ q.take (dd (ms.take k)).length = dd (ms.take k) ∧ q.drop k = ms.drop k
theorem RowQ.start (ms : List Str) : RowQ ms ms 0 := ⟨rfl, rfl, rfl⟩
theorem dd_take (ms : List Str) (k : Nat) (h : k < ms.length) : dd (ms.take (k + 1)) = ddF (dd (ms.take k)) ms[k] := by rw [take_snoc' ms k h, dd_snoc]
theorem dd_take_len (ms : List Str) (k : Nat) : (dd (ms.take k)).length ≤ k := by
  have := dd_len (ms.take k)
  rw [List.length_take] at this
  omega
theorem RowQ.get {ms q : List Str} {k : Nat} (h : RowQ ms q k) (hk : k < ms.length) : ∃ hq : k < q.length, q[k] = ms[k] := by
  obtain ⟨h1, _, h3⟩ := h
  refine ⟨by omega, ?_⟩
  have e : (q.drop k)[0]? = (ms.drop k)[0]? := by rw [h3]
  simp only [List.getElem?_drop, Nat.add_zero] at e
  rw [List.getElem?_eq_getElem (by omega), List.getElem?_eq_getElem hk] at e
  exact Option.some.inj e
theorem RowQ.last {ms q : List Str} {k m : Nat} (h : RowQ ms q k) (hk : k ≤ ms.length) (hm : (dd (ms.take k)).length = m + 1) : ∃ hq : m < q.length, (dd (ms.take k)).getLast? = some q[m] := by
  obtain ⟨h1, h2, _⟩ := h
  have hl := dd_take_len ms k
  refine ⟨by omega, ?_⟩
  rw [List.getLast?_eq_getElem?, hm]
  have e : (q.take (dd (ms.take k)).length)[m]? = (dd (ms.take k))[m]? := by rw [h2]
  rw [List.getElem?_take_of_lt (by omega), List.getElem?_eq_getElem (by omega)] at e
  simpa using e.symm
theorem RowQ.skip {ms q : List Str} {k : Nat} (h : RowQ ms q k) (_hk : k < ms.length) (he : dd (ms.take (k + 1)) = dd (ms.take k)) : RowQ ms q (k + 1) := by
  obtain ⟨h1, h2, h3⟩ := h
  refine ⟨h1, by rw [he]; exact h2, ?_⟩
  rw [← List.drop_drop, ← List.drop_drop, h3]
theorem RowQ.put {ms q : List Str} {k : Nat} (h : RowQ ms q k) (hk : k < ms.length) (he : dd (ms.take (k + 1)) = dd (ms.take k) ++ [ms[k]]) : RowQ ms (q.set (dd (ms.take k)).length ms[k]) (k + 1) := by
  obtain ⟨h1, h2, h3⟩ := h
  have hl := dd_take_len ms k
  refine ⟨by simpa using h1, ?_, ?_⟩
  · rw [he, List.length_append, List.length_singleton, take_snoc' _ _ (by rw [List.length_set]; omega)]
    congr 1
    · rw [List.take_set_of_le (Nat.le_refl _), h2]
    · simp
  · rw [List.drop_set_of_lt (by omega), ← List.drop_drop, ← List.drop_drop, h3]
end Go.Proofs.YtdpnphnafidpiaaGreat
