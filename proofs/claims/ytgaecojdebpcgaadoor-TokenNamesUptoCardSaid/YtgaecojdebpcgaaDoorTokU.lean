/- X-PARTIAL Tokens as a text again: layer 10. -/
import Derived.Test.YtgaecojdebpcgaaDoorTokM
import Derived.Test.YtgaecojdebpcgaaDoorJoinLay
import Derived.Laws.OwnMore
import Derived.Deep.OwnRows
namespace Go.Proofs.YtgaecojdebpcgaaDoor
open Go.RowKit Go.Lib

/-- The first k texts, and empty ones behind. -/
def texts (L : List Tok) (k : Nat) : List Value := (L.take k).map (fun x => encStr x.t) ++ List.replicate (L.length - k) (encStr [])
theorem texts_zero (L : List Tok) : texts L 0 = List.replicate L.length (encStr []) := by
  unfold texts; rw [List.take_zero, List.map_nil, List.nil_append, Nat.sub_zero]
theorem texts_len (L : List Tok) {k : Nat} (h : k ≤ L.length) : (texts L k).length = L.length := by
  unfold texts; simp; omega
theorem texts_old (L : List Tok) {k : Nat} (h : k < L.length) : (texts L k)[k]? = some (encStr []) := by
  unfold texts
  rw [List.getElem?_append_right (by simp; omega), List.length_map, List.length_take, Nat.min_eq_left (by omega), Nat.sub_self, List.getElem?_replicate, if_pos (by omega)]
theorem texts_next (L : List Tok) {k : Nat} (h : k < L.length) : (texts L k).set k (encStr L[k].t) = texts L (k + 1) := by
  unfold texts
  rw [List.set_append_right _ _ (by simp; omega), List.take_succ_eq_append_getElem h, List.map_append, List.append_assoc]
  congr 1
  rw [List.length_map, List.length_take, Nat.min_eq_left (by omega), Nat.sub_self]
  obtain ⟨m, hm⟩ : ∃ m, L.length - k = m + 1 := ⟨L.length - k - 1, by omega⟩
  rw [hm, show L.length - (k + 1) = m by omega, List.replicate_succ]
  rfl
theorem texts_all (L : List Tok) : texts L L.length = L.map (fun x => encStr x.t) := by
  unfold texts; rw [List.take_length, Nat.sub_self, List.replicate_zero, List.append_nil]

theorem own_alloc {w : World} {base : Nat} {e : TypeId} {size n : Nat} {v : Value} {xs : List Value} (h : w.ownsRow base e size v n xs) (o : Obj) : (w.alloc o).ownsRow base e size v n xs := by
  refine ⟨h.1, ?_⟩
  rcases h.2 with h' | ⟨g, cap, cur, e, hb', hg, h1⟩
  · exact Or.inl h'
  · exact Or.inr ⟨g, cap, cur, e, hb', by rw [Below.heap_alloc _ _ _ (blk_lt hg)]; exact hg, h1⟩

set_option maxRecDepth 1000000 in
set_option maxHeartbeats 4000000 in
theorem token_Join (L : List Tok) (A : Option Addr) (cp : Nat) (w : World) (hm : L.length ≤ 8796093022208) (hlen : (Lib.join (L.map Tok.t) [32]).length ≤ 140737488355328) (hr : TRow w A L) :
    Calls Tryd.prog 14 #[.slice A L.length cp] w fun e w' => e = .returned (encStr (Lib.join (L.map Tok.t) [32])) ∧ Below w.heap.size w w' := by
  have hmk := run_make_row' (P := Tryd.prog) 45 9 (.string ⟨#[]⟩) 16 Tryd.underlying45 (by kernel_rfl) rfl .i64 .i64 L.length (by omega) (by omega)
  go_enter Tryd.func14, Tryd.ntmps14
  go_wp2_with fail
  go_loopw [11] (fun v11 wr => ∃ k : Nat, k ≤ L.length ∧ v11 = .int .i64 k ∧ Below w.heap.size w wr ∧ wr.ownsRow w.heap.size 9 1 (.slice (some ⟨w.heap.size, 0, none⟩) L.length L.length) L.length (texts L k)) (fun v11 _ => L.length - (RowKit.intOf v11).toNat)
  case atStart =>
    refine ⟨0, Nat.zero_le _, rfl, ?_, ?_⟩
    · exact (Below.refl _ w).alloc (Nat.le_refl _) _
    · rw [texts_zero, ← toList_madeCells_one]
      exact World.ownsRow_lit w _ L.length (Nat.le_refl _) (by unfold maxLen; omega) (by rw [size_madeCells, Nat.mul_one])
  case round =>
    obtain ⟨k, hk, rfl, hB, hown⟩ := hrel
    have HB := Lib.hid hB
    have HOW := Lib.hid hown
    by_cases hlt : k < L.length
    · have ik : (k : Int) < L.length := by omega
      obtain ⟨a, o, he, c0, c1, c2, c3, hz⟩ := (hr.mono hB).cell hlt
      cases he
      have hg : w.heap.size < wr.heap.size := (hown.lt _ rfl).2
      have d0 := hown.cellAt k (by omega)
      rw [texts_old L hlt] at d0
      have df := hown.frozenAt k
      have hN := Lib.hid (texts_next L hlt)
      clear hr hB hown hlen hmk
      generalize L[k].k = x0 at *
      generalize L[k].t = x1 at *
      generalize L[k].n = x2 at *
      generalize L[k].at_ = x3 at *
      go_wp2_with fail
      go_roundw
      case rel =>
        refine ⟨k + 1, by omega, by go_num, ?_, ?_⟩
        · exact (HB.out.setCell (Nat.le_refl _) _).alloc (HB.out.setCell (p := ⟨w.heap.size, k, none⟩) (Nat.le_refl _) (.string ⟨x1.toArray⟩)).size _
        · have h1 := (HOW.out.stored k (.string ⟨x1.toArray⟩)).1
          rw [show (Value.string ⟨x1.toArray⟩) = encStr x1 from rfl, hN.out] at h1
          exact own_alloc h1 _
      case measure => simp [RowKit.intOf]; omega
    · have ik : ¬ (k : Int) < L.length := by omega
      have e : k = L.length := by omega
      subst e
      have hc := hown.cellAt
      have hg : w.heap.size < wr.heap.size := (hown.lt _ rfl).2
      rw [texts_all] at hc
      have HJ := Lib.hid (strings_Join w.heap.size L.length (L.map Tok.t) wr (fun j x hx => by
        have hj : j < L.length := by
          have := (List.getElem?_eq_some_iff.1 hx).1
          rwa [List.length_map] at this
        rw [hc j (by omega)]
        rw [List.getElem?_map] at hx ⊢
        obtain ⟨y, hy, rfl⟩ := Option.map_eq_some_iff.1 hx
        rw [hy]; rfl) hg (by rw [List.length_map]; omega) (by rw [List.length_map]; exact Nat.le_refl _) hlen)
      rw [List.length_map] at HJ
      clear hr hB hown hlen hmk hc HOW
      go_wp2_with fail
      go_at_call 23
      refine HJ.out.mono ?_
      rintro e w1 ⟨rfl, hb1⟩
      have hB := HB.out.trans (hb1.mono HB.out.size)
      clear HJ HB hb1
      go_wp2_with fail
      go_ret
      exact ⟨rfl, hB⟩
end Go.Proofs.YtgaecojdebpcgaaDoor
