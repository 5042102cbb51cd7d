/- X-PARTIAL slices.Compact of two keys that are the same: layer 26. -/
import Derived.Test.YtkmpkhbahmehmaaKeySort
namespace Go.Proofs.Ytkmpkhbahmehmaa
open Go.RowKit Go.Lib

theorem zero_kcells (n : Nat) : (Builtin.zeroCells #[Value.string ⟨#[]⟩, .int .i64 0] n).toList = kcells (List.replicate n ⟨[], 0⟩) := by
  apply List.ext_getElem?
  intro t
  by_cases ht : t < n * 2
  · obtain ⟨g0, g1⟩ := kcells_get (List.replicate n ⟨[], 0⟩) (t / 2) (by simp; omega)
    have e : (Builtin.zeroCells #[Value.string ⟨#[]⟩, .int .i64 0] n).toList[t]? = some (#[Value.string ⟨#[]⟩, .int .i64 0][t % 2]!) := by
      unfold Builtin.zeroCells
      rw [Array.getElem?_toList, Array.getElem?_eq_getElem (by simpa using ht)]
      simp
    rw [e]
    rcases Nat.mod_two_eq_zero_or_one t with h | h
    · rw [h]; rw [show t / 2 * 2 = t by omega] at g0; rw [g0, List.getElem_replicate]; rfl
    · rw [h]; rw [show t / 2 * 2 + 1 = t by omega] at g1; rw [g1, List.getElem_replicate]; rfl
  · rw [List.getElem?_eq_none (by simp [Builtin.zeroCells]; omega), List.getElem?_eq_none (by rw [kcells_len]; simp; omega)]

theorem run_clear_keys (w : World) (b o n c : Nat) (hn : 0 < n) (hc : ∀ j, j < n * 2 → (w.cell? ⟨b, o + j, none⟩).isSome = true) (hf : ∀ j, j < n * 2 → w.frozen? ⟨b, o + j, none⟩ = false) (ty : TypeId) :
    (Builtin.clear_ #[30] ty #[.slice (some ⟨b, o, none⟩) n c]).run Try.prog w = .ok (.tuple #[]) (w.setCells b o (kcells (List.replicate n ⟨[], 0⟩))) := by
  have hst := run_storeCells_cells (P := Try.prog) b o (kcells (List.replicate n ⟨[], 0⟩)) 0 w (by rw [kcells_len, List.length_replicate]; simpa using hc) (by rw [kcells_len, List.length_replicate]; simpa using hf) (by
    intro v hv
    clear hc hf
    induction n with
    | zero => cases hv
    | succ n ih =>
      rw [List.replicate_succ] at hv
      rcases List.mem_cons.1 hv with rfl | hv
      · rfl
      · rcases List.mem_cons.1 hv with rfl | hv
        · rfl
        · cases n with
          | zero => cases hv
          | succ n => exact ih (by omega) hv)
  simp only [Nat.add_zero] at hst
  have hz : ∀ W, (zeroValue 24).run Try.prog W = .ok (.agg #[.string ⟨#[]⟩, .int .i64 0]) W := Try.zeroValue24
  have hzc := zero_kcells n
  obtain ⟨m, rfl⟩ : ∃ m, n = m + 1 := ⟨n - 1, by omega⟩
  simp [Builtin.clear_, run_underlying Try.underlying30, hz, hzc, hst, Value.cells]

theorem grownBy_sets (g : Nat) : ∀ (vs : List Value) (o : Nat) (w : World), w.grownBy (w.setCells g o vs) (some g)
  | [], _, w => ⟨rfl, rfl, rfl, Nat.le_refl _, fun _ _ _ => rfl⟩
  | v :: r, o, w => by
    have h := grownBy_sets g r (o + 1) (w.setCell ⟨g, o, none⟩ v)
    have hs := h.size
    rw [World.size_setCell] at hs
    refine ⟨h.os, h.tape, h.output, hs, fun k hk hne => ?_⟩
    have h1 := h.block k (by simpa using hk) hne
    have h2 : (w.setCells g o (v :: r)).heap[k]? = (w.setCell ⟨g, o, none⟩ v).heap[k]? := h1
    rw [h2]
    exact Below.heap_setCell w ⟨g, o, none⟩ v k (fun e => hne (by rw [e]))

set_option maxRecDepth 100000 in
set_option maxHeartbeats 4000000 in
theorem key_compact2 (x : Ky) (g cap base : Nat) (w : World) (hc : 2 ≤ cap) (hown : w.ownsRow base 24 2 (.slice (some ⟨g, 0, none⟩) 2 cap) 2 (kcells [x, x])) :
    Calls Try.prog 38 #[.slice (some ⟨g, 0, none⟩) 2 cap] w fun e w' => e = .returned (.slice (some ⟨g, 0, none⟩) 1 cap) ∧ w.grownBy w' (some g) := by
  have c0 : w.cell? ⟨g, 0, none⟩ = some (encStr x.n) := by rw [hown.cellAt 0 (by omega)]; rfl
  have c1 : w.cell? ⟨g, 1, none⟩ = some (.int .i64 x.d) := by rw [hown.cellAt 1 (by omega)]; rfl
  have c2 : w.cell? ⟨g, 2, none⟩ = some (encStr x.n) := by rw [hown.cellAt 2 (by omega)]; rfl
  have c3 : w.cell? ⟨g, 3, none⟩ = some (.int .i64 x.d) := by rw [hown.cellAt 3 (by omega)]; rfl
  have f2 := hown.frozenAt 2
  have f3 := hown.frozenAt 3
  have hg := (hown.lt g rfl).2
  clear hown
  obtain ⟨n, d⟩ := x
  dsimp only at c0 c1 c2 c3
  have hcl := run_clear_keys w.drew g 2 1 (cap - 1) (by omega) (fun j hj => by
    rcases (by omega : j = 0 ∨ j = 1) with rfl | rfl
    · exact (show (w.cell? ⟨g, 2, none⟩).isSome = true by rw [c2]; rfl)
    · exact (show (w.cell? ⟨g, 3, none⟩).isSome = true by rw [c3]; rfl)) (fun j hj => by
    rcases (by omega : j = 0 ∨ j = 1) with rfl | rfl
    · exact f2
    · exact f3)
  have hgd := grownBy_sets g (kcells (List.replicate 1 ⟨[], 0⟩)) 2 w.drew
  have hgw : w.grownBy (w.drew.setCells g 2 (kcells (List.replicate 1 ⟨[], 0⟩))) (some g) := ⟨hgd.os, hgd.tape, hgd.output, hgd.size, hgd.block⟩
  clear hgd
  go_enter Try.func38, Try.ntmps38
  go_wp2_with fail
  refine wp_loop_rounds 1 ?_
  rw [rounds_succ]
  go_wp2_with fail
  go_region
  go_wp2_with fail
  refine wp_loop_rounds 1 ?_
  rw [rounds_succ]
  go_wp2_with (simp only [hcl])
  go_ret
  exact ⟨rfl, hgw⟩
end Go.Proofs.Ytkmpkhbahmehmaa
