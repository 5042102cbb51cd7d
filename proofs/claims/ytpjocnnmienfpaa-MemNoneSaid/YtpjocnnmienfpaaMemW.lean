/- X-PARTIAL A memory of one array of two places is made: layer 19. -/
import Derived.Test.YtpjocnnmienfpaaMemS
namespace Go.Proofs.Ytpjocnnmienfpaa
open Go.RowKit Go.Lib

set_option maxRecDepth 100000 in
set_option maxHeartbeats 2000000 in
theorem mem_new (w : World) (g : Nat) (hg : w.heap[g]? = some (.cells #[.string ⟨#[97]⟩, .bool false, .int .i64 2, .int .i64 0] 40)) :
    Calls Try.prog 13 #[.agg #[.slice (some ⟨g, 0, none⟩) 1 1, .slice none 0 0]] w fun e w' => (∃ M G D, e = .returned (.pointer (some ⟨M, 0, none⟩)) ∧ MemAt w' M G D #[] 0 ∧ M ≠ D ∧ G ≠ D ∧ w.heap.size ≤ M ∧ w.heap.size ≤ G ∧ w.heap.size ≤ D) ∧ Below w.heap.size w w' := by
  have c0 := blk_cell hg
  have zg := blk_lt hg
  have hmm := @run_makeMap Try.prog
  go_enter Try.func13, Try.ntmps13
  go_wp2_with fail
  have k0 := al_new w (.cells #[.slice (some ⟨g, 0, none⟩) 1 1, .slice none 0 0] 55) rfl
  obtain ⟨W, hW⟩ : ∃ W, (((w.alloc (.cells #[.slice (some ⟨g, 0, none⟩) 1 1, .slice none 0 0] 55)).alloc (.map #[] 0)).alloc (.map #[] 0)).alloc (.cells #[.map (some (w.heap.size + 1)), .map (some (w.heap.size + 1 + 1))] 45) = W := ⟨_, rfl⟩
  have hG : W.heap[w.heap.size + 1]? = some (.map #[] 0) := by
    rw [← hW]; refine ((Below.heap_alloc _ _ _ (by simp)).trans (Below.heap_alloc _ _ _ (by simp))).trans ?_
    have := World.alloc_heap_new (w.alloc (.cells #[.slice (some ⟨g, 0, none⟩) 1 1, .slice none 0 0] 55)) (.map #[] 0); rwa [World.size_alloc] at this
  have hD : W.heap[w.heap.size + 1 + 1]? = some (.map #[] 0) := by
    rw [← hW]; refine (Below.heap_alloc _ _ _ (by simp)).trans ?_
    have := World.alloc_heap_new ((w.alloc (.cells #[.slice (some ⟨g, 0, none⟩) 1 1, .slice none 0 0] 55)).alloc (.map #[] 0)) (.map #[] 0); rwa [World.size_alloc, World.size_alloc] at this
  have hM : W.heap[w.heap.size + 1 + 1 + 1]? = some (.cells #[.map (some (w.heap.size + 1)), .map (some (w.heap.size + 1 + 1))] 45) := by
    rw [← hW]
    have := World.alloc_heap_new (((w.alloc (.cells #[.slice (some ⟨g, 0, none⟩) 1 1, .slice none 0 0] 55)).alloc (.map #[] 0)).alloc (.map #[] 0)) (.cells #[.map (some (w.heap.size + 1)), .map (some (w.heap.size + 1 + 1))] 45); rwa [World.size_alloc, World.size_alloc, World.size_alloc] at this
  have hB : Below w.heap.size w W := by
    rw [← hW]; exact ((((Below.refl _ w).alloc (Nat.le_refl _) _).alloc (by simp) _).alloc (by simp; omega) _).alloc (by simp; omega) _
  rw [hW]
  clear hW k0 c0 hmm
  go_loopw [15] (fun v15 wr => ∃ k : Nat, k ≤ 1 ∧ v15 = .int .i64 k ∧ wr.heap[w.heap.size + 1 + 1 + 1]? = some (.cells #[.map (some (w.heap.size + 1)), .map (some (w.heap.size + 1 + 1))] 45) ∧ wr.heap[w.heap.size + 1 + 1]? = some (.map #[] 0) ∧ wr.heap[w.heap.size + 1]? = some (if k = 0 then .map #[] 0 else .map #[ent0] 1) ∧ Below w.heap.size w wr) (fun v15 _ => 1 - (RowKit.intOf v15).toNat)
  case atStart => exact ⟨0, by omega, rfl, hM, hD, hG, hB⟩
  case round =>
    obtain ⟨k, hk, rfl, hMr, hDr, hGr, hBr⟩ := hrel
    clear hM hD hG hB
    by_cases h0 : k = 0
    · subst h0
      simp only [if_true] at hGr
      have c0 := blk_cell ((hBr.block g zg).trans hg)
      have zgr := Nat.lt_of_lt_of_le zg hBr.size
      have hb1 : Below wr.heap.size wr (wr.alloc (.cells #[.string ⟨#[97]⟩, .bool false, .int .i64 2, .int .i64 0] 40)) := (Below.refl _ wr).alloc (Nat.le_refl _) _
      have kb := al_new wr (.cells #[.string ⟨#[97]⟩, .bool false, .int .i64 2, .int .i64 0] 40) rfl
      have hM1 := (hb1.block _ (blk_lt hMr)).trans hMr
      have hD1 := (hb1.block _ (blk_lt hDr)).trans hDr
      have hG1 := (hb1.block _ (blk_lt hGr)).trans hGr
      have hB1 := hBr.trans (hb1.mono hBr.size)
      go_upto_region 5 with fail
      generalize wr.alloc (.cells #[.string ⟨#[97]⟩, .bool false, .int .i64 2, .int .i64 0] 40) = W1 at *
      have m0 := blk_cell hM1 0
      simp at m0
      have z0 := blk_lt hM1
      have zG := blk_lt hG1
      have b0 := blk_cell kb
      have bz := blk_lt kb
      have HB : Below W1.heap.size W1 W1.drew := (Below.refl _ W1).drew
      refine wp_region_noPanic ?_
      refine wp_region_held_drew (S := fun w' => Below W1.heap.size W1 w') (by kernel_rfl) HB (fun _ => ?_)
      refine take_first 0 20 (.pointer (some ⟨w.heap.size + 1 + 1 + 1, 0, none⟩)) rfl rfl (by kernel_rfl) (by kernel_rfl) (by kernel_rfl) (fun _ _ _ h => h) (by rfl) (fun w' hS => ?_) (by assumption) ?_
      · have hc : ∀ b o, b < W1.heap.size → w'.cell? ⟨b, o, none⟩ = W1.cell? ⟨b, o, none⟩ := fun b o h => hS.cell (p := ⟨b, o, none⟩) h
        go_simp
      (try simp only [Act.put, List.setIfInBounds_toArray, List.set_cons_zero, List.set_cons_succ])
      refine take_first 1 21 (.pointer (some ⟨w.heap.size + 1 + 1 + 1, 0, none⟩)) rfl rfl (by kernel_rfl) (by kernel_rfl) (by kernel_rfl) (fun _ _ _ h => h) (by rfl) (fun w' hS => ?_) (by assumption) ?_
      · have hc : ∀ b o, b < W1.heap.size → w'.cell? ⟨b, o, none⟩ = W1.cell? ⟨b, o, none⟩ := fun b o h => hS.cell (p := ⟨b, o, none⟩) h
        go_simp
      (try simp only [Act.put, List.setIfInBounds_toArray, List.set_cons_zero, List.set_cons_succ])
      refine take_first 2 22 (.pointer (some ⟨w.heap.size + 1 + 1 + 1, 0, none⟩)) rfl rfl (by kernel_rfl) (by kernel_rfl) (by kernel_rfl) (fun _ _ _ h => h) (by rfl) (fun w' hS => ?_) (by assumption) ?_
      · have hc : ∀ b o, b < W1.heap.size → w'.cell? ⟨b, o, none⟩ = W1.cell? ⟨b, o, none⟩ := fun b o h => hS.cell (p := ⟨b, o, none⟩) h
        go_simp
      (try simp only [Act.put, List.setIfInBounds_toArray, List.set_cons_zero, List.set_cons_succ])
      refine take_first 3 23 (.map (some (w.heap.size + 1))) rfl rfl (by kernel_rfl) (by kernel_rfl) (by kernel_rfl) (fun _ _ _ h => h) (by rfl) (fun w' hS => ?_) (by assumption) ?_
      · have hc : ∀ b o, b < W1.heap.size → w'.cell? ⟨b, o, none⟩ = W1.cell? ⟨b, o, none⟩ := fun b o h => hS.cell (p := ⟨b, o, none⟩) h
        go_simp
      (try simp only [Act.put, List.setIfInBounds_toArray, List.set_cons_zero, List.set_cons_succ])
      refine take_first 4 24 (.pointer (some ⟨wr.heap.size, 0, none⟩)) rfl rfl (by kernel_rfl) (by kernel_rfl) (by kernel_rfl) (fun _ _ _ h => h) (by rfl) (fun w' hS => ?_) (by assumption) ?_
      · have hc : ∀ b o, b < W1.heap.size → w'.cell? ⟨b, o, none⟩ = W1.cell? ⟨b, o, none⟩ := fun b o h => hS.cell (p := ⟨b, o, none⟩) h
        go_simp
      (try simp only [Act.put, List.setIfInBounds_toArray, List.set_cons_zero, List.set_cons_succ])
      refine take_first 5 25 (.string ⟨#[97]⟩) rfl rfl (by kernel_rfl) (by kernel_rfl) (by kernel_rfl) (fun _ _ _ h => h) (by rfl) (fun w' hS => ?_) (by assumption) ?_
      · have hc : ∀ b o, b < W1.heap.size → w'.cell? ⟨b, o, none⟩ = W1.cell? ⟨b, o, none⟩ := fun b o h => hS.cell (p := ⟨b, o, none⟩) h
        go_simp
      (try simp only [Act.put, List.setIfInBounds_toArray, List.set_cons_zero, List.set_cons_succ])
      refine take_first 6 26 (.tuple #[.agg #[.string ⟨#[]⟩, .bool false, .int .i64 0, .int .i64 0], .bool false]) rfl rfl (by kernel_rfl) (by kernel_rfl) (by kernel_rfl) (fun _ _ _ h => h) (by rfl) (fun w' hS => ?_) (by assumption) ?_
      · have hc : ∀ b o, b < W1.heap.size → w'.cell? ⟨b, o, none⟩ = W1.cell? ⟨b, o, none⟩ := fun b o h => hS.cell (p := ⟨b, o, none⟩) h
        have l1 := look_miss (w := w') (key := .string ⟨#[97]⟩) true Try.underlying42 ((hS.block _ zG).trans hG1) (check_str Try.underlying9 _) (find_none Try.underlying9) (Try.zeroValue40 w')
        simp only [if_true] at l1
        go_simp
      (try simp only [Act.put, List.setIfInBounds_toArray, List.set_cons_zero, List.set_cons_succ])
      refine take_first 7 19 (.tuple #[.agg #[.string ⟨#[]⟩, .bool false, .int .i64 0, .int .i64 0], .bool false]) rfl rfl (by kernel_rfl) (by kernel_rfl) (by kernel_rfl) (fun _ _ _ h => h) (by rfl) (fun w' hS => ?_) (by assumption) ?_
      · have hc : ∀ b o, b < W1.heap.size → w'.cell? ⟨b, o, none⟩ = W1.cell? ⟨b, o, none⟩ := fun b o h => hS.cell (p := ⟨b, o, none⟩) h
        go_simp
      (try simp only [Act.put, List.setIfInBounds_toArray, List.set_cons_zero, List.set_cons_succ])
      refine take_first 8 27 (.agg #[.string ⟨#[]⟩, .bool false, .int .i64 0, .int .i64 0]) rfl rfl (by kernel_rfl) (by kernel_rfl) (by kernel_rfl) (fun _ _ _ h => h) (by rfl) (fun w' hS => ?_) (by assumption) ?_
      · have hc : ∀ b o, b < W1.heap.size → w'.cell? ⟨b, o, none⟩ = W1.cell? ⟨b, o, none⟩ := fun b o h => hS.cell (p := ⟨b, o, none⟩) h
        go_simp
      (try simp only [Act.put, List.setIfInBounds_toArray, List.set_cons_zero, List.set_cons_succ])
      refine take_first 9 28 (.bool false) rfl rfl (by kernel_rfl) (by kernel_rfl) (by kernel_rfl) (fun _ _ _ h => h) (by rfl) (fun w' hS => ?_) (by assumption) ?_
      · have hc : ∀ b o, b < W1.heap.size → w'.cell? ⟨b, o, none⟩ = W1.cell? ⟨b, o, none⟩ := fun b o h => hS.cell (p := ⟨b, o, none⟩) h
        go_simp
      (try simp only [Act.put, List.setIfInBounds_toArray, List.set_cons_zero, List.set_cons_succ])
      refine wpAnyH_ready (rs := [10]) (by kernel_rfl) (by simp) ?_
      refine AllReadyH.cons rfl (fun K hK => ?_) AllReadyH.nil
      go_simp
      have qn := al_new W1.drew (.cells #[.string ⟨#[]⟩, .bool false, .int .i64 0, .int .i64 0] 40) rfl
      have HBP := HB
      replace HB := Below.alloc HB HB.size (.cells #[.string ⟨#[]⟩, .bool false, .int .i64 0, .int .i64 0] 40)
      refine hK.out _ _ HB (fun _ => ?_)
      clear hK K
      (try simp only [Act.put, List.setIfInBounds_toArray, List.set_cons_zero, List.set_cons_succ])
      have g0 := blk_cell qn
      have f0 := blk_free qn
      refine wpAnyH_ready (rs := [11]) (by kernel_rfl) (by simp) ?_
      refine AllReadyH.cons rfl (fun K hK => ?_) AllReadyH.nil
      go_simp
      refine hK.out _ _ (Below.alloc HBP HBP.size _) (fun hSt => ?_)
      clear hK K
      refine wpAnyH_ready (rs := [12]) (by kernel_rfl) (by simp) ?_
      refine AllReadyH.cons rfl (fun K hK => ?_) AllReadyH.nil
      go_simp
      refine hK.out _ _ (by assumption) (fun _ => ?_)
      clear hK K
      refine wpAnyH_done (by kernel_rfl) (NoPanic.normal ?_) _
      clear g0 f0 qn HB HBP
      go_upto_region 7 with fail
      have hX : Below W1.heap.size W1 (W1.alloc (.cells #[.string ⟨#[]⟩, .bool false, .int .i64 0, .int .i64 0] 40)).drew := ((Below.refl _ W1).alloc (Nat.le_refl _) _).drew
      generalize (W1.alloc (.cells #[.string ⟨#[]⟩, .bool false, .int .i64 0, .int .i64 0] 40)).drew = X at *
      have kx := (hX.block _ bz).trans kb
      have hM2 := (hX.block _ z0).trans hM1
      have hD2 := (hX.block _ (blk_lt hD1)).trans hD1
      have hG2 := (hX.block _ zG).trans hG1
      have hBX := hB1.trans (hX.mono hB1.size)
      have x0 := blk_cell kx
      have xm := blk_cell hM2 0
      simp at xm
      have zx := blk_lt hM2
      have zb := blk_lt kx
      have zGX := blk_lt hG2
      have lst : (Instr.mapUpdate 42 (.map (some (w.heap.size + 1))) (.string ⟨#[97]⟩) (.agg #[.string ⟨#[97]⟩, .bool false, .int .i64 2, .int .i64 0])).run Try.prog X.drew = .ok () (X.drew.putObj (w.heap.size + 1) (.map #[ent0] 1)) :=
        store_new (w := X.drew) Try.underlying42 hG2 (check_str Try.underlying9 _) (find_none Try.underlying9)
      have HM2 := Lib.hid hM2
      have HD2 := Lib.hid hD2
      have HG2 := Lib.hid hG2
      clear hM1 hD1 hG1 hM2 hD2 hG2 kb kx hX m0 z0 zG b0 bz c0 zgr hMr hDr hGr hBr hb1 hB1
      go_region
      clear lst x0 xm
      go_wp2_with fail
      have hg := grownBy_putObj' X.drew (w.heap.size + 1) (.map #[ent0] 1)
      have hs := MapKept.heap_set (w := X.drew) (o' := .map #[ent0] 1) HG2.out
      have hBf : Below w.heap.size w (X.drew.putObj (w.heap.size + 1) (.map #[ent0] 1)) := Below.grown hBX.drew hg hBX.size (fun j e => by cases e; omega)
      go_roundw
      case rel => exact ⟨1, by omega, by go_num, (hs.2 _ (by omega)).trans HM2.out, (hs.2 _ (by omega)).trans HD2.out, by rw [if_neg (by omega)]; exact hs.1, hBf⟩
      case measure => simp [RowKit.intOf]
    · have : k = 1 := by omega
      subst this
      rw [if_neg (by omega)] at hGr
      have H := Lib.hid (show MemAt wr (w.heap.size + 1 + 1 + 1) (w.heap.size + 1) (w.heap.size + 1 + 1) #[] 0 from ⟨hMr, hGr, hDr⟩)
      have HBr := Lib.hid hBr
      clear hMr hDr hGr hBr h0
      go_wp2_with fail
      go_ret
      exact ⟨⟨_, _, _, rfl, H.out, by omega, by omega, by omega, by omega, by omega⟩, HBr.out⟩
end Go.Proofs.Ytpjocnnmienfpaa
