/- X-PARTIAL A memory of one array of two places: what lies in it: layer 19. -/
import Derived.Test.YtpjocnnmienfpaaMemA
import Derived.Test.YtpjocnnmienfpaaAlloc
import Derived.Test.YtpjocnnmienfpaaSeqg
import Derived.Test.YtpjocnnmienfpaaGrow
import Derived.Deep.Cut
import Derived.Deep.CutBlock
import Derived.BigCall
namespace Go.Proofs.Ytpjocnnmienfpaa
open Go.RowKit Go.Lib

def glob : Value := .agg #[.string ⟨#[97]⟩, .bool false, .int .i64 2, .int .i64 0]
def ent0 : MapEntry := { key := .string ⟨#[97]⟩, val := glob, born := 0 }
def MemAt (w : World) (M G D : Nat) (es : Array MapEntry) (clk : Nat) : Prop :=
  w.heap[M]? = some (.cells #[.map (some G), .map (some D)] 45) ∧ w.heap[G]? = some (.map #[ent0] 1) ∧ w.heap[D]? = some (.map es clk)
theorem MemAt.mono {w w' : World} {M G D : Nat} {es : Array MapEntry} {clk : Nat} (h : MemAt w M G D es clk) (hb : Below w.heap.size w w') : MemAt w' M G D es clk :=
  ⟨(hb.block M (Array.getElem?_eq_some_iff.1 h.1).1).trans h.1, (hb.block G (Array.getElem?_eq_some_iff.1 h.2.1).1).trans h.2.1, (hb.block D (Array.getElem?_eq_some_iff.1 h.2.2).1).trans h.2.2⟩

theorem look_glob (ok : Bool) {w : World} {M G D : Nat} {es : Array MapEntry} {clk : Nat} (h : MemAt w M G D es clk) :
    (Instr.lookup 42 (.map (some G)) (.string ⟨#[97]⟩) ok).run Try.prog w = .ok (if ok then .tuple #[glob, .bool true] else glob) w :=
  look_hit ok Try.underlying42 h.2.1 (check_str Try.underlying9 _) (find_str_hit (n := 0) Try.underlying9)

theorem field_ptr (w : World) : (Instr.field 40 glob 1).run Try.prog w = .ok (.bool false) w := by kernel_rfl

set_option maxRecDepth 100000 in
theorem mem_places (w : World) : Calls Try.prog 11 #[glob] w fun e w' => e = .returned (.int .i64 2) ∧ Below w.heap.size w w' := by
  unfold glob
  go_enter Try.func11, Try.ntmps11
  go_wp2_with fail
  go_ret
  exact ⟨rfl, (by repeat (first | (with_reducible assumption) | (with_reducible exact Below.refl _ _) | (with_reducible refine Below.alloc ?_ (by first | omega | (simp; omega) | (simp; done) | (dsimp only; omega)) _) | (with_reducible refine Below.setCell ?_ (by first | omega | (simp; omega) | (simp; done) | (dsimp only; omega)) _) | (with_reducible refine Below.drew ?_) | (with_reducible refine Below.trans ?_ (Below.mono (by assumption) (by first | omega | (simp; omega) | (simp; done) | (dsimp only; omega))))))⟩

/-- What a look-up for a place comes to. -/
def Looks (es : Array MapEntry) (i : Int) (v : Value) (ok : Bool) : Prop :=
  ∀ (w : World) (D clk : Nat), w.heap[D]? = some (.map es clk) → (Instr.lookup 43 (.map (some D)) (.agg #[.string ⟨#[97]⟩, .int .i64 i]) true).run Try.prog w = .ok (.tuple #[v, .bool ok]) w

set_option maxRecDepth 100000 in
set_option maxHeartbeats 2000000 in
theorem mem_word (w : World) (M G D : Nat) (es : Array MapEntry) (clk : Nat) (i : Int) (pb : Bool) (n : Int) (ts : ByteArray) (ti : Int) (ok : Bool) (h : MemAt w M G D es clk) (hl : Looks es i (.agg #[.bool pb, .int .i64 n, .string ts, .int .i64 ti]) ok) (hv : ok = false → pb = false ∧ n = 0 ∧ ts = ⟨#[]⟩ ∧ ti = 0) :
    Calls Try.prog 10 #[.pointer (some ⟨M, 0, none⟩), .agg #[.string ⟨#[97]⟩, .int .i64 i]] w fun e w' => e = .returned (.agg #[.bool pb, .int .i64 n, .string ts, .int .i64 ti]) ∧ Below w.heap.size w w' := by
  have hb0 : Below w.heap.size w ((w.alloc (.cells #[.string ⟨#[97]⟩, .int .i64 i] 23)).alloc (.cells #[.bool false, .int .i64 0, .string ⟨#[]⟩, .int .i64 0] 25)) := ((Below.refl _ w).alloc (Nat.le_refl _) _).alloc (by simp) _
  have q0 : ((w.alloc (.cells #[.string ⟨#[97]⟩, .int .i64 i] 23)).alloc (.cells #[.bool false, .int .i64 0, .string ⟨#[]⟩, .int .i64 0] 25)).cell? ⟨w.heap.size, 0, none⟩ = some (.string ⟨#[97]⟩) := by simp [go_sem]
  have q1 : ((w.alloc (.cells #[.string ⟨#[97]⟩, .int .i64 i] 23)).alloc (.cells #[.bool false, .int .i64 0, .string ⟨#[]⟩, .int .i64 0] 25)).cell? ⟨w.heap.size, 1, none⟩ = some (.int .i64 i) := by simp [go_sem]
  have k1 : ((w.alloc (.cells #[.string ⟨#[97]⟩, .int .i64 i] 23)).alloc (.cells #[.bool false, .int .i64 0, .string ⟨#[]⟩, .int .i64 0] 25)).heap[w.heap.size + 1]? = some (.cells #[.bool false, .int .i64 0, .string ⟨#[]⟩, .int .i64 0] 25) := by
    have := al_new (w.alloc (.cells #[.string ⟨#[97]⟩, .int .i64 i] 23)) (.cells #[.bool false, .int .i64 0, .string ⟨#[]⟩, .int .i64 0] 25) rfl
    rwa [World.size_alloc] at this
  have zq : w.heap.size < ((w.alloc (.cells #[.string ⟨#[97]⟩, .int .i64 i] 23)).alloc (.cells #[.bool false, .int .i64 0, .string ⟨#[]⟩, .int .i64 0] 25)).heap.size := by simp; omega
  have h0 := h.mono hb0
  go_enter Try.func10, Try.ntmps10
  go_upto_region 1 with fail
  generalize (w.alloc (.cells #[.string ⟨#[97]⟩, .int .i64 i] 23)).alloc (.cells #[.bool false, .int .i64 0, .string ⟨#[]⟩, .int .i64 0] 25) = W0 at *
  have m0 := blk_cell h0.1 0
  have m1 := blk_cell h0.1 1
  have z0 := blk_lt h0.1
  have zD := blk_lt h0.2.2
  simp at m0 m1
  have HB : Below W0.heap.size W0 W0.drew := (Below.refl _ W0).drew
  refine wp_region_noPanic ?_
  refine wp_region_held_drew (S := fun w' => Below W0.heap.size W0 w') (by kernel_rfl) HB (fun _ => ?_)
  refine take_first 0 8 (.pointer (some ⟨M, 0, none⟩)) rfl rfl (by kernel_rfl) (by kernel_rfl) (by kernel_rfl) (fun _ _ _ h => h) (by rfl) (fun w' hS => ?_) (by assumption) ?_
  · have hc : ∀ b o, b < W0.heap.size → w'.cell? ⟨b, o, none⟩ = W0.cell? ⟨b, o, none⟩ := fun b o h => hS.cell (p := ⟨b, o, none⟩) h
    go_simp
  (try simp only [Act.put, List.setIfInBounds_toArray, List.set_cons_zero, List.set_cons_succ])
  refine take_first 1 9 (.pointer (some ⟨M, 0, none⟩)) rfl rfl (by kernel_rfl) (by kernel_rfl) (by kernel_rfl) (fun _ _ _ h => h) (by rfl) (fun w' hS => ?_) (by assumption) ?_
  · have hc : ∀ b o, b < W0.heap.size → w'.cell? ⟨b, o, none⟩ = W0.cell? ⟨b, o, none⟩ := fun b o h => hS.cell (p := ⟨b, o, none⟩) h
    go_simp
  (try simp only [Act.put, List.setIfInBounds_toArray, List.set_cons_zero, List.set_cons_succ])
  refine take_first 2 10 (.pointer (some ⟨M, 1, none⟩)) rfl rfl (by kernel_rfl) (by kernel_rfl) (by kernel_rfl) (fun _ _ _ h => h) (by rfl) (fun w' hS => ?_) (by assumption) ?_
  · have hc : ∀ b o, b < W0.heap.size → w'.cell? ⟨b, o, none⟩ = W0.cell? ⟨b, o, none⟩ := fun b o h => hS.cell (p := ⟨b, o, none⟩) h
    go_simp
  (try simp only [Act.put, List.setIfInBounds_toArray, List.set_cons_zero, List.set_cons_succ])
  refine take_first 3 11 (.map (some D)) rfl rfl (by kernel_rfl) (by kernel_rfl) (by kernel_rfl) (fun _ _ _ h => h) (by rfl) (fun w' hS => ?_) (by assumption) ?_
  · have hc : ∀ b o, b < W0.heap.size → w'.cell? ⟨b, o, none⟩ = W0.cell? ⟨b, o, none⟩ := fun b o h => hS.cell (p := ⟨b, o, none⟩) h
    go_simp
  (try simp only [Act.put, List.setIfInBounds_toArray, List.set_cons_zero, List.set_cons_succ])
  refine take_first 4 12 (.agg #[.string ⟨#[97]⟩, .int .i64 i]) rfl rfl (by kernel_rfl) (by kernel_rfl) (by kernel_rfl) (fun _ _ _ h => h) (by rfl) (fun w' hS => ?_) (by assumption) ?_
  · have hc : ∀ b o, b < W0.heap.size → w'.cell? ⟨b, o, none⟩ = W0.cell? ⟨b, o, none⟩ := fun b o h => hS.cell (p := ⟨b, o, none⟩) h
    go_simp
  (try simp only [Act.put, List.setIfInBounds_toArray, List.set_cons_zero, List.set_cons_succ])
  refine take_first 5 13 (.tuple #[.agg #[.bool pb, .int .i64 n, .string ts, .int .i64 ti], .bool ok]) rfl rfl (by kernel_rfl) (by kernel_rfl) (by kernel_rfl) (fun _ _ _ h => h) (by rfl) (fun w' hS => ?_) (by assumption) ?_
  · have hc : ∀ b o, b < W0.heap.size → w'.cell? ⟨b, o, none⟩ = W0.cell? ⟨b, o, none⟩ := fun b o h => hS.cell (p := ⟨b, o, none⟩) h
    have l1 := hl w' D clk ((hS.block D zD).trans h0.2.2)
    go_simp
  (try simp only [Act.put, List.setIfInBounds_toArray, List.set_cons_zero, List.set_cons_succ])
  refine take_first 6 7 (.tuple #[.agg #[.bool pb, .int .i64 n, .string ts, .int .i64 ti], .bool ok]) rfl rfl (by kernel_rfl) (by kernel_rfl) (by kernel_rfl) (fun _ _ _ h => h) (by rfl) (fun w' hS => ?_) (by assumption) ?_
  · have hc : ∀ b o, b < W0.heap.size → w'.cell? ⟨b, o, none⟩ = W0.cell? ⟨b, o, none⟩ := fun b o h => hS.cell (p := ⟨b, o, none⟩) h
    go_simp
  (try simp only [Act.put, List.setIfInBounds_toArray, List.set_cons_zero, List.set_cons_succ])
  refine take_first 7 14 (.agg #[.bool pb, .int .i64 n, .string ts, .int .i64 ti]) rfl rfl (by kernel_rfl) (by kernel_rfl) (by kernel_rfl) (fun _ _ _ h => h) (by rfl) (fun w' hS => ?_) (by assumption) ?_
  · have hc : ∀ b o, b < W0.heap.size → w'.cell? ⟨b, o, none⟩ = W0.cell? ⟨b, o, none⟩ := fun b o h => hS.cell (p := ⟨b, o, none⟩) h
    go_simp
  (try simp only [Act.put, List.setIfInBounds_toArray, List.set_cons_zero, List.set_cons_succ])
  refine take_first 8 15 (.bool ok) rfl rfl (by kernel_rfl) (by kernel_rfl) (by kernel_rfl) (fun _ _ _ h => h) (by rfl) (fun w' hS => ?_) (by assumption) ?_
  · have hc : ∀ b o, b < W0.heap.size → w'.cell? ⟨b, o, none⟩ = W0.cell? ⟨b, o, none⟩ := fun b o h => hS.cell (p := ⟨b, o, none⟩) h
    go_simp
  (try simp only [Act.put, List.setIfInBounds_toArray, List.set_cons_zero, List.set_cons_succ])
  have r0 := blk_cell k1
  have fr0 := blk_free k1
  have zr := blk_lt k1
  refine wpAnyH_ready (rs := [9]) (by kernel_rfl) (by simp) ?_
  refine AllReadyH.cons rfl (fun K hK => ?_) AllReadyH.nil
  go_simp
  have qn := al_new W0.drew (.cells #[.bool false, .int .i64 0, .string ⟨#[]⟩, .int .i64 0] 25) rfl
  have HBP := HB
  replace HB := Below.alloc HB HB.size (.cells #[.bool false, .int .i64 0, .string ⟨#[]⟩, .int .i64 0] 25)
  refine hK.out _ _ HB (fun _ => ?_)
  clear hK K
  (try simp only [Act.put, List.setIfInBounds_toArray, List.set_cons_zero, List.set_cons_succ])
  have g0 := blk_cell qn
  have f0 := blk_free qn
  refine wpAnyH_ready (rs := [10]) (by kernel_rfl) (by simp) ?_
  refine AllReadyH.cons rfl (fun K hK => ?_) AllReadyH.nil
  go_simp
  refine hK.out _ _ (Below.alloc HBP HBP.size _) (fun hSt => ?_)
  clear hK K
  refine wpAnyH_ready (rs := [11]) (by kernel_rfl) (by simp) ?_
  refine AllReadyH.cons rfl (fun K hK => ?_) AllReadyH.nil
  go_simp
  refine hK.out _ _ (by assumption) (fun _ => ?_)
  clear hK K
  refine wpAnyH_done (by kernel_rfl) (NoPanic.normal ?_) _
  clear g0 f0 qn HB HBP
  cases ok
  · obtain ⟨rfl, rfl, rfl, rfl⟩ := hv rfl
    go_upto_region 4 with fail
    have hX : Below W0.heap.size W0 (W0.alloc (.cells #[.bool false, .int .i64 0, .string ⟨#[]⟩, .int .i64 0] 25)).drew := ((Below.refl _ W0).alloc (Nat.le_refl _) _).drew
    generalize (W0.alloc (.cells #[.bool false, .int .i64 0, .string ⟨#[]⟩, .int .i64 0] 25)).drew = X at *
    have x0 := (hX.cell (p := ⟨w.heap.size, 0, none⟩) zq).trans q0
    have xm := (hX.cell (p := ⟨M, 0, none⟩) z0).trans m0
    have x1 := hX.block _ zr
    rw [k1] at x1
    have xr0 := blk_cell x1
    have xf0 := blk_free x1
    have l2 := look_glob false (w := X.drew) (h0.mono hX.drew)
    simp only [glob, Bool.false_eq_true, if_false] at l2
    have hBX := hb0.trans (hX.mono hb0.size)
    clear r0 fr0 k1 q0 q1 m0 m1 h0 h hX hl
    have hfl := field_ptr X.drew
    simp only [glob] at hfl
    go_region
    go_wp2_with fail
    refine bodyPost_ret (by simp [results, Try.results10, go_sem, *] <;> rfl) rfl ⟨rfl, ((((hBX.setCell (Nat.le_succ _) _).setCell (Nat.le_succ _) _).setCell (Nat.le_succ _) _).setCell (Nat.le_succ _) _).drew⟩
  · go_wp2_with fail
    refine bodyPost_ret (by simp [results, Try.results10, go_sem, *] <;> rfl) rfl ⟨rfl, (((((hb0.setCell (Nat.le_succ _) _).setCell (Nat.le_succ _) _).setCell (Nat.le_succ _) _).setCell (Nat.le_succ _) _).alloc (by simp; omega) _).drew⟩
end Go.Proofs.Ytpjocnnmienfpaa
