/- X-PARTIAL A key put into a row that has it; the law's small case: layer 26. -/
import Derived.Test.YtkmpkhbahmehmaaKeyJ
import Derived.Test.YtkmpkhbahmehmaaKeyK
namespace Go.Proofs.Ytkmpkhbahmehmaa
open Go.RowKit Go.Lib

set_option maxRecDepth 100000 in
theorem key_join_same (k : Ky) (A B : Option Addr) (ca cb : Nat) (w : World) (hra : KRow w A [k]) (hrb : KRow w B [k]) :
    Calls Try.prog 34 #[.slice A 1 ca, .slice B 1 cb] w fun e w' => (∃ g cap, e = .returned (.slice (some ⟨g, 0, none⟩) 1 cap)) ∧ Below w.heap.size w w' := by
  refine Calls.mono (key_join_of [k] [k] A B ca cb w hra hrb (by simp) (fun _ v _ => ∃ g cap, v = .slice (some ⟨g, 0, none⟩) 1 cap) (fun _ _ _ _ _ h _ => h) (fun l' W hp _ hown => ?_)) ?_
  · have e : l' = [k.cl, k.cl] := List.perm_replicate.1 (show l'.Perm (List.replicate 2 k.cl) from hp)
    subst e
    refine (key_compact2 k.cl w.heap.size 2 w.heap.size W (Nat.le_refl _) hown).mono ?_
    rintro e w' ⟨rfl, hg⟩
    exact ⟨⟨_, rfl, _, _, rfl⟩, hg⟩
  · rintro e w' ⟨⟨l', v, _, _, rfl, g, cap, rfl⟩, hb⟩
    exact ⟨⟨g, cap, rfl⟩, hb⟩

theorem krow_new (k : Ky) (w : World) (b : Nat) (h : w.heap[b]? = some (.cells #[encStr k.n, .int .i64 k.d] 24)) : KRow w (some ⟨b, 0, none⟩) [k] := fun j hj => by
  have hj0 : j = 0 := by simp at hj; omega
  subst hj0
  exact ⟨b, 0, rfl, blk_lt h, by simp [World.cell?, h], by simp [World.cell?, h]⟩

end Go.Proofs.Ytkmpkhbahmehmaa
