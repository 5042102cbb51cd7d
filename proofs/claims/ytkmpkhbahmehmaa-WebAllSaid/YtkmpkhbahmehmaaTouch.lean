/- What a call may write: a set of blocks. -/
import Derived.Test.YtkmpkhbahmehmaaMapG
import Derived.Test.YtkmpkhbahmehmaaAlloc
import Derived.Below
namespace Go.Proofs.Ytkmpkhbahmehmaa
open Go.RowKit

/-- Of the blocks that were there none but those of fp has turned. -/
structure Touch (fp : Nat → Prop) (w w' : World) : Prop where
  os : w'.os = w.os
  tape : w'.tape = w.tape
  output : w'.output = w.output
  size : w.heap.size ≤ w'.heap.size
  block : ∀ k, k < w.heap.size → ¬ fp k → w'.heap[k]? = w.heap[k]?

theorem Touch.refl (fp : Nat → Prop) (w : World) : Touch fp w w := ⟨rfl, rfl, rfl, Nat.le_refl _, fun _ _ _ => rfl⟩
theorem Touch.trans {fp fp' : Nat → Prop} {a b c : World} (h : Touch fp a b) (k : Touch fp' b c) (hf : ∀ i, fp' i → fp i ∨ a.heap.size ≤ i) : Touch fp a c :=
  ⟨k.os.trans h.os, k.tape.trans h.tape, k.output.trans h.output, Nat.le_trans h.size k.size, fun i hi hn => (k.block i (Nat.lt_of_lt_of_le hi h.size) (fun e => by
    rcases hf i e with h' | h'
    · exact hn h'
    · omega)).trans (h.block i hi hn)⟩
theorem Touch.mono {fp fp' : Nat → Prop} {w w' : World} (h : Touch fp w w') (hf : ∀ i, i < w.heap.size → fp i → fp' i) : Touch fp' w w' := ⟨h.os, h.tape, h.output, h.size, fun i hi hn => h.block i hi (fun e => hn (hf i hi e))⟩
theorem Touch.of_below {fp : Nat → Prop} {w w' : World} (h : Below w.heap.size w w') : Touch fp w w' := ⟨h.os, h.tape, h.output, h.size, fun i hi _ => h.block i hi⟩
theorem Touch.below {fp : Nat → Prop} {B : Nat} {w w' : World} (h : Touch fp w w') (hf : ∀ i, fp i → B ≤ i) (hB : B ≤ w.heap.size) : Below B w w' :=
  ⟨h.os, h.tape, h.output, h.size, fun i hi => h.block i (Nat.lt_of_lt_of_le hi hB) (fun e => by have := hf i e; omega)⟩
theorem Touch.alloc (fp : Nat → Prop) (w : World) (o : Obj) : Touch fp w (w.alloc o) := ⟨rfl, rfl, rfl, by simp, fun i hi _ => Below.heap_alloc _ _ _ hi⟩
theorem Touch.putObj {fp : Nat → Prop} (w : World) {r : Nat} (hr : fp r) (o : Obj) : Touch fp w (w.putObj r o) :=
  ⟨rfl, rfl, rfl, by simp [World.putObj], fun i _ hn => World.putObj_heap_other (fun e => hn (e ▸ hr))⟩
theorem Touch.drew (fp : Nat → Prop) (w : World) : Touch fp w w.drew := ⟨rfl, rfl, rfl, Nat.le_refl _, fun _ _ _ => rfl⟩
theorem putObj_size (w : World) (r : Nat) (o : Obj) : (w.putObj r o).heap.size = w.heap.size := by simp [World.putObj]
end Go.Proofs.Ytkmpkhbahmehmaa
