/- What names.row returns: layer 7. -/
import Derived.Test.YtdpnphnafidpiaaGreatNamC
import Derived.Test.YtdpnphnafidpiaaGreatSortLay
import Derived.Test.YtdpnphnafidpiaaGreatAlloc
import Derived.Lib.RowBridge
import Derived.Lib.SortBridge
import Derived.Deep.QuietTactic
import Derived.Deep.LoopGhost
namespace Go.Proofs.YtdpnphnafidpiaaGreat
open Go.Shelf Go.RowKit Go.Lib Go.Sort

noncomputable def siT : TypeInfo := (Tryz.prog.info? 26).get (by kernel_rfl)
noncomputable def siE : TypeInfo := (Tryz.prog.info? 9).get (by kernel_rfl)

set_option maxHeartbeats 2000000 in
/-- The function literal of names.row. -/
theorem row_less (blk off c Bs size : Nat) (W : World) (G : Nat → Str) (hs : W.cell? ⟨Bs, 0, none⟩ = some (.slice (some ⟨blk, off, none⟩) size c))
    (hc : ∀ t, t < size → W.cell? ⟨blk, off + t, none⟩ = some (encStr (G t))) (i j : Nat) (hi : i < size) (hj : j < size) :
    Calls Tryz.prog 109 #[.int .i64 i, .int .i64 j, .pointer (some ⟨Bs, 0, none⟩)] W fun e w' => e = .returned (.bool (ltStr (G i) (G j))) ∧ ∃ q, w' = W.drewN q := by
  have ci := hc i hi
  have cj := hc j hj
  have e : ltStr (G i) (G j) = Op.bytesLess (G i) (G j) := (bytesLess_eq _ _).symm
  rw [e]
  go_enter Tryz.func109, Tryz.ntmps109
  go_wp2
  go_quiet (fail)
  go_wp2
  go_ret
  exact ⟨rfl, nq, rfl⟩

theorem siK (n : Nat) (h2 : 2 ≤ n) : Lib.swapperK n siE 24 = 4 := by
  have a : siE.hasPointers = true := by kernel_rfl
  have b : siE.bytes = 16 := by kernel_rfl
  have c : (n == 0) = false := by simp; omega
  have d : (n == 1) = false := by simp; omega
  simp [Lib.swapperK, a, b, c, d]
theorem grownBy_grow (w : World) (os : Array Obj) (row : Option Nat) : w.grownBy (grow w os) row := by
  refine ⟨rfl, rfl, rfl, by simp [size_grow], fun k hk _ => ?_⟩
  show (w.heap ++ os)[k]? = _
  rw [Array.getElem?_append_left hk]

set_option maxHeartbeats 2000000 in
theorem row_sort (base : Nat) (v : Value) (l : List Str) (Bs : Nat) (w : World) (hown : OwnS w base v l) (hbox : w.cell? ⟨Bs, 0, none⟩ = some v) (hBs : Bs < w.heap.size) (hne : v.ownBlock ≠ some Bs) (hn : l.length < 4611686018427387904) :
    Calls Tryz.prog 108 #[.iface 26 v, .func (.func 109) #[] #[.pointer (some ⟨Bs, 0, none⟩)]] w fun e w' => e = .returned (.tuple #[]) ∧ OwnS w' base v (l.mergeSort fun x y => decide (x ≤ y)) ∧ w.grownBy w' v.ownBlock := by
  have hh := hown
  by_cases h2 : 2 ≤ l.length
  · rcases hown.2 with ⟨_, hn0⟩ | ⟨g, cap, cur, rfl, hb, hg, k1, k2, k3, k4⟩
    · omega
    · have hblk : g < w.heap.size := blk_lt hg
      have hgB : g ≠ Bs := fun e => hne (by rw [e]; rfl)
      have hH : Holds encStr w g 0 l.toArray := holds_of_block hg (by simpa using k4)
      have hless : LessReads Tryz.prog 109 #[.pointer (some ⟨Bs, 0, none⟩)] encStr ltStr g 0 l.toArray.size w := by
        intro m os dk hs i j hi hj
        have e : sortWorld encStr w g 0 m dk os = putRow encStr (grow (Sort.ahead w m) os) g 0 dk := by
          unfold sortWorld; rw [putRow_grow _ (Sort.ahead w m) _ g 0 _ hblk]
        have hHg : Holds encStr (grow (Sort.ahead w m) os) g 0 l.toArray := holds_grow _ _ _ g 0 _ hblk (holds_ahead _ _ _ _ _ _ hH)
        refine row_less g 0 cap Bs l.toArray.size _ (fun t => dk[t]!) ?_ (fun t ht => ?_) i j hi hj
        · rw [e, cell?_putRow_other _ _ g 0 dk _ (Or.inl (by show Bs ≠ g; omega)), cell?_grow _ _ _ (by show Bs < (Sort.ahead w m).heap.size; exact hBs)]
          simpa using hbox
        · rw [e]; exact cell?_putRow _ _ g 0 l.toArray dk hHg hs t (by omega)
      have hS := Any.sort_Slice_sorted Tryz.sa6 26 9 siT siE (by kernel_rfl) (by kernel_rfl) (by kernel_rfl) (by kernel_rfl) 24 (fun _ => by kernel_rfl) (by kernel_rfl) (fun _ => by kernel_rfl) encStr (fun _ => rfl) ltStr swo_ltStr 109 _
        (enters_of Tryz.func109 (by kernel_rfl) rfl) g 0 cap l.toArray (by simpa using h2) (by simpa using hn) 121 (by rw [siK _ (by simpa using h2)]; kernel_rfl) true
        (fun args W => run_callFunc_extern Tryz.func121 (by kernel_rfl) (by kernel_rfl) (by kernel_rfl) (e := Extern.ReflectliteSwapper.swap true) (by kernel_rfl) args W) _ hless hH hblk
      change Calls Tryz.prog 108 _ _ _ at hS
      refine hS.mono ?_
      rintro e w' ⟨rfl, d', n, os, hp, hso, rfl⟩
      have hd := sorted_unique_holds swo_ltStr (fun x y h1 h2 => by simp only [ltStr, decide_eq_false_iff_not, List.not_lt] at h1 h2; exact List.le_antisymm h2 h1) l.toArray d' hp hso
      have e1 : (fun x y : Str => !ltStr y x) = fun x y => decide (x ≤ y) := by
        funext x y
        show (!decide (y < x)) = decide (x ≤ y)
        by_cases h : x ≤ y
        · have h' : ¬ y < x := List.not_lt.2 h
          simp [h, h']
        · have h' : y < x := List.not_le.1 h
          simp [h, h']
      rw [e1] at hd
      have hd2 : d' = (l.mergeSort fun x y => decide (x ≤ y)).toArray := by rw [← hd]
      subst hd2
      refine ⟨rfl, ?_, grownBy_sorted _⟩
      have := ownsRow_sorted (n := n) (os := os) (ss := l) (ts := l.mergeSort fun x y => decide (x ≤ y)) (by simp) hb hg k1 k2 k3
      unfold OwnS
      rw [List.length_mergeSort]
      exact this
  · have hm : (l.mergeSort fun x y => decide (x ≤ y)) = l := by
      match l, h2 with
      | [], _ => simp
      | [x], _ => simp
      | x :: y :: r, h => simp at h
    rw [hm]
    obtain ⟨A, c, rfl, _⟩ := hh.row
    have hf : ∀ n : Nat, n ≤ 1 → Tryz.prog.funcs.findIdx? (·.name == "internal/reflectlite" ++ ".Swapper$" ++ toString (Lib.swapperK n siE 24)) = some (118 + n) := by
      intro n h
      have hK : Lib.swapperK n siE 24 = n + 1 := by
        rcases Nat.eq_zero_or_pos n with h | h
        · subst h; simp [Lib.swapperK]
        · obtain rfl : n = 1 := by omega
          simp [Lib.swapperK]
      rw [hK]
      rcases Nat.eq_zero_or_pos n with h | h
      · subst h; show _ = _; kernel_rfl
      · obtain rfl : n = 1 := by omega
        show _ = _
        kernel_rfl
    have hS := Any.sort_Slice_tiny Tryz.sa6 26 9 siT siE (by kernel_rfl) (by kernel_rfl) (by kernel_rfl) (by kernel_rfl) 24 (fun _ => by kernel_rfl) A l.length c (by omega) (118 + l.length) (hf l.length (by omega)) (.func 109) #[] #[.pointer (some ⟨Bs, 0, none⟩)] w
    change Calls Tryz.prog 108 _ _ _ at hS
    refine hS.mono ?_
    rintro e w' ⟨rfl, os, rfl⟩
    exact ⟨rfl, hh.kept (grownBy_grow w os none) (by
      cases h : (Value.slice A l.length c).ownBlock
      · exact Or.inl rfl
      · exact Or.inr (by simp)), grownBy_grow w os _⟩
end Go.Proofs.YtdpnphnafidpiaaGreat
