/- X-PARTIAL Two lists of keys as one: layer 26. -/
import Derived.Test.YtkmpkhbahmehmaaKeyI
import Derived.Test.YtkmpkhbahmehmaaKeySort
import Derived.Deep.OwnRows
import Derived.Laws.OwnMore
namespace Go.Proofs.Ytkmpkhbahmehmaa
open Go.RowKit Go.Shelf

attribute [local go_sem] Oper.semAt_some

theorem info_key : (Try.prog.info? 24).map (fun i => (i.zero, i.size, i.bytes)) = some (some (.agg #[.string ⟨#[]⟩, .int .i64 0]), 2, 24) := by kernel_rfl

/-- Between two rounds: what has come lies in a row of the call's own. -/
def JoinI (w : World) (N : Nat) (pre : List Ky) (W : World) : Prop :=
  Boxed W (w.heap.size + 1) 30 (.slice (some ⟨w.heap.size, 0, none⟩) pre.length N) ∧ W.ownsRow w.heap.size 24 2 (.slice (some ⟨w.heap.size, 0, none⟩) pre.length N) pre.length (kcells pre) ∧ Below w.heap.size w W
/-- The loop's variable. -/
def JoinA (w : World) (t : Nat → Act) (k : Ky) (a : Act) (W : World) : Prop :=
  ∃ b, w.heap.size + 1 < b ∧ b < W.heap.size ∧ a = t b ∧ W.cell? ⟨b, 0, none⟩ = some (encStr k.n) ∧ W.cell? ⟨b, 1, none⟩ = some (.int .i64 k.d)
theorem own_kept {W W' : World} {row : Option Nat} {base : Nat} {e : TypeId} {size n : Nat} {v : Value} {xs : List Value} (h : W.ownsRow base e size v n xs) (hg : W.grownBy W' row) (hr : ∀ r, row = some r → ∃ o : Obj, W.heap[r]? = some o ∧ o.isCells = false) : W'.ownsRow base e size v n xs := by
  refine ⟨h.1, ?_⟩
  rcases h.2 with h' | ⟨g, cap, cur, e', hb', hg', h1⟩
  · exact Or.inl h'
  · refine Or.inr ⟨g, cap, cur, e', hb', ?_, h1⟩
    rw [hg.block g (blk_lt hg') (fun e => by
      obtain ⟨o, ho, hc⟩ := hr g e.symm
      rw [hg'] at ho
      cases ho
      cases hc)]
    exact hg'
theorem own_set {W : World} {base : Nat} {e : TypeId} {size n : Nat} {v : Value} {xs : List Value} (h : W.ownsRow base e size v n xs) (p : Addr) (u : Value) (hp : v.ownBlock ≠ some p.block) : (W.setCell p u).ownsRow base e size v n xs := by
  refine ⟨h.1, ?_⟩
  rcases h.2 with h' | ⟨g, cap, cur, e', hb', hg', h1⟩
  · exact Or.inl h'
  · refine Or.inr ⟨g, cap, cur, e', hb', ?_, h1⟩
    rw [Below.heap_setCell _ _ _ _ (fun e => hp (by rw [e']; show some g = _; rw [e]))]
    exact hg'
theorem joinI_own (w : World) (N B : Nat) (hB : w.heap.size ≤ B) : OwnFrom B (JoinI w N) := fun s X Y row hI hg hr => by
  obtain ⟨h1, h2, h3⟩ := hI
  refine ⟨h1.kept hg (fun e => ?_), own_kept h2 hg (fun r e => (hr r e).2), ownFrom_below (β := Unit) (w₀ := w) (Nat.le_refl _) hB () X Y row h3 hg hr⟩
  obtain ⟨_, o, ho, hc⟩ := hr _ e.symm
  have h1' : X.heap[w.heap.size + 1]? = some _ := h1
  rw [h1'] at ho
  cases ho
  cases hc
theorem joinA_own (w : World) (t : Nat → Act) (k : Ky) (a : Act) (B : Nat) : OwnFrom B (fun (_ : Unit) W => JoinA w t k a W) := fun s X Y row hI hg hr => by
  obtain ⟨b, h1, h2, h3, h4, h5⟩ := hI
  exact ⟨b, h1, Nat.lt_of_lt_of_le h2 hg.size, h3, cell_kept h4 hg (fun r e => (hr r e).2), cell_kept h5 hg (fun r e => (hr r e).2)⟩
theorem kept_b {x g : Nat} (W : World) (l : Nat) (o o' : Obj) (h : W.heap[l]? = some o) (hc : o.isCells = false) : Kept x g W (W.putObj l o') :=
  ⟨(grownBy_putObj' W l o').size, fun p v _ _ hv => cell_kept hv (grownBy_putObj' W l o') (fun r e => by cases e; exact ⟨o, h, hc⟩)⟩

/-- What 'both' gives may be gone through. -/
theorem both_stops (x g B1 B2 : Nat) (la lb : List Ky) (A B : Option Addr) (ca cb : Nat) (w : World) (hx : x < w.heap.size) (hg : g < w.heap.size) (hm : la.length ≤ 140737488355328 ∧ lb.length ≤ 140737488355328)
    (hb1 : B1 < w.heap.size) (hb2 : B2 < w.heap.size) (h1 : w.cell? ⟨B1, 0, none⟩ = some (.slice A la.length ca)) (h2 : w.cell? ⟨B2, 0, none⟩ = some (.slice B lb.length cb)) (hra : KRowE x g w A la) (hrb : KRowE x g w B lb) :
    SeqStopsK Fence.wide 2 Try.prog 39 #[.pointer (some ⟨B1, 0, none⟩), .pointer (some ⟨B2, 0, none⟩)] (fun k : Ky => #[Value.agg #[encStr k.n, .int .i64 k.d]]) (Kept x g) (fun ys => ys = (la ++ lb).map Ky.cl) (fun _ => True) (la.length + lb.length) w :=
  fun l J Jx W hW hJ _ hY h0 =>
    both1_in l B1 B2 x g la lb A B ca cb J Jx W hJ hY (Nat.lt_of_lt_of_le hx hW.size) (Nat.lt_of_lt_of_le hg hW.size) hm ((hW.cell (p := ⟨B1, 0, none⟩) hb1).trans h1) ((hW.cell (p := ⟨B2, 0, none⟩) hb2).trans h2) (hra.kept (Kept.below hW)) (hrb.kept (Kept.below hW)) h0

/-- A row of keys in a slice. -/
def KRow (w : World) (A : Option Addr) (l : List Ky) : Prop :=
  ∀ j, (h : j < l.length) → ∃ b o : Nat, A = some ⟨b, o, none⟩ ∧ b < w.heap.size ∧ w.cell? ⟨b, o + j * 2, none⟩ = some (encStr l[j].n) ∧ w.cell? ⟨b, o + j * 2 + 1, none⟩ = some (.int .i64 l[j].d)
theorem KRow.mono {w w' : World} {A : Option Addr} {l : List Ky} (h : KRow w A l) (hb : Below w.heap.size w w') : KRow w' A l := fun j hj => by
  obtain ⟨b, o, e, h1, h2, h3⟩ := h j hj
  exact ⟨b, o, e, Nat.lt_of_lt_of_le h1 hb.size, (hb.cell h1).trans h2, (hb.cell h1).trans h3⟩
theorem KRow.e {w w' : World} {A : Option Addr} {l : List Ky} (h : KRow w A l) (hb : Below w.heap.size w w') {x g : Nat} (hx : w.heap.size ≤ x) (hg : w.heap.size ≤ g) : KRowE x g w' A l := fun j hj => by
  obtain ⟨b, o, e, h1, h2, h3⟩ := h j hj
  exact ⟨b, o, e, by omega, by omega, (hb.cell h1).trans h2, (hb.cell h1).trans h3⟩

set_option maxRecDepth 100000 in
set_option maxHeartbeats 4000000 in
theorem key_join_of (la lb : List Ky) (A B : Option Addr) (ca cb : Nat) (w : World) (hra : KRow w A la) (hrb : KRow w B lb) (hm : (la.length + lb.length) * 24 ≤ 281474976710656)
    (Q : List Ky → Value → World → Prop) (hQ : ∀ l v W D o', Q l v W → (∃ o : Obj, W.heap[D]? = some o ∧ o.isCells = false) → Q l v (W.putObj D o'))
    (hC : ∀ (l' : List Ky) (W : World), l'.Perm ((la ++ lb).map Ky.cl) → l'.Pairwise (fun a b => b.cl.less a.cl = false) → W.ownsRow w.heap.size 24 2 (.slice (some ⟨w.heap.size, 0, none⟩) l'.length (la.length + lb.length)) l'.length (kcells l') →
      Calls Try.prog 38 #[.slice (some ⟨w.heap.size, 0, none⟩) l'.length (la.length + lb.length)] W fun e W' => (∃ v, e = .returned v ∧ Q l' v W') ∧ W.grownBy W' (some w.heap.size)) :
    Calls Try.prog 34 #[.slice A la.length ca, .slice B lb.length cb] w fun e w' => (∃ l' v, l'.Perm ((la ++ lb).map Ky.cl) ∧ l'.Pairwise (fun a b => b.cl.less a.cl = false) ∧ e = .returned v ∧ Q l' v w') ∧ Below w.heap.size w w' := by
  obtain ⟨i0, hi, hz0, hz1, hz2⟩ := info_parts info_key
  have hmk := run_make (P := Try.prog) w 30 24 i0 (.agg #[.string ⟨#[]⟩, .int .i64 0]) Try.underlying30 hi hz0 .i64 .i64 0 (la.length + lb.length) (by omega) (by omega) (by rw [hz2]; omega) (by omega)
  rw [hz1] at hmk
  refine callsIn_wide (n := 3) |>.1 ?_
  refine callsIn_of_wp_marks Try.func34 rfl trivial ?_ rfl
  simp only [Try.ntmps34, List.size_toArray, List.length_cons, List.length_nil, Nat.reduceAdd, Nat.reduceSub, Array.replicate_succ, Array.replicate_zero, List.push_toArray, List.append_toArray, List.nil_append, List.cons_append]
  gi_wp2_with (refine ⟨trivial, ?_⟩; gi_at_call 35; refine (callsIn_wide.2 (both_in A B la.length lb.length ca cb _)).mono ?_; rintro e w2 ⟨rfl, rfl⟩)
  clear hmk
  have e0 : (madeCells (Value.agg #[Value.string ⟨#[]⟩, .int .i64 0]).cells ((la.length + lb.length) * 2)).size = (la.length + lb.length) * 2 := size_madeCells _ _
  have hrow0 : (w.alloc (.cells (madeCells #[Value.string ⟨#[]⟩, .int .i64 0] ((la.length + lb.length) * 2)) 24)).ownsRow w.heap.size 24 2 (.slice (some ⟨w.heap.size, 0, none⟩) 0 (la.length + lb.length)) 0 [] :=
    ⟨rfl, Or.inr ⟨_, _, _, rfl, Nat.le_refl _, heap_alloc_new w _, Nat.zero_le _, by unfold maxLen; omega, e0, by simp⟩⟩
  have hbox0 := Boxed.new (w.alloc (.cells (madeCells #[Value.string ⟨#[]⟩, .int .i64 0] ((la.length + lb.length) * 2)) 24)) 30 (.slice (some ⟨w.heap.size, 0, none⟩) 0 (la.length + lb.length))
  rw [World.size_alloc] at hbox0
  have hB0 : Below w.heap.size w (w.alloc (.cells (madeCells #[Value.string ⟨#[]⟩, .int .i64 0] ((la.length + lb.length) * 2)) 24)) := (Below.refl _ w).alloc (Nat.le_refl _) _
  have hz0' : (w.alloc (.cells (madeCells #[Value.string ⟨#[]⟩, .int .i64 0] ((la.length + lb.length) * 2)) 24)).heap.size = w.heap.size + 1 := World.size_alloc _ _
  generalize w.alloc (.cells (madeCells #[Value.string ⟨#[]⟩, .int .i64 0] ((la.length + lb.length) * 2)) 24) = w1 at *
  have hI0 : JoinI w (la.length + lb.length) [] (((w1.alloc (.cells #[.slice (some ⟨w.heap.size, 0, none⟩) 0 (la.length + lb.length)] 30)).alloc (.cells #[.slice A la.length ca] 30)).alloc (.cells #[.slice B lb.length cb] 30)) :=
    ⟨(hbox0.alloc _).alloc _, ((hrow0.alloc _).alloc _).alloc _, ((hB0.alloc (by omega) _).alloc (by simp; omega) _).alloc (by simp; omega) _⟩
  have hb1 : (((w1.alloc (.cells #[.slice (some ⟨w.heap.size, 0, none⟩) 0 (la.length + lb.length)] 30)).alloc (.cells #[.slice A la.length ca] 30)).alloc (.cells #[.slice B lb.length cb] 30)).cell? ⟨w.heap.size + 2, 0, none⟩ = some (.slice A la.length ca) := by
    have := ((Boxed.new (w1.alloc (.cells #[.slice (some ⟨w.heap.size, 0, none⟩) 0 (la.length + lb.length)] 30)) 30 (.slice A la.length ca)).alloc (.cells #[.slice B lb.length cb] 30)).cell
    rw [World.size_alloc, hz0'] at this
    exact this
  have hb2 : (((w1.alloc (.cells #[.slice (some ⟨w.heap.size, 0, none⟩) 0 (la.length + lb.length)] 30)).alloc (.cells #[.slice A la.length ca] 30)).alloc (.cells #[.slice B lb.length cb] 30)).cell? ⟨w.heap.size + 3, 0, none⟩ = some (.slice B lb.length cb) := by
    have := (Boxed.new ((w1.alloc (.cells #[.slice (some ⟨w.heap.size, 0, none⟩) 0 (la.length + lb.length)] 30)).alloc (.cells #[.slice A la.length ca] 30)) 30 (.slice B lb.length cb)).cell
    rw [World.size_alloc, World.size_alloc, hz0'] at this
    exact this
  have hsz : (((w1.alloc (.cells #[.slice (some ⟨w.heap.size, 0, none⟩) 0 (la.length + lb.length)] 30)).alloc (.cells #[.slice A la.length ca] 30)).alloc (.cells #[.slice B lb.length cb] 30)).heap.size = w.heap.size + 4 := by
    rw [World.size_alloc, World.size_alloc, World.size_alloc, hz0']
  generalize hW0 : ((w1.alloc (.cells #[.slice (some ⟨w.heap.size, 0, none⟩) 0 (la.length + lb.length)] 30)).alloc (.cells #[.slice A la.length ca] 30)).alloc (.cells #[.slice B lb.length cb] 30) = W0 at *
  have hBW := hI0.2.2
  clear hW0 hrow0 hbox0 hB0 hz0' e0
  refine wpIn_rangeFunc_ownH rfl (by omega) (gf := 39) (lb := #[.pointer (some ⟨w.heap.size + 1 + 1, 0, none⟩), .pointer (some ⟨w.heap.size + 1 + 1 + 1, 0, none⟩)]) rfl trivial (enters_of Try.func39 (by kernel_rfl) rfl)
    (both_stops (w.heap.size + 1) w.heap.size (w.heap.size + 2) (w.heap.size + 3) la lb A B ca cb W0 (by omega) (by omega) (by omega) (by omega) (by omega) hb1 hb2 (hra.e hBW (by omega) (Nat.le_refl _)) (hrb.e hBW (by omega) (Nat.le_refl _)))
    (fun h k => h.trans k) (fun W l o o' _ h hc _ => kept_b W l o o' h hc) (Below.refl _ _) (fun _ => rfl)
    (JoinI w (la.length + lb.length)) (fun _ _ _ => False) (joinI_own w _ _ (by omega)) (fun _ _ _ _ _ h _ _ => h) hI0
    (fun k => JoinA w (fun b => { tmps := #[.slice A la.length ca, .slice B lb.length cb, undef, undef, .slice none 0 0, .pointer (some ⟨w.heap.size + 1, 0, none⟩), .pointer (some ⟨b, 0, none⟩), .slice A la.length ca, .int .i64 la.length, .slice B lb.length cb, .int .i64 lb.length, .int .i64 ((la.length : Int) + lb.length), .slice (some ⟨w.heap.size, 0, none⟩) 0 (la.length + lb.length), .slice A la.length ca, .slice B lb.length cb, .func (.func 39) #[] #[.pointer (some ⟨w.heap.size + 1 + 1, 0, none⟩), .pointer (some ⟨w.heap.size + 1 + 1 + 1, 0, none⟩)], .agg #[encStr k.n, .int .i64 k.d], undef, undef, undef, undef, undef, undef, undef, undef], defers := [] }) k) (fun k a' => joinA_own w _ k a' _) ?assign ?body ?done ?stop
  case assign =>
    rintro l pre k W K hI hK
    have hBW' := hI.2.2.size
    have hlt := hI.1.lt
    gi_wp2
    exact hK _ _ ((KeepsOthers.alloc _ _).from _) (Kept.below ((Below.refl _ W).alloc (Nat.le_refl _) _)) ⟨hI.1.alloc _, hI.2.1.alloc _, hI.2.2.alloc hBW' _⟩ ⟨W.heap.size, hlt, by simp, rfl, by simp [go_sem], by simp [go_sem]⟩
  case body =>
    rintro l pre k a' W hl ⟨r, hr⟩ ⟨hbox, hrow, hB⟩ ⟨b, h1, h2, rfl, h3, h4⟩ hlt
    have hc := hbox.cell
    have hf := hbox.frozen
    have hz := hB.size
    gi_wp2_with (gi_at_builtin; refine wpListIn_append_fits _ rfl _ _ 30 rfl w.heap.size 24 i0 2 Try.underlying30 hi hz1 w.heap.size pre.length (la.length + lb.length) _ rfl (hrow.alloc _) ⟨W.heap.size, 0, none⟩ 1 1 [encStr k.n, .int .i64 k.d] rfl rfl ?c1 ?c2 (by omega) ?_)
    case c1 =>
      intro q u hq
      match q, hq with
      | 0, hq => simp at hq; subst hq; simp [Addr.add, go_sem]
      | 1, hq => simp at hq; subst hq; simp [Addr.add, go_sem]
      | q + 2, hq => simp at hq
    case c2 => intro u hu; simp at hu; rcases hu with rfl | rfl <;> rfl
    · intro w2 hown hgrow
      have hbox2 := (hbox.alloc (.cells #[encStr k.n, .int .i64 k.d] 24)).kept hgrow (by simp)
      have hB2 : Below w.heap.size w w2 := Below.grown (hB.alloc hz (.cells #[encStr k.n, .int .i64 k.d] 24)) hgrow (by simp; omega) (fun j e => by cases e; exact Nat.le_refl _)
      have hc1 := hbox2.cell
      have hf1 := hbox2.frozen
      have hkf : KeepsFrom W0.heap.size W w2 := ((KeepsOthers.alloc W (.cells #[encStr k.n, .int .i64 k.d] 24)).from _).trans (KeepsFrom.of_grownBy hgrow (fun j e => by cases e; omega))
      have hkp : Kept (w.heap.size + 1) w.heap.size W w2 := (Kept.below ((Below.refl _ W).alloc (Nat.le_refl _) (.cells #[encStr k.n, .int .i64 k.d] 24))).trans ⟨hgrow.size, fun p v _ hp2 hv => hgrow.cell hv (fun e => hp2 (by first | exact Option.some.inj e | exact (Option.some.inj e).symm))⟩
      have hown2 : w2.ownsRow w.heap.size 24 2 (.slice (some ⟨w.heap.size, 0, none⟩) (pre ++ [k]).length (la.length + lb.length)) (pre ++ [k]).length (kcells (pre ++ [k])) := by
        rw [List.length_append, List.length_singleton, kcells_append]
        exact hown
      have HOWN := Lib.hid hown2
      clear hown hown2 hgrow hc hf hbox hrow hB
      gi_wp2
      refine ⟨hkf.trans ((KeepsOthers.setCell _ _ _).from _), hkp.trans ⟨by simp, fun p v hp1 _ hv => ?_⟩, ?_, own_set HOWN.out _ _ (by simp [Value.ownBlock]), hB2.setCell (by simp) _⟩
      · rw [World.cell?_of_block (w := w2) (Below.heap_setCell _ _ _ _ hp1)]
        exact hv
      · have hb3 := hbox2.set (.slice (some ⟨w.heap.size, 0, none⟩) (pre ++ [k]).length (la.length + lb.length))
        rw [List.length_append, List.length_singleton] at hb3 ⊢
        exact hb3
  case done =>
    rintro D ys W hD hys ⟨hbox, hrow, hB⟩ hK
    have hc := hbox.cell
    have hyl : ys.length = la.length + lb.length := by rw [hys]; simp
    have HS := Lib.hid (key_sort ys w.heap.size (la.length + lb.length) w.heap.size W hrow (by omega))
    have HYS := Lib.hid hys
    clear hb1 hb2 hra hrb hI0 hrow hyl hys
    gi_wp2_with fail
    refine ⟨trivial, ?_⟩
    refine (callsIn_wide.2 HS.out).mono ?_
    rintro e w2 ⟨rfl, l', hp, hs, hown2, hgr2⟩
    have hll : ys.length = l'.length := hp.length_eq.symm
    have hys := HYS.out
    have hbox2 := hbox.kept hgr2 (by simp)
    have hc2 := hbox2.cell
    have hK2 := (hgr2.block D (blk_lt hK) (by intro e; have := Option.some.inj e; omega)).trans hK
    rw [hll] at hown2 hc2
    have hp' := hp
    rw [hys] at hp'
    have HC := Lib.hid (hC l' w2 hp' hs hown2)
    have hB2 : Below w.heap.size w w2 := Below.grown hB hgr2 hB.size (fun j e => by cases e; exact Nat.le_refl _)
    clear hc HS hown2 hbox hK hgr2 hp hB hbox2 hll hys HYS
    have HP := Lib.hid hp'
    have HPS := Lib.hid hs
    clear hp' hs
    gi_wp2_with fail
    refine ⟨trivial, ?_⟩
    refine (callsIn_wide.2 HC.out).mono ?_
    rintro e w3 ⟨⟨v, rfl, hq⟩, hgr3⟩
    have hK3 := (hgr3.block D (blk_lt hK2) (by intro e; have := Option.some.inj e; omega)).trans hK2
    have hB3 : Below w.heap.size w w3 := Below.grown hB2 hgr3 hB2.size (fun j e => by cases e; exact Nat.le_refl _)
    clear hK2 hgr3 hB2 hc2 HC
    gi_wp2
    refine ⟨by simp, .inl ⟨_, _, rfl, run_takeDeferred hK3, ?_⟩⟩
    exact ⟨_, results_tmp rfl _ _ _, ⟨l', v, HP.out, HPS.out, rfl, hQ _ _ _ _ _ hq ⟨_, hK3, rfl⟩⟩, hB3.trans (belowK_b (w := w) (Nat.le_refl _) w3 D _ _ (by omega) hK3 rfl rfl)⟩
  case stop =>
    rintro D c pre W _ _ h _
    exact h.elim
end Go.Proofs.Ytkmpkhbahmehmaa
