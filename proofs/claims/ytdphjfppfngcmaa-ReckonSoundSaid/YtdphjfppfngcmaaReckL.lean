/- What the function literal of reckon.quotient does to the variable that it captures: layer 4. -/
import Derived.Test.YtdphjfppfngcmaaReckK
import Derived.OneCell
namespace Go.Proofs.Ytdphjfppfngcmaa
open Go.RowKit

/-- The world X behind which the variable of block Bv holds v, a row of the call's own that holds l; all else of X is as it was. -/
structure QI (X : World) (Bv : Nat) (v : Value) (l : List Int) (w : World) : Prop where
  var : w.heap[Bv]? = some (.cells #[v] 50 (0, 0))
  own : OwnW w X.heap.size v l
  size : X.heap.size ≤ w.heap.size
  below : Below Bv X w
  rest : ∀ b, b < X.heap.size → b ≠ Bv → w.heap[b]? = X.heap[b]?

theorem QI.start {X : World} {Bv : Nat} (h : X.heap[Bv]? = some (.cells #[.slice none 0 0] 50 (0, 0))) : QI X Bv (.slice none 0 0) [] X :=
  ⟨h, OwnW.nil _ _, Nat.le_refl _, Below.refl _ _, fun _ _ _ => rfl⟩
theorem QI.mono {X : World} {Bv : Nat} {v : Value} {l : List Int} {w w' : World} (h : QI X Bv v l w) (hb : Below w.heap.size w w') : QI X Bv v l w' := by
  have hlt := blk_lt h.var
  refine ⟨(hb.block _ hlt).trans h.var, h.own.mono hb, Nat.le_trans h.size hb.size, h.below.trans (hb.mono (by omega)), fun b hX hne => (hb.block b (Nat.lt_of_lt_of_le hX h.size)).trans (h.rest b hX hne)⟩

/-- What the append and the store leave. -/
theorem QI.next {X : World} {Bv P : Nat} {o : Obj} {v v' : Value} {l : List Int} {z : Int} {w w1 w2 : World} (h : QI X Bv v l w) (hBX : Bv < X.heap.size) (hP : v.ownBlock ≠ some P) (hPo : w.heap[P]? = some o) (hPB : P ≠ Bv)
    (hb : Below w.heap.size w w1) (hown : w2.ownsRow X.heap.size 31 2 v' (l.length + 1) (wcells l ++ [.int .i64 (hiW z), .int .u64 (loW z)])) (hg : w1.grownBy w2 v.ownBlock) (hblk : v'.ownBlock = v.ownBlock ∨ v'.ownBlock = some w1.heap.size) :
    QI X Bv v' (l ++ [z]) (w2.setCell ⟨Bv, 0, none⟩ v') ∧ v'.ownBlock ≠ some P ∧ (w2.setCell ⟨Bv, 0, none⟩ v').heap[P]? = some o := by
  have hl := h.own.lt
  have hPlt := blk_lt hPo
  have hBlt := blk_lt h.var
  have hbs := hb.size
  have hgs := hg.size
  have hXs := h.size
  have hne : v.ownBlock ≠ some Bv := fun e => by have := (hl _ e).1; omega
  have hne' : v'.ownBlock ≠ some Bv := by
    rcases hblk with e | e
    · rw [e]; exact hne
    · rw [e]; intro e'; have := Option.some.inj e'; omega
  have keep : ∀ b, b < w.heap.size → b ≠ Bv → v.ownBlock ≠ some b → (w2.setCell ⟨Bv, 0, none⟩ v').heap[b]? = w.heap[b]? := fun b hlt hn hv =>
    (Below.heap_setCell _ _ _ _ hn).trans ((hg.block b (by omega) (fun e => hv e.symm)).trans (hb.block b hlt))
  have hB2 : Below Bv w w2 := (hb.mono (by omega)).grown hg (by omega) (fun k e => by have := (hl k e).1; omega)
  refine ⟨⟨?_, ?_, ?_, ?_, ?_⟩, ?_, ?_⟩
  · refine one_setCell (v := v) ?_
    exact (hg.block Bv (by omega) (fun e => hne e.symm)).trans ((hb.block Bv hBlt).trans h.var)
  · exact OwnW.snoc (ownsRow_setCell_other hown hne' _)
  · have : (w2.setCell ⟨Bv, 0, none⟩ v').heap.size = w2.heap.size := by simp
    omega
  · exact h.below.trans (hB2.setCell (Nat.le_refl _) _)
  · intro b hbX hn
    rw [keep b (by omega) hn (fun e => by have := (hl _ e).1; omega)]
    exact h.rest b hbX hn
  · rcases hblk with e | e
    · rw [e]; exact hP
    · rw [e]; intro e'; have := Option.some.inj e'; omega
  · rw [keep P hPlt hPB hP]; exact hPo

set_option maxRecDepth 100000 in
set_option maxHeartbeats 2000000 in
theorem quotient_lit {X : World} {Bv P : Nat} {o : Obj} {v : Value} {l : List Int} (x y : Int) (hx : I64 x) (hy : I64 y) (h0 : y ≠ 0) (hBX : Bv < X.heap.size) (hPB : P ≠ Bv) (hlen : l.length < 1000) (w : World)
    (h : QI X Bv v l w) (hP : v.ownBlock ≠ some P) (hPo : w.heap[P]? = some o) :
    Calls Try.prog 55 #[.int .i64 x, .int .i64 y, .pointer (some ⟨Bv, 0, none⟩)] w fun e w' => e = .returned (.tuple #[]) ∧ ∃ v', QI X Bv v' (l ++ [x.tdiv y]) w' ∧ v'.ownBlock ≠ some P ∧ w'.heap[P]? = some o := by
  have hE := Lib.hid (reckon_exactQuotient x y hx hy h0)
  obtain ⟨i0, gi, gz0, gz1, gz2⟩ := info_parts info_wide
  have cV := cell_of_one h.var
  have fV := free_of_one h.var
  have zV := blk_lt h.var
  generalize x.tdiv y = z at *
  go_enter Try.func55, Try.ntmps55
  go_upto_region 0 with fail
  refine region_seqg (W := w) [_, _, _, _, _] [_, _] rfl (by kernel_rfl) (by kernel_rfl) (by repeat (first | (with_reducible assumption) | (with_reducible exact Below.refl _ _) | (with_reducible refine Below.alloc ?_ (by first | omega | (simp; omega) | (simp; done) | (dsimp only; omega)) _) | (with_reducible refine Below.setCell ?_ (by first | omega | (simp; omega) | (simp; done) | (dsimp only; omega)) _) | (with_reducible refine Below.drew ?_) | (with_reducible refine Below.trans ?_ (Below.mono (by assumption) (by first | omega | (simp; omega) | (simp; done) | (dsimp only; omega)))))) (fun fin hfin => ?_)
  iterate 4
    first
      | (refine SeqG.yes (v := ?_) (A' := ?_) rfl (fun γ => by rfl) ?_ ?_ ?_
         rotate_left 2
         · intro γ w' K hS hK
           obtain ⟨hc, hf⟩ := bcell hS
           have hz := hS.size
           go_simp
           first
             | exact hK.out _ (Below.refl _ _)
             | (go_at_call 56; (with_reducible refine (hE.out _).mono ?_); rintro e w1 ⟨rfl, hb1⟩; exact hK.out _ hb1)
             | trace_state
         · intro γ; simp only [Act.put, List.setIfInBounds_toArray, List.set_cons_zero, List.set_cons_succ]; exact rfl)
      | (refine SeqG.no (A' := ?_) rfl (fun γ => by rfl) ?_ ?_
         rotate_left
         · intro γ; simp only [Act.put, List.setIfInBounds_toArray, List.set_cons_zero, List.set_cons_succ]; exact rfl)
  refine SeqG.make (k := 4) (A' := ?_) (fun g => .slice (some ⟨g 0, 0, none⟩) 1 1) (RCell #[.int .i64 (hiW z), .int .u64 (loW z)] 31) rfl (fun γ => by rfl) (RCell.stable _ _) ?_ ?_ ?_
  rotate_left
  · intro γ w' K hS _ hK
    have hm := RCell.made (#[.int .i64 (hiW z), .int .u64 (loW z)]) (31) w'
    have HK := Lib.hid (hK.out (fun _ => w'.heap.size) (w'.alloc (.cells #[.int .i64 (hiW z), .int .u64 (loW z)] 31)) ((Below.refl _ _).alloc (Nat.le_refl _) _) hm); clear hK hm
    go_simp
    exact HK.out
  · intro γ; simp only [Act.put, List.setIfInBounds_toArray, List.set_cons_zero, List.set_cons_succ]; exact rfl
  refine SeqG.nil (hfin.out _ _ ?_)
  clear hfin fin
  intro γ lo hi w1 hB1 hF hD
  replace hF := listF1 hF
  dsimp only at hF
  clear hD
  obtain ⟨_, _, y7, o7, p7, h7⟩ := hF
  generalize γ 4 0 = b5 at *
  have g7 := blk_cell h7
  have hown3 := h.own.mono hB1
  have hsz := hB1.size
  refine TailL.cons (fun K hK => ?_)
  refine wp_append_own_at _ _ _ 50 rfl X.heap.size 31 i0 _ 2 16 Try.underlying50 gi gz0 gz1 gz2 rfl (by decide) _ _ _ rfl hown3 ⟨b5, 0, none⟩ 1 1 [.int .i64 (hiW z), .int .u64 (loW z)] rfl rfl ?c1 ?c2 ?c3 ?c4 ?c5 ?_
  case c1 =>
    intro q u hq
    match q, hq with
    | 0, hq => simp at hq; subst hq; exact g7 0
    | 1, hq => simp at hq; subst hq; exact g7 1
    | q + 2, hq => simp at hq
  case c2 => intro u hu; simp at hu; rcases hu with rfl | rfl <;> rfl
  case c3 => show l.length + 1 ≤ maxLen; unfold maxLen; omega
  case c4 => show (l.length + 1) * 16 ≤ 140737488355328; omega
  case c5 => have := h.size; omega
  intro v' w' hown' hgrow hblk
  refine hK.out _ _ ?_
  clear hK K
  obtain ⟨A, cp, eA0, _, _, _⟩ := (OwnW.snoc hown').row
  have eA : v' = .slice A (l.length + 1) cp := by rw [eA0, List.length_append]; rfl
  clear eA0
  have hN := QI.next h hBX hP hPo hPB hB1 hown' hgrow hblk
  have hne : v.ownBlock ≠ some Bv := fun e => by have := (h.own.lt _ e).1; omega
  have e1 : w'.heap[Bv]? = some (.cells #[v] 50 (0, 0)) := (hgrow.block Bv (by omega) (fun e => hne e.symm)).trans ((hB1.block Bv zV).trans h.var)
  have cV' := cell_of_one e1
  have fV' := free_of_one e1
  have HN := Lib.hid hN
  clear hN hown3 hown' hgrow hblk h hB1 g7 h7 p7 o7 y7 cV fV e1
  subst eA
  refine TailL.cons (fun K hK => ?_)
  go_simp
  refine hK.out _ _ ?_
  clear hK K
  refine TailL.nil ?_
  go_wp2
  go_end0
  exact ⟨rfl, _, HN.out⟩
end Go.Proofs.Ytdphjfppfngcmaa
