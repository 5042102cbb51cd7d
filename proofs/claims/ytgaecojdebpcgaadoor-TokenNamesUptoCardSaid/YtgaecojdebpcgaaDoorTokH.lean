/- X-PARTIAL Signs, names and numbers as tokens: layer 10. Made by gentokh.py. -/
import Derived.Test.YtgaecojdebpcgaaDoorTokG
import Derived.Test.YtgaecojdebpcgaaDoorAtoiLay
import Derived.Lib.SmallJoins
namespace Go.Proofs.YtgaecojdebpcgaaDoor
open Go.RowKit Go.Lib

def doubles : List Str := [[61, 61], [33, 61], [60, 61], [38, 38], [124, 124]]
/-- The sign with which a text begins. -/
def mark (l : Str) : Str := if hasL doubles (l.take 2) = true then l.take 2 else if l.head? = some 124 then [] else l.take 1

theorem hasL_doubles (x : Str) : hasL doubles x = (x == [61, 61] || x == [33, 61] || x == [60, 61] || x == [38, 38] || x == [124, 124]) := by
  unfold hasL doubles
  simp only [List.any_cons, List.any_nil, Bool.or_false]
  rw [Bool.eq_iff_iff]
  simp only [Bool.or_eq_true, beq_iff_eq, or_assoc]
  constructor
  · rintro (h | h | h | h | h) <;> (subst h; decide)
  · rintro (h | h | h | h | h) <;> (subst h; decide)

theorem doubles_len {x : Str} (h : hasL doubles x = true) : x.length = 2 := by
  rw [hasL_iff] at h
  simp only [doubles, List.mem_cons, List.not_mem_nil, or_false] at h
  rcases h with h | h | h | h | h <;> (subst h; rfl)

set_option maxHeartbeats 2000000 in
theorem token_mark (l : Str) (w : World) (hn : l ≠ []) :
    Calls Tryd.prog 27 #[encStr l] w fun e w' => e = .returned (encStr (mark l)) ∧ w = w' := by
  have hpos : 0 < l.length := List.length_pos_iff.2 hn
  have hg0 := mk_get l 0 hpos
  have hh : l.head? = some l[0] := by cases l with | nil => exact absurd rfl hn | cons x l => rfl
  have hm : mark l = if hasL doubles (l.take 2) = true then l.take 2 else if ((l[0].toNat : Int) == 124) = true then [] else l.take 1 := by
    unfold mark
    rw [hh]
    congr 2
    rw [beq_iff_eq, Option.some.injEq, eq_iff_iff]
    constructor
    · intro e; rw [e]; rfl
    · intro e; exact UInt8.toNat_inj.1 (show l[0].toNat = 124 by omega)
  clear hh hn
  have e1 : (⟨l.toArray⟩ : ByteArray).extract 0 1 = ⟨(l.take 1).toArray⟩ := by rw [ByteArray.extract_mk]; rfl
  have i1 : (1 : Int) ≤ l.length := by omega
  generalize l[0] = c at *
  generalize hb : ((c.toNat : Int) == 124) = b at *
  by_cases h2 : 2 ≤ l.length
  · have e2 : (⟨l.toArray⟩ : ByteArray).extract 0 2 = ⟨(l.take 2).toArray⟩ := by rw [ByteArray.extract_mk]; rfl
    have i2 : (2 : Int) ≤ l.length := by omega
    have i3 : decide ((1 : Int) < l.length) = true := decide_eq_true (by omega)
    rw [hasL_doubles] at hm
    generalize l.take 2 = x at *
    generalize l.take 1 = y at *
    generalize h4 : (x == [61, 61]) = c4 at *
    generalize h5 : (x == [33, 61]) = c5 at *
    generalize h6 : (x == [60, 61]) = c6 at *
    generalize h7 : (x == [38, 38]) = c7 at *
    generalize h8 : (x == [124, 124]) = c8 at *
    rw [hm]
    clear hm
    cases c4
    · cases c5
      · cases c6
        · cases c7
          · cases c8
            · cases b
              · go_enter Tryd.func27, Tryd.ntmps27
                go_wp2
                go_ret
                exact ⟨rfl, rfl⟩
              · go_enter Tryd.func27, Tryd.ntmps27
                go_wp2
                go_ret
                exact ⟨rfl, rfl⟩
            · go_enter Tryd.func27, Tryd.ntmps27
              go_wp2
              go_ret
              exact ⟨rfl, rfl⟩
          · go_enter Tryd.func27, Tryd.ntmps27
            go_wp2
            go_ret
            exact ⟨rfl, rfl⟩
        · go_enter Tryd.func27, Tryd.ntmps27
          go_wp2
          go_ret
          exact ⟨rfl, rfl⟩
      · go_enter Tryd.func27, Tryd.ntmps27
        go_wp2
        go_ret
        exact ⟨rfl, rfl⟩
    · go_enter Tryd.func27, Tryd.ntmps27
      go_wp2
      go_ret
      exact ⟨rfl, rfl⟩
  · have i3 : decide ((1 : Int) < l.length) = false := decide_eq_false (by omega)
    have hd : hasL doubles (l.take 2) = false := by
      cases hx : hasL doubles (l.take 2)
      · rfl
      · have := doubles_len hx
        rw [List.length_take] at this
        omega
    rw [hm, hd]
    clear hm hd
    generalize l.take 1 = y at *
    cases b
    · go_enter Tryd.func27, Tryd.ntmps27
      go_wp2
      go_ret
      exact ⟨rfl, rfl⟩
    · go_enter Tryd.func27, Tryd.ntmps27
      go_wp2
      go_ret
      exact ⟨rfl, rfl⟩

/-- What a beginning of letters and digits is as a token: (kind, text, number), and what is wrong. -/
def nameK (l : Str) : Int := if isWord l = true then 3 else 1

theorem token_name (l : Str) (w : World) :
    Calls Tryd.prog 25 #[encStr l] w fun e w' => e = .returned (if 20 < l.length then .tuple #[.agg #[.int .i64 0, encStr [], .int .i64 0, .int .i64 0], .int .i64 6] else .tuple #[.agg #[.int .i64 (nameK l), encStr l, .int .i64 0, .int .i64 0], .int .i64 0]) ∧ Below w.heap.size w w' := by
  have HW := Lib.hid (token_Word l)
  by_cases h : 20 < l.length
  · rw [if_pos h]
    have i1 : decide ((20 : Int) < l.length) = true := decide_eq_true (by omega)
    go_enter Tryd.func25, Tryd.ntmps25
    go_wp2
    refine bodyPost_ret (by simp [results, Tryd.results25, go_sem, *] <;> rfl) rfl ⟨rfl, (by repeat (first | (with_reducible assumption) | (with_reducible exact Below.refl _ _) | (with_reducible refine Below.alloc ?_ (by first | omega | (simp; omega) | (simp; done) | (dsimp only; omega)) _) | (with_reducible refine Below.setCell ?_ (by first | omega | (simp; omega) | (simp; done) | (dsimp only; omega)) _) | (with_reducible refine Below.drew ?_) | (with_reducible refine Below.trans ?_ (Below.mono (by assumption) (by first | omega | (simp; omega) | (simp; done) | (dsimp only; omega))))))⟩
  · rw [if_neg h]
    have i1 : decide ((20 : Int) < l.length) = false := decide_eq_false (by omega)
    unfold nameK
    generalize isWord l = b at *
    cases b
    · go_enter Tryd.func25, Tryd.ntmps25
      go_wp2_with (go_at_call 12; refine (HW.out _).mono ?_; rintro e w1 ⟨rfl, rfl⟩)
      refine bodyPost_ret (by simp [results, Tryd.results25, go_sem, *] <;> rfl) rfl ⟨rfl, (by repeat (first | (with_reducible assumption) | (with_reducible exact Below.refl _ _) | (with_reducible refine Below.alloc ?_ (by first | omega | (simp; omega) | (simp; done) | (dsimp only; omega)) _) | (with_reducible refine Below.setCell ?_ (by first | omega | (simp; omega) | (simp; done) | (dsimp only; omega)) _) | (with_reducible refine Below.drew ?_) | (with_reducible refine Below.trans ?_ (Below.mono (by assumption) (by first | omega | (simp; omega) | (simp; done) | (dsimp only; omega))))))⟩
    · go_enter Tryd.func25, Tryd.ntmps25
      go_wp2_with (go_at_call 12; refine (HW.out _).mono ?_; rintro e w1 ⟨rfl, rfl⟩)
      refine bodyPost_ret (by simp [results, Tryd.results25, go_sem, *] <;> rfl) rfl ⟨rfl, (by repeat (first | (with_reducible assumption) | (with_reducible exact Below.refl _ _) | (with_reducible refine Below.alloc ?_ (by first | omega | (simp; omega) | (simp; done) | (dsimp only; omega)) _) | (with_reducible refine Below.setCell ?_ (by first | omega | (simp; omega) | (simp; done) | (dsimp only; omega)) _) | (with_reducible refine Below.drew ?_) | (with_reducible refine Below.trans ?_ (Below.mono (by assumption) (by first | omega | (simp; omega) | (simp; done) | (dsimp only; omega))))))⟩
end Go.Proofs.YtgaecojdebpcgaaDoor
