/- X-PARTIAL The kinds of bytes and runes: layer 10. -/
import Derived.Test.YtfammopenanapaaDoorKit
import Derived.Test.YtfammopenanapaaDoorSeqg
import Derived.Test.YtfammopenanapaaDoorStrLay
import Derived.Test.YtfammopenanapaaDoorNamA
import Derived.Laws.RangeAny
import Derived.Laws.Runes
import Derived.LoopTactic
import Derived.Scope
import Derived.ScopeJumps
import Derived.WalkKit
import Derived.BigCall
import Derived.IntWalk
import Derived.Deep.DeepCutAuto
import Derived.RegionTactic
import Derived.Sort.EncStr
namespace Go.Proofs.YtfammopenanapaaDoor
open Go.RowKit Go.Lib

def signs : List Int := [40, 41, 123, 125, 91, 93, 59, 44, 61, 60, 43, 45, 42, 47, 37, 33, 38, 124]
def isSign (r : Int) : Bool := signs.contains r
def signS : ByteArray := ⟨#[40, 41, 123, 125, 91, 93, 59, 44, 61, 60, 43, 45, 42, 47, 37, 33, 38, 124]⟩
/-- The kind of a rune: 1 blank, 2 letter, 3 digit, 4 sign, 0 other. -/
def kindOf (r : Int) : Int :=
  if r = 32 ∨ r = 9 ∨ r = 10 ∨ r = 13 then 1
  else if 97 ≤ r ∧ r ≤ 122 ∨ 65 ≤ r ∧ r ≤ 90 ∨ r = 95 then 2
  else if 48 ≤ r ∧ r ≤ 57 then 3
  else if isSign r = true then 4 else 0

theorem isSign_high {r : Int} (h : 128 ≤ r) : isSign r = false := by
  unfold isSign signs
  simp only [List.contains_cons, List.contains_nil, Bool.or_false, Bool.or_eq_false_iff, beq_eq_false_iff_ne, ne_eq]
  omega
theorem kindOf_high {r : Int} (h : 128 ≤ r) : kindOf r = 0 := by
  unfold kindOf
  rw [if_neg (by omega), if_neg (by omega), if_neg (by omega), isSign_high h]
  rfl
set_option maxRecDepth 100000 in
theorem sign_is : ∀ n : Nat, n < 128 → decide (0 ≤ Lib.indexByte signS.data.toList n.toUInt8) = isSign n := by decide
theorem sign_is' {r : Int} (h0 : 0 ≤ r) (h1 : r < 128) : decide (0 ≤ Lib.indexByte signS.data.toList r.toNat.toUInt8) = isSign r := by
  obtain ⟨n, rfl⟩ := Int.eq_ofNat_of_zero_le h0
  exact sign_is n (by omega)

theorem encStr_ascii {s : ByteArray} (hs : ∀ b ∈ s.data.toList, b.toNat < 128) {i : Nat} (h : i < s.size) : (s[i]'h).toNat < 128 :=
  hs _ (Array.getElem_mem_toList (xs := s.data) h)

theorem below_iter (w : World) (s : ByteArray) (pos : Nat) : Below w.heap.size w (w.iter s pos) := (Below.refl _ w).alloc (Nat.le_refl _) _
theorem idx_none {c : UInt8} : ∀ {l : List UInt8}, (∀ b ∈ l, b ≠ c) → Lib.indexByte l c = -1
  | [], _ => rfl
  | b :: l, h => by
    have e : (b == c) = false := by simpa using h b List.mem_cons_self
    unfold Lib.indexByte
    rw [e, idx_none fun x hx => h x (List.mem_cons_of_mem _ hx)]
    rfl

theorem strings_IndexByte_none (s : ByteArray) (c : Nat) (w : World) (h : Lib.indexByte s.data.toList (c : Int).toNat.toUInt8 = -1) :
    Calls Tryd.prog 80 #[.string s, .int .u8 c] w fun e w' => e = .returned (.int .i64 (-1)) ∧ w = w' := by
  have H := strings_IndexByte s c w
  rw [h] at H
  refine H.mono ?_
  rintro e w1 ⟨rfl, rfl⟩
  exact ⟨rfl, rfl⟩
theorem utf8_ValidRune (r : Int) (w : World) (h0 : 128 ≤ r) (h : r < 55296 ∨ 57343 < r ∧ r ≤ 1114111) :
    Calls Tryd.prog 81 #[.int .i32 r] w fun e w' => e = .returned (.bool true) ∧ w = w' := by
  have t1 : decide (0 ≤ r) = true := decide_eq_true (by omega)
  by_cases h' : r < 55296
  · have t2 : decide (r < 55296) = true := decide_eq_true h'
    go_enter Tryd.func81, Tryd.ntmps81
    go_wp2
    go_ret
    exact ⟨rfl, rfl⟩
  · have t2 : decide (r < 55296) = false := decide_eq_false h'
    have t3 : decide (57343 < r) = true := decide_eq_true (by omega)
    have t4 : decide (r ≤ 1114111) = true := decide_eq_true (by omega)
    go_enter Tryd.func81, Tryd.ntmps81
    go_wp2
    go_ret
    exact ⟨rfl, rfl⟩

set_option maxHeartbeats 4000000 in
set_option maxRecDepth 1000000 in
/-- A rune that isn't of one byte is in no text of ASCII. -/
theorem strings_IndexRune_high (s : ByteArray) (hs : ∀ b ∈ s.data.toList, b.toNat < 128) (r : Int) (w : World) (h0 : 128 ≤ r) (h1 : r ≤ 2147483647) :
    Calls Tryd.prog 72 #[.string s, .int .i32 r] w fun e w' => e = .returned (.int .i64 (-1)) ∧ Below w.heap.size w w' := by
  have t1 : decide (0 ≤ r) = true := decide_eq_true (by omega)
  have t2 : decide (r < 128) = false := decide_eq_false (by omega)
  by_cases hf : r = 65533
  · subst hf
    go_enter Tryd.func72, Tryd.ntmps72
    go_wp2
    go_loopw [] (fun wr => ∃ pos : Nat, wr = w.iter s pos) (fun wr => s.size - wr.iterPos w.heap.size)
    case atStart => exact ⟨0, rfl⟩
    case round =>
      obtain ⟨pos, rfl⟩ := hrel
      by_cases hp : pos < s.size
      · have hlt := encStr_ascii hs hp
        have hnx := fun ty => run_next_ascii (P := Tryd.prog) w s pos ty hp hlt
        generalize (s[pos]'hp).toNat = b at *
        have t3 : ((b : Int) == 65533) = false := by simp; omega
        go_wp2
        go_roundw
        case rel => exact ⟨pos + 1, rfl⟩
        case measure => simp; omega
      · have hnx := fun ty => run_next_end (P := Tryd.prog) w s pos ty hp
        go_wp2
        go_ret
        exact ⟨rfl, below_iter _ _ _⟩
  · have t3 : (r == 65533) = false := by simpa using hf
    by_cases hv : r < 55296 ∨ 57343 < r ∧ r ≤ 1114111
    · obtain ⟨e2, e4, el⟩ := encode_facts r (by rw [validRune_eq]; unfold validRune; exact decide_eq_true (by omega)) h0
      generalize hrs : Utf8.encode r = rs at *
      obtain ⟨n, hn⟩ : ∃ n, rs.size = n + 1 := ⟨rs.size - 1, by omega⟩
      have el' := el (by omega)
      clear el
      have hn1 : rs.size - 1 = n := by omega
      simp only [hn1] at el'
      have hi : n < rs.size := by omega
      generalize hc : (rs[n]'hi).toNat = c at *
      have hc2 : c < 256 := by rw [← hc]; exact UInt8.toNat_lt _
      have hn4 : n ≤ 3 := by omega
      have w0 : wrap64 (n : Int) = n := by unfold wrap64; omega
      have hix : ∀ a e, Lib.indexByte (s.extract a e).data.toList (c : Int).toNat.toUInt8 = -1 := fun a e => idx_none fun b hb h => by
        have := hs b (mem_extract hb)
        rw [h] at this
        simp at this
        omega
      have HIX := Lib.hid (fun a e w' => strings_IndexByte_none (s.extract a e) c w' (hix a e))
      clear e2 e4 hix
      by_cases hl : n < s.size
      · have w4 : decide ((n : Int) < s.size) = true := decide_eq_true (by omega)
        have w3 : wrap64 ((n : Int) + 1) = n + 1 := by unfold wrap64; omega
        have w3' : IntKind.i64.wrap ((n : Int) + 1) = n + 1 := IntWalk.i64_in ((n : Int) + 1) (by omega)
        have w5 : (n : Int) + 1 ≤ s.size := by omega
        have w8 : (n : Int) < (n : Int) + 1 := by omega
        have w6 : (0 : Int) ≤ (n : Int) + 1 := by omega
        have w7 : ((n : Int) + 1).toNat = n + 1 := by omega
        have hb := encStr_ascii hs hl
        generalize hbe : (s[n]'hl).toNat = b at *
        have w2 : ((b : Int) == c) = false := by simp; omega
        have w9 : ((b : Int) != c) = true := by simp [bne, w2]
        go_enter Tryd.func72, Tryd.ntmps72
        go_wp2_with fail
        go_at_call 81
        refine (utf8_ValidRune r w h0 hv).mono ?_
        rintro e w' ⟨rfl, rfl⟩
        go_wp2_with fail
        refine wp_scope_straight ?_
        go_wp2_with fail
        refine wp_loop_rounds 1 ?_
        rw [rounds_succ]
        go_wp2_with fail
        refine wp_scope_straight ?_
        go_wp2_with fail
        clear hrs hn1 el' hs hv
        refine region_seq (S := fun w' => Below w.heap.size w w') rfl (by kernel_rfl) (by kernel_rfl) (by repeat (first | (with_reducible assumption) | (with_reducible exact Below.refl _ _) | (with_reducible refine Below.alloc ?_ (by first | omega | (simp; omega) | (simp; done) | (dsimp only; omega)) _) | (with_reducible refine Below.setCell ?_ (by first | omega | (simp; omega) | (simp; done) | (dsimp only; omega)) _) | (with_reducible refine Below.drew ?_) | (with_reducible refine Below.trans ?_ (Below.mono (by assumption) (by first | omega | (simp; omega) | (simp; done) | (dsimp only; omega)))))) (fun fin hfin => ?_)
        iterate 7
          first
            | (refine SeqL.yes (v := ?_) (A' := ?_) rfl (by rfl) ?_ ?_ ?_
               rotate_left 2
               · intro w' K hS hK
                 obtain ⟨hc, hf⟩ := bcell hS
                 have hz := hS.size
                 go_simp
                 first
                   | exact hK.out _ hS
                   | trace_state
               · simp only [Act.put, List.setIfInBounds_toArray, List.set_cons_zero, List.set_cons_succ]; exact rfl)
            | (refine SeqL.no (A' := ?_) rfl (by rfl) ?_ ?_
               rotate_left
               · simp only [Act.put, List.setIfInBounds_toArray, List.set_cons_zero, List.set_cons_succ]; exact rfl)
        refine SeqL.nil (hfin.out _ ?_)
        clear hfin fin
        intro w1 hS1
        go_wp2_with fail
        have hA := hS1
        clear hS1
        generalize w1 = X at *
        refine region_seq (S := fun w' => Below X.heap.size X w') rfl (by kernel_rfl) (by kernel_rfl) (by repeat (first | (with_reducible assumption) | (with_reducible exact Below.refl _ _) | (with_reducible refine Below.alloc ?_ (by first | omega | (simp; omega) | (simp; done) | (dsimp only; omega)) _) | (with_reducible refine Below.setCell ?_ (by first | omega | (simp; omega) | (simp; done) | (dsimp only; omega)) _) | (with_reducible refine Below.drew ?_) | (with_reducible refine Below.trans ?_ (Below.mono (by assumption) (by first | omega | (simp; omega) | (simp; done) | (dsimp only; omega)))))) (fun fin hfin => ?_)
        iterate 9
          first
            | (refine SeqL.yes (v := ?_) (A' := ?_) rfl (by rfl) ?_ ?_ ?_
               rotate_left 2
               · intro w' K hS hK
                 obtain ⟨hc, hf⟩ := bcell hS
                 have hz := hS.size
                 go_simp
                 first
                   | exact hK.out _ hS
                   | (go_at_call 80; (with_reducible refine (HIX.out _ _ w').mono ?_); rintro e w1 ⟨rfl, rfl⟩; exact hK.out _ hS)
                   | trace_state
               · simp only [Act.put, List.setIfInBounds_toArray, List.set_cons_zero, List.set_cons_succ]; exact rfl)
            | (refine SeqL.no (A' := ?_) rfl (by rfl) ?_ ?_
               rotate_left
               · simp only [Act.put, List.setIfInBounds_toArray, List.set_cons_zero, List.set_cons_succ]; exact rfl)
        refine SeqL.nil (hfin.out _ ?_)
        clear hfin fin
        intro w1 hS1
        go_wp2_with fail
        simp only [Exit.noGoto, Exit.inBlock, Exit.then]
        go_ret
        exact ⟨rfl, hA.trans (hS1.mono hA.size)⟩
      · have w4 : decide ((n : Int) < s.size) = false := decide_eq_false (by omega)
        go_enter Tryd.func72, Tryd.ntmps72
        go_wp2_with fail
        go_at_call 81
        refine (utf8_ValidRune r w h0 hv).mono ?_
        rintro e w' ⟨rfl, rfl⟩
        go_wp2_with fail
        refine wp_scope_straight ?_
        go_wp2_with fail
        refine wp_loop_rounds 1 ?_
        rw [rounds_succ]
        go_wp2_with fail
        simp only [Exit.noGoto, Exit.inBlock]
        go_ret
        exact ⟨rfl, Below.refl _ _⟩
    · have v1 : decide (r < 55296) = false := decide_eq_false (by omega)
      by_cases hw : 57343 < r
      · have v2 : decide (57343 < r) = true := decide_eq_true (by omega)
        have v3 : decide (r ≤ 1114111) = false := decide_eq_false (by omega)
        go_enter Tryd.func72, Tryd.ntmps72
        go_wp2
        go_ret
        exact ⟨rfl, (by repeat (first | (with_reducible assumption) | (with_reducible exact Below.refl _ _) | (with_reducible refine Below.alloc ?_ (by first | omega | (simp; omega) | (simp; done) | (dsimp only; omega)) _) | (with_reducible refine Below.setCell ?_ (by first | omega | (simp; omega) | (simp; done) | (dsimp only; omega)) _) | (with_reducible refine Below.drew ?_) | (with_reducible refine Below.trans ?_ (Below.mono (by assumption) (by first | omega | (simp; omega) | (simp; done) | (dsimp only; omega))))))⟩
      · have v2 : decide (57343 < r) = false := decide_eq_false (by omega)
        go_enter Tryd.func72, Tryd.ntmps72
        go_wp2
        go_ret
        exact ⟨rfl, (by repeat (first | (with_reducible assumption) | (with_reducible exact Below.refl _ _) | (with_reducible refine Below.alloc ?_ (by first | omega | (simp; omega) | (simp; done) | (dsimp only; omega)) _) | (with_reducible refine Below.setCell ?_ (by first | omega | (simp; omega) | (simp; done) | (dsimp only; omega)) _) | (with_reducible refine Below.drew ?_) | (with_reducible refine Below.trans ?_ (Below.mono (by assumption) (by first | omega | (simp; omega) | (simp; done) | (dsimp only; omega))))))⟩
end Go.Proofs.YtfammopenanapaaDoor
