/- X-PARTIAL The longest beginning of some kinds: layer 10. -/
import Derived.Test.YtfammopenanapaaDoorTokB
import Derived.Lib.OthersKept
namespace Go.Proofs.YtfammopenanapaaDoor
open Go.RowKit Go.Lib

def kB (c : UInt8) : Int := kindOf c.toNat

theorem mk_size (l : Str) : (⟨l.toArray⟩ : ByteArray).size = l.length := by
  show l.toArray.size = _
  simp
theorem mk_get (l : Str) (i : Nat) (h : i < l.length) : (⟨l.toArray⟩ : ByteArray)[i]'(by rw [mk_size]; exact h) = l[i] := by
  show l.toArray[i] = _
  simp

/-- What a string's iterator gives at a byte. -/
theorem decode_kind (l : Str) (pos : Nat) (h : pos < l.length) :
    kindOf (Utf8.decode ⟨l.toArray⟩ pos).1 = kB l[pos] ∧ (Utf8.decode ⟨l.toArray⟩ pos).1 ≤ 2147483647 ∧ 1 ≤ (Utf8.decode ⟨l.toArray⟩ pos).2 ∧ (kB l[pos] ≠ 0 → (Utf8.decode ⟨l.toArray⟩ pos).2 = 1) := by
  have hp : pos < (⟨l.toArray⟩ : ByteArray).size := by rw [mk_size]; exact h
  have hg := mk_get l pos h
  refine ⟨?_, decode_le _ _, ?_, ?_⟩
  · by_cases ha : ((⟨l.toArray⟩ : ByteArray)[pos]'hp).toNat < 128
    · rw [decode_ascii _ _ hp ha, hg]; rfl
    · have := (decode_high _ _ hp (by omega)).1
      rw [kindOf_high (by omega)]
      unfold kB
      rw [kindOf_high (by rw [hg] at ha; omega)]
  · by_cases ha : ((⟨l.toArray⟩ : ByteArray)[pos]'hp).toNat < 128
    · rw [decode_ascii _ _ hp ha]
      exact Nat.le_refl _
    · exact (decode_high _ _ hp (by omega)).2
  · intro hk
    by_cases ha : ((⟨l.toArray⟩ : ByteArray)[pos]'hp).toNat < 128
    · rw [decode_ascii _ _ hp ha]
    · exact absurd (kindOf_high (by rw [hg] at ha; omega)) hk

/-- The longest beginning of kinds a and b. -/
def pre (a b : Int) (l : Str) : Str := l.takeWhile fun c => kB c == a || kB c == b

theorem pre_stop {a b : Int} {l : Str} {pos : Nat} (h : pos < l.length) (ht : ∀ c ∈ l.take pos, (kB c == a || kB c == b) = true) (hn : (kB l[pos] == a || kB l[pos] == b) = false) : l.take pos = pre a b l := by
  unfold pre
  induction l generalizing pos with
  | nil => simp at h
  | cons x l ih =>
    cases pos with
    | zero => simp only [List.take_zero]; rw [List.takeWhile_cons, if_neg (by simpa using hn)]
    | succ p =>
      rw [List.take_succ_cons] at ht ⊢
      rw [List.takeWhile_cons, if_pos (ht x List.mem_cons_self)]
      rw [ih (pos := p) (by simpa using h) (fun c hc => ht c (List.mem_cons_of_mem _ hc)) (by simpa using hn)]
theorem pre_all {a b : Int} {l : Str} (ht : ∀ c ∈ l, (kB c == a || kB c == b) = true) : pre a b l = l := by
  unfold pre
  induction l with
  | nil => rfl
  | cons x l ih => rw [List.takeWhile_cons, if_pos (ht x List.mem_cons_self), ih fun c hc => ht c (List.mem_cons_of_mem _ hc)]

theorem pre_next {a b : Int} {l : Str} {pos : Nat} (h : pos < l.length) (ht : ∀ c ∈ l.take pos, (kB c == a || kB c == b) = true) (hn : (kB l[pos] == a || kB l[pos] == b) = true) : ∀ c ∈ l.take (pos + 1), (kB c == a || kB c == b) = true := by
  intro c hc
  rw [List.take_succ_eq_append_getElem h, List.mem_append] at hc
  rcases hc with hc | hc
  · exact ht c hc
  · rw [List.mem_singleton] at hc; subst hc; exact hn

def PreRel (a b : Int) (l : Str) (N : Nat) (w wr : World) : Prop :=
  ∃ pos : Nat, wr.heap[N]? = some (.stringIter ⟨l.toArray⟩ pos) ∧ Below N w wr ∧ pos ≤ l.length ∧ ∀ c ∈ l.take pos, (kB c == a || kB c == b) = true

set_option maxHeartbeats 4000000 in
theorem token_prefix (l : Str) (a b : Int) (w : World) (ha : a ≠ 0) (hb : b ≠ 0) :
    Calls Tryd.prog 50 #[encStr l, .int .i64 a, .int .i64 b] w fun e w' => e = .returned (encStr (pre a b l)) ∧ Below w.heap.size w w' := by
  go_enter Tryd.func50, Tryd.ntmps50
  go_wp2
  go_loopw [] (fun wr => PreRel a b l w.heap.size w wr) (fun wr => l.length - wr.iterPos w.heap.size)
  case atStart => exact ⟨0, World.iter_heap _ _ _, below_iter _ _ _, Nat.zero_le _, by simp⟩
  case round =>
    obtain ⟨pos, hit, hbw, hle, hall⟩ := hrel
    have hN : w.heap.size < wr.heap.size := (Array.getElem?_eq_some_iff.1 hit).1
    by_cases hp : pos < l.length
    · obtain ⟨dk, d1, d2, d3⟩ := decode_kind l pos hp
      have hnx : ∀ ty, (Instr.next (.pointer (some ⟨w.heap.size, 0, none⟩)) true ty).run Tryd.prog wr = _ := fun ty => run_next_any_at wr w.heap.size ⟨l.toArray⟩ pos ty hit (by rw [mk_size]; exact hp)
      have hit2 := iterAt_heap wr w.heap.size ⟨l.toArray⟩ pos (pos + (Utf8.decode ⟨l.toArray⟩ pos).2) hit
      have hbw2 := below_iterAt hbw (k := w.heap.size) (Nat.le_refl _) ⟨l.toArray⟩ (pos + (Utf8.decode ⟨l.toArray⟩ pos).2)
      have hsz := iterAt_size wr w.heap.size ⟨l.toArray⟩ (pos + (Utf8.decode ⟨l.toArray⟩ pos).2)
      generalize Utf8.decode ⟨l.toArray⟩ pos = d at *
      generalize wr.iterAt w.heap.size ⟨l.toArray⟩ (pos + d.2) = X at *
      have HK := fun w' => token_kind (d.1 : Int) w' (by omega) (by omega)
      rw [dk] at HK
      have HKK := Lib.hid HK
      have HA := Lib.hid hall
      have HS := Lib.hid (fun h => pre_stop hp hall h)
      have HN := Lib.hid (pre_next (a := a) (b := b) hp hall)
      clear hall HA HK dk d1
      generalize kB l[pos] = k at *
      go_wp2_with fail
      go_at_call 49
      refine (HKK.out X).mono ?_
      rintro e w1 ⟨rfl, hb1⟩
      have hit3 := (hb1.block _ (by omega)).trans hit2
      have hbw3 := hbw2.trans (hb1.mono (by omega))
      have hN3 : w.heap.size < w1.heap.size := (Array.getElem?_eq_some_iff.1 hit3).1
      clear hnx hbw2 hb1 hit2 hsz
      cases h1 : k != a
      · have e1 : k = a := by simpa using h1
        have hd : d.2 = 1 := d3 (by omega)
        have hn := Lib.hid (HN.out (by rw [e1]; simp))
        clear e1
        go_wp2
        go_roundw
        case rel => exact ⟨pos + 1, by rw [← hd]; exact hit3, hbw3, by omega, hn.out⟩
        case measure => simp only [World.iterPos, hit3, hit]; omega
      · cases h2 : k != b
        · have e2 : k = b := by simpa using h2
          have hd : d.2 = 1 := d3 (by omega)
          have hn := Lib.hid (HN.out (by rw [e2]; simp))
          clear e2
          go_wp2
          go_roundw
          case rel => exact ⟨pos + 1, by rw [← hd]; exact hit3, hbw3, by omega, hn.out⟩
          case measure => simp only [World.iterPos, hit3, hit]; omega
        · have he := Lib.hid (HS.out (by simp at h1 h2; simp [h1, h2]))
          go_wp2
          go_ret
          exact ⟨by rw [← he.out]; simp [ByteArray.extract_mk], hbw3⟩
    · have hnx : ∀ ty, (Instr.next (.pointer (some ⟨w.heap.size, 0, none⟩)) true ty).run Tryd.prog wr = _ := fun ty => run_next_end_at wr w.heap.size ⟨l.toArray⟩ pos ty hit (by rw [mk_size]; exact hp)
      have HE := Lib.hid (pre_all (a := a) (b := b) (l := l) (by rwa [List.take_of_length_le (by omega)] at hall))
      go_wp2
      go_ret
      exact ⟨by rw [HE.out]; rfl, hbw⟩
end Go.Proofs.YtfammopenanapaaDoor
