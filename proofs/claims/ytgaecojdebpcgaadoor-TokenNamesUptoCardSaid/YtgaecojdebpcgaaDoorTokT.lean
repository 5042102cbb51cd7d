/- X-PARTIAL What was read, joined, is read again: layer 10. -/
import Derived.Test.YtgaecojdebpcgaaDoorTokN
import Derived.Test.YtgaecojdebpcgaaDoorTokR
import Derived.Lib.Join
namespace Go.Proofs.YtgaecojdebpcgaaDoor
open Go.RowKit Go.Lib

theorem takeWhile_all {p : UInt8 → Bool} : ∀ (l u : Str) (x : UInt8), (∀ c ∈ l, p c = true) → p x = false → (l ++ x :: u).takeWhile p = l
  | [], u, x, _, h => by rw [List.nil_append, List.takeWhile_cons, h]; rfl
  | c :: r, u, x, ha, h => by rw [List.cons_append, List.takeWhile_cons, if_pos (ha c List.mem_cons_self), takeWhile_all r u x (fun y hy => ha y (List.mem_cons_of_mem _ hy)) h]

/-- A token that is read alike, wherever a blank stands behind its text. -/
def Firm (x : TR) : Prop := x.e = 0 ∧ (∃ c r, x.t = c :: r ∧ kB c ≠ 1) ∧ ∀ u : Str, oneF (x.t ++ 32 :: u) false = x

theorem oneF_name {c : UInt8} (r : Str) (h : kB c = 2) : oneF (c :: r) false = nameF (pre 2 3 (c :: r)) := by
  rw [oneF_cons, if_pos (Or.inl h), if_neg (by decide), h]; rfl
theorem oneF_num {c : UInt8} (r : Str) (h : kB c = 3) : oneF (c :: r) false = numF (pre 2 3 (c :: r)).length (pre 3 3 (c :: r)) := by
  rw [oneF_cons, if_pos (Or.inr h), if_neg (by decide), h]; rfl
theorem oneF_mark {c : UInt8} (r : Str) (h : kB c = 4) (hm : mark (c :: r) ≠ []) : oneF (c :: r) false = ⟨3, mark (c :: r), 0, 0⟩ := by
  rw [oneF_cons, if_neg (by rw [h]; decide), if_pos ⟨h, hm⟩, if_neg (by decide)]

theorem firm_name (c : UInt8) (r : Str) (h : kB c = 2) (he : (oneF (c :: r) false).e = 0) : Firm (oneF (c :: r) false) := by
  have ha := pre_alnum (c :: r)
  have hc : alnum c = true := by unfold alnum; rw [h]; rfl
  rw [oneF_name r h] at he ⊢
  obtain ⟨q, hq⟩ : ∃ q, pre 2 3 (c :: r) = c :: q := ⟨r.takeWhile alnum, by rw [pre_is, List.takeWhile_cons, if_pos hc]⟩
  rw [hq] at he ha ⊢
  have e20 : ¬ 20 < (c :: q).length := fun hh => by
    rw [nameF, if_pos hh] at he
    exact absurd he (by decide)
  have en : nameF (c :: q) = ⟨nameK (c :: q), c :: q, 0, 0⟩ := if_neg e20
  rw [en]
  refine ⟨rfl, ⟨c, q, rfl, by rw [h]; decide⟩, fun u => ?_⟩
  show oneF (c :: (q ++ 32 :: u)) false = _
  rw [oneF_name _ h, show (c :: (q ++ 32 :: u) : Str) = (c :: q) ++ 32 :: u from rfl, pre_is, takeWhile_all _ _ _ ha (by decide), en]

theorem firm_num (c : UInt8) (r : Str) (h : kB c = 3) (he : (oneF (c :: r) false).e = 0) : Firm (oneF (c :: r) false) := by
  have ha := pre_digits (c :: r)
  have hc : isD c = true := by unfold isD; rw [h]; rfl
  rw [oneF_num r h] at he ⊢
  obtain ⟨q, hq⟩ : ∃ q, pre 3 3 (c :: r) = c :: q := ⟨r.takeWhile isD, by rw [pre33, List.takeWhile_cons, if_pos hc]⟩
  rw [hq] at he ha ⊢
  generalize (pre 2 3 (c :: r)).length = m at he ⊢
  have h1 : ¬ (((c :: q : Str).head? = some 48 ∧ 1 < (c :: q).length) ∨ (c :: q).length < m) := fun hh => by
    rw [numF, if_pos hh] at he
    exact absurd he (by decide)
  have h2 : numV 0 (c :: q) ≤ 9223372036854775807 := by
    rw [numF, if_neg h1] at he
    by_cases hh : numV 0 (c :: q) ≤ 9223372036854775807
    · exact hh
    · rw [if_neg hh] at he
      exact absurd he (by decide)
  have en : ∀ k, ¬ (((c :: q : Str).head? = some 48 ∧ 1 < (c :: q).length) ∨ (c :: q).length < k) → numF k (c :: q) = ⟨2, c :: q, numV 0 (c :: q), 0⟩ := fun k hk => by
    unfold numF
    rw [if_neg hk, if_pos h2]
  rw [en m h1]
  refine ⟨rfl, ⟨c, q, rfl, by rw [h]; decide⟩, fun u => ?_⟩
  show oneF (c :: (q ++ 32 :: u)) false = _
  have hd : ∀ x ∈ (c :: q : Str), isD x = true := fun x hx => by
    unfold isD; rw [kB_digit.2 (ha x hx)]; rfl
  have hd2 : ∀ x ∈ (c :: q : Str), alnum x = true := fun x hx => by
    unfold alnum; rw [kB_digit.2 (ha x hx)]; rfl
  rw [oneF_num _ h, show (c :: (q ++ 32 :: u) : Str) = (c :: q) ++ 32 :: u from rfl, pre_is, takeWhile_all _ _ _ hd2 (by decide), pre33, takeWhile_all _ _ _ hd (by decide)]
  exact en _ (fun hh => h1 (by
    rcases hh with hh | hh
    · exact Or.inl hh
    · exact absurd hh (Nat.lt_irrefl _)))

theorem firm_mark (c : UInt8) (r : Str) (h : kB c = 4) (hm : mark (c :: r) ≠ []) : Firm (oneF (c :: r) false) := by
  rw [oneF_mark r h hm]
  have hx : ∃ q, mark (c :: r) = c :: q ∧ ∀ u : Str, mark (c :: (q ++ 32 :: u)) = c :: q := by
    by_cases hd : hasL doubles ((c :: r).take 2) = true
    · obtain ⟨a, b, he, -⟩ := double_head hd
      have hm2 : mark (c :: r) = [a, b] := by unfold mark; rw [if_pos hd, he]
      have hc : a = c := by
        rw [List.take_succ_cons] at he
        exact ((List.cons.inj he).1).symm
      subst hc
      refine ⟨[b], hm2, fun u => ?_⟩
      rw [he] at hd
      unfold mark
      rw [if_pos (show hasL doubles ((a :: ([b] ++ 32 :: u)).take 2) = true from hd)]
      rfl
    · by_cases h124 : c = 124
      · subst h124
        refine absurd ?_ hm
        unfold mark
        rw [if_neg hd]
        rfl
      · have hh : ∀ v : Str, ¬ (c :: v).head? = some 124 := fun v hv => h124 (Option.some.inj hv)
        refine ⟨[], ?_, fun u => ?_⟩
        · unfold mark
          rw [if_neg hd, if_neg (hh _)]
          rfl
        · have h32 : ¬ hasL doubles ((c :: ([] ++ 32 :: u)).take 2) = true := by
            show ¬ hasL doubles [c, 32] = true
            rw [hasL_doubles]
            simp
          unfold mark
          rw [if_neg h32, if_neg (hh _)]
          rfl
  obtain ⟨q, hq, hu⟩ := hx
  rw [hq]
  refine ⟨rfl, ⟨c, q, rfl, by rw [h]; decide⟩, fun u => ?_⟩
  show oneF (c :: (q ++ 32 :: u)) false = _
  rw [oneF_mark _ h (by rw [hu]; simp), hu]

theorem firm_one {t : Str} (he : (oneF t false).e = 0) : Firm (oneF t false) := by
  cases t with
  | nil => exact absurd (show (3 : Int) = 0 from he) (by decide)
  | cons c r =>
    by_cases h2 : kB c = 2
    · exact firm_name c r h2 he
    · by_cases h3 : kB c = 3
      · exact firm_num c r h3 he
      · by_cases h4 : kB c = 4 ∧ mark (c :: r) ≠ []
        · exact firm_mark c r h4.1 h4.2
        · rw [oneF_cons, if_neg (by simp [h2, h3]), if_neg h4] at he
          exact absurd (show (3 : Int) = 0 from he) (by decide)

def FirmT (n : Nat) (x : Tok) : Prop := Firm ⟨x.k, x.t, x.n, 0⟩ ∧ x.t.length ≤ n

/-- Texts that stand one behind the other, a blank behind each. -/
def flat : List Tok → Str
  | [] => []
  | x :: L => x.t ++ 32 :: flat L

theorem read_firm (s : Str) : ∀ (n a : Nat) (L : List Tok), s.length - a ≤ n → L.length ≤ 4000 → (readG s a L).2.2 = 0 →
    ∃ M : List Tok, readG s a L = (L ++ M ++ [⟨0, [], 0, s.length⟩], 0, 0) ∧ (∀ x ∈ M, FirmT s.length x) ∧ L.length + M.length ≤ 4000 := by
  intro n
  induction n with
  | zero =>
    intro a L h hL _
    exact ⟨[], by rw [readG_end (by omega), List.append_nil], fun x hx => absurd hx List.not_mem_nil, by simpa using hL⟩
  | succ n ih =>
    intro a L h hL he
    by_cases hlt : a < s.length
    · by_cases hk : kB s[a] = 1
      · rw [readG_blank hlt hk] at he ⊢
        exact ih _ _ (by omega) hL he
      · by_cases h0 : (oneF (s.drop a) (decide (4000 ≤ L.length))).e = 0
        · obtain ⟨h1, h2, h3, h4⟩ := readG_tok hlt hk rfl h0
          have hm : decide (4000 ≤ L.length) = false := decide_eq_false (by omega)
          rw [hm] at h0 h1 h3 h4
          have hf := firm_one h0
          rw [h1] at he ⊢
          obtain ⟨M, e1, e2, e3⟩ := ih _ _ (by omega) (by simp; omega) he
          refine ⟨⟨(oneF (s.drop a) false).k, (oneF (s.drop a) false).t, (oneF (s.drop a) false).n, a⟩ :: M, ?_, ?_, ?_⟩
          · rw [e1, List.append_assoc, List.append_assoc, List.append_assoc]
            rfl
          · intro x hx
            rcases List.mem_cons.1 hx with rfl | hx
            · refine ⟨?_, by show (oneF (s.drop a) false).t.length ≤ _; omega⟩
              show Firm ⟨(oneF (s.drop a) false).k, (oneF (s.drop a) false).t, (oneF (s.drop a) false).n, 0⟩
              rw [← h0]
              exact hf
            · exact e2 x hx
          · simp at e3 ⊢; omega
        · rw [readG_bad hlt hk rfl h0] at he
          exact absurd he h0
    · exact ⟨[], by rw [readG_end hlt, List.append_nil], fun x hx => absurd hx List.not_mem_nil, by simpa using hL⟩

/-- Tokens that are the same but for where they stand. -/
def alike (x y : Tok) : Prop := y.k = x.k ∧ y.t = x.t ∧ y.n = x.n
inductive Alike : List Tok → List Tok → Prop
  | nil : Alike [] []
  | cons {x y : Tok} {L M : List Tok} (h : alike x y) (t : Alike L M) : Alike (x :: L) (y :: M)
theorem alike_same {L M : List Tok} (h : Alike L M) : SameT false L M := by
  induction h with
  | nil => exact SameT.refl _ _
  | cons h t ih =>
    obtain ⟨h1, h2⟩ := ih
    refine ⟨by simp [h1], fun i hi hj => ?_⟩
    cases i with
    | zero => exact ⟨h.1, h.2.1, h.2.2, fun e => by cases e⟩
    | succ i => exact h2 i (by simpa using hi) (by simpa using hj)

theorem read_flat (s : Str) (n : Nat) : ∀ (M : List Tok) (a : Nat) (L : List Tok), (∀ x ∈ M, FirmT n x) → s.drop a = flat M → a ≤ s.length → L.length + M.length ≤ 4000 →
    ∃ N : List Tok, readG s a L = (L ++ N ++ [⟨0, [], 0, s.length⟩], 0, 0) ∧ Alike M N
  | [], a, L, _, hd, ha, _ => by
    have := congrArg List.length hd
    rw [List.length_drop] at this
    exact ⟨[], by rw [readG_end (by simp [flat] at this; omega), List.append_nil], .nil⟩
  | x :: M, a, L, hf, hd, ha, hl => by
    obtain ⟨⟨_, ⟨c, r, ht, hk⟩, hu⟩, _⟩ := hf x List.mem_cons_self
    have ht' : x.t = c :: r := ht
    have hd' : s.drop a = x.t ++ 32 :: flat M := hd
    have hlen := congrArg List.length hd'
    rw [List.length_drop, List.length_append, List.length_cons] at hlen
    have hlt : a < s.length := by omega
    have hc : s[a] = c := by
      have : (s.drop a)[0]? = some c := by rw [hd', ht']; rfl
      rw [List.getElem?_drop, Nat.add_zero, List.getElem?_eq_getElem hlt] at this
      exact Option.some.inj this
    have hone : oneF (s.drop a) (decide (4000 ≤ L.length)) = ⟨x.k, x.t, x.n, 0⟩ := by
      rw [decide_eq_false (by simp at hl; omega), hd']
      exact hu _
    have h1 := (readG_tok hlt (by rw [hc]; exact hk) hone rfl).1
    have hd2 : s.drop (a + x.t.length) = 32 :: flat M := by rw [← List.drop_drop, hd', List.drop_left]
    have hlt2 : a + x.t.length < s.length := by omega
    have hc2 : s[a + x.t.length] = 32 := by
      have : (s.drop (a + x.t.length))[0]? = some 32 := by rw [hd2]; rfl
      rw [List.getElem?_drop, Nat.add_zero, List.getElem?_eq_getElem hlt2] at this
      exact Option.some.inj this
    have hd3 : s.drop (a + x.t.length + 1) = flat M := by rw [← List.drop_drop, hd2]; rfl
    obtain ⟨N, e1, e2⟩ := read_flat s n M (a + x.t.length + 1) (L ++ [⟨x.k, x.t, x.n, a⟩]) (fun y hy => hf y (List.mem_cons_of_mem _ hy)) hd3 (by omega) (by simp at hl ⊢; omega)
    refine ⟨⟨x.k, x.t, x.n, a⟩ :: N, ?_, .cons ⟨rfl, rfl, rfl⟩ e2⟩
    rw [h1, readG_blank hlt2 (by rw [hc2]; decide), e1, List.append_assoc, List.append_assoc, List.append_assoc]
    rfl

theorem join_flat : ∀ (M : List Tok) (y : Tok), y.t = [] → Lib.join ((M ++ [y]).map Tok.t) [32] = flat M
  | [], y, h => by
    show Lib.join [y.t] [32] = _
    rw [Lib.join_one, h]; rfl
  | [x], y, h => by
    show Lib.join [x.t, y.t] [32] = _
    rw [Lib.join_cons, h]; rfl
  | x :: z :: M, y, h => by
    have ih := join_flat (z :: M) y h
    rw [List.cons_append, List.map_cons, Lib.join_cons] at ih
    show Lib.join (x.t :: z.t :: (M ++ [y]).map Tok.t) [32] = _
    rw [Lib.join_cons]
    show x.t ++ Lib.joinTail [32] (z.t :: (M ++ [y]).map Tok.t) = x.t ++ 32 :: flat (z :: M)
    rw [← ih]
    simp [Lib.joinTail]

theorem flat_len : ∀ (n : Nat) (M : List Tok), (∀ x ∈ M, FirmT n x) → (flat M).length ≤ M.length * (n + 1)
  | n, [], _ => Nat.zero_le _
  | n, x :: M, h => by
    have ih := flat_len n M (fun y hy => h y (List.mem_cons_of_mem _ hy))
    have := (h x List.mem_cons_self).2
    rw [flat, List.length_append, List.length_cons, List.length_cons, Nat.succ_mul]
    omega

/-- What a text that can be read is, joined, and read again. -/
theorem read_back (s : Str) (he : (readF s).2.2 = 0) :
    Lib.join ((readF s).1.map Tok.t) [32] = flat ((readF s).1.dropLast) ∧ (Lib.join ((readF s).1.map Tok.t) [32]).length ≤ 140737488355328 ∧
    ((Lib.join ((readF s).1.map Tok.t) [32]).length ≤ 20000 → (readF (Lib.join ((readF s).1.map Tok.t) [32])).2.2 = 0 ∧ SameT false (readF s).1 (readF (Lib.join ((readF s).1.map Tok.t) [32])).1) := by
  have hs : ¬ 20000 < s.length := fun h => by
    rw [readF, if_pos h] at he
    exact absurd he (by decide)
  have e0 : readF s = readG s 0 [] := if_neg hs
  rw [e0] at he ⊢
  obtain ⟨M, h1, h2, h3⟩ := read_firm s s.length 0 [] (by omega) (by simp) he
  rw [List.nil_append] at h1
  rw [h1]
  show Lib.join ((M ++ [(⟨0, [], 0, s.length⟩ : Tok)]).map Tok.t) [32] = flat ((M ++ [(⟨0, [], 0, s.length⟩ : Tok)]).dropLast) ∧ (Lib.join ((M ++ [(⟨0, [], 0, s.length⟩ : Tok)]).map Tok.t) [32]).length ≤ 140737488355328 ∧ ((Lib.join ((M ++ [(⟨0, [], 0, s.length⟩ : Tok)]).map Tok.t) [32]).length ≤ 20000 → (readF (Lib.join ((M ++ [(⟨0, [], 0, s.length⟩ : Tok)]).map Tok.t) [32])).2.2 = 0 ∧ SameT false (M ++ [(⟨0, [], 0, s.length⟩ : Tok)]) (readF (Lib.join ((M ++ [(⟨0, [], 0, s.length⟩ : Tok)]).map Tok.t) [32])).1)
  rw [join_flat M _ rfl, List.dropLast_concat]
  refine ⟨rfl, ?_, fun hl => ?_⟩
  · have hlen := flat_len s.length M h2
    rw [List.length_nil, Nat.zero_add] at h3
    have := Nat.mul_le_mul h3 (show s.length + 1 ≤ 20001 by omega)
    omega
  · rw [show readF (flat M) = readG (flat M) 0 [] from if_neg (by omega)]
    obtain ⟨N, g1, g2⟩ := read_flat (flat M) s.length M 0 [] h2 rfl (Nat.zero_le _) h3
    rw [g1, List.nil_append]
    refine ⟨rfl, ?_⟩
    show SameT false (M ++ [⟨0, [], 0, s.length⟩]) (N ++ [⟨0, [], 0, (flat M).length⟩])
    refine alike_same ?_
    have hx : ∀ {A B : List Tok} {x y : Tok}, Alike A B → alike x y → Alike (A ++ [x]) (B ++ [y]) := by
      intro A B x y hab hxy
      induction hab with
      | nil => exact .cons hxy .nil
      | cons h _ ih => exact .cons h ih
    exact hx g2 ⟨rfl, rfl, rfl⟩
end Go.Proofs.YtgaecojdebpcgaaDoor
