/- For any wide number and any slice of them, WideBests returns true, and both read behind the call as they read before it. No condition. -/
import Derived.Test.YtphicgdllhmgdaaLawC
import Derived.Test.YtphicgdllhmgdaaOpenW
namespace Go.Proofs.Ytphicgdllhmgdaa
open Go.ChangeShapes Go.WideShapes Go.ChangeAt Go.RowKit Go.Joins

theorem law_wideBests' (a b : Int) (ha : I64 a) (hb : U64 b) (l : List Int) (A : Option Addr) (c : Nat) (w : World) (hl : ∀ x ∈ l, I128 x) (hm : l.length ≤ 9223372036854775807) (hr : WRow w A l) :
    Calls Try.prog 6 #[.agg #[.int .i64 a, .int .u64 b], .slice A l.length c] w fun e w' => e = .returned (.bool true) ∧ Below w.heap.size w w' := by
  have h := law_wideBests (wv a b) l A c w (I128_wv ha hb) hl hm hr
  rw [hiW_wv _ _ hb, loW_wv _ _ hb] at h
  exact h

set_option maxRecDepth 100000 in
theorem wideBests_lifted (os : Os) (started : os.Started) (H : Type) (enc : TypeId × Value → H) :
    ReturnsInHanded {} Try.checked os 6 .any (Rows.wideBestsSpec.pre6 enc Try.prog Try.f6 Rows.wideBestsRow.domain false) (Rows.wideBestsSpec.post enc Try.prog Try.f6 false true false false) := by
  refine returnsInHanded_of_change (C := Try.checked) Try.own started (by kernel_rfl) Try.func6
    (ChangeSpec.witness6 (enc := enc) (C := Try.checked) false ⟨#[], #[.agg #[.int .i64 0, .int .u64 0], .slice none 0 0], []⟩ 8 (by kernel_rfl) (by kernel_rfl) (by kernel_rfl) (by kernel_rfl)) ?_
  intro W base args ds gs before hval0 hW _ _
  have hval : ∀ (j : Nat) t v, Try.f6.params[j]? = some t → args[j]? = some v → Value.okWide Try.prog W .any base t v := hval0
  have hW' := hW
  obtain ⟨p, q, hA0, hV, rfl, _, _⟩ := hW
  have hA : DataW.TrodAll enc Try.prog W 0 (fun _ => true) true Try.f6.params.toList args.toList ds p := hA0
  rw [Try.params6] at hA hval
  obtain ⟨v0, v1, d0, d1, p0, p1, rfl, rfl, rfl, h0, h1⟩ := trodAll_two hA
  obtain ⟨rfl, rfl⟩ := trodVars_none hV
  have k0 := h0
  have lt0 := trod_lt_of k0
  have k1 := h1
  have lt1 := trod_lt_of k1
  obtain ⟨c00, c01, y00, y01, m0, rfl, rfl, rfl, hy00, hy01⟩ := open_agg2 Try.underlying24 (by kernel_rfl) (by kernel_rfl) (hval 0 24 v0 rfl rfl) h0
  obtain ⟨a, z00, rfl, wa⟩ := DataW.trod_int Try.underlying2 hy00
  obtain ⟨b, z01, rfl, wb⟩ := DataW.trod_int Try.underlying22 hy01
  simp at z00 z01
  subst z00 z01
  obtain ⟨A, l, k, rfl, rowl, maxl, alll⟩ := open_wrow Try.underlying36 Try.underlying24 (by kernel_rfl) Try.underlying2 Try.underlying22 (by kernel_rfl) (hval 1 36 v1 rfl rfl) h1
  clear hA0 hval0
  refine (law_wideBests' a b (i64_of_wf wa) (u64_of_wf wb) l A k W alll maxl rowl).mono fun e W' ⟨he, bel⟩ => ?_
  subst he
  exact ⟨_, rfl, _, _, _, [], _, [], hW', trodAll_mk1 (shut_bool Try.underlying4 _), trodAll_mk2 (Below.trod Try.laidOut (by kernel_rfl) (of_decide_eq_true (by kernel_rfl)) k0 bel lt0) (Below.trod Try.laidOut (by kernel_rfl) (of_decide_eq_true (by kernel_rfl)) k1 bel lt1), rfl, bel.frame _, fun h => by cases h⟩

theorem wideBests_holds : Rows.WideBestsSaid :=
  OpenClaim.holds_of_wide 6 Try.f6 rfl rfl rfl rfl rfl rfl rfl ⟨rfl, rfl, rfl, rfl, rfl⟩ rfl rfl rfl rfl rfl (by kernel_rfl) Try.func6 (by kernel_rfl)
    (of_decide_eq_true (by kernel_rfl)) (by unfold Func.isWrapper; rw [if_neg (of_decide_eq_false (by kernel_rfl))]; exact ⟨rfl, rfl⟩)
    (fun os started H enc _ => wideBests_lifted os started H enc)
end Go.Proofs.Ytphicgdllhmgdaa
