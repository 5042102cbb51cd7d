/- X-PARTIAL Numbers as tokens: layer 10. -/
import Derived.Test.YtfammopenanapaaDoorTokH
namespace Go.Proofs.YtfammopenanapaaDoor
open Go.RowKit Go.Lib

/-- The variable that strconv.Atoi's error holds. -/
def RV (w : World) : Prop := ∃ tp p, w.var? Tryd.prog "strconv.ErrRange" = some #[.iface tp p]
theorem RV.mono {w w' : World} (h : RV w) (hb : Below w.heap.size w w') : RV w' := by
  obtain ⟨tp, p, h⟩ := h
  exact ⟨tp, p, Go.Joins.var_stays (g := 6) (by kernel_rfl) h hb (Nat.le_refl _)⟩

theorem atoi_low (d : Str) (w : World) (hd : Digits d) (hn : d ≠ []) (hm : d.length ≤ 281474976710656) (h : numV 0 d ≤ 9223372036854775807) :
    Calls Tryd.prog 53 #[encStr d] w fun e w' => e = .returned (.tuple #[.int .i64 (numV 0 d), .nilIface]) ∧ Below w.heap.size w w' :=
  strconv_Atoi_ok ⟨d.toArray⟩ w _ (by rw [mk_size]; omega) (by rw [show (⟨d.toArray⟩ : ByteArray).data.toList = d by simp, atoi_is hd hn, if_pos h])
theorem atoi_high (d : Str) (w : World) (hd : Digits d) (hn : d ≠ []) (hm : d.length ≤ 281474976710656) (h : ¬ numV 0 d ≤ 9223372036854775807) (hv : RV w) :
    Calls Tryd.prog 53 #[encStr d] w fun e w' => (∃ x t q, e = .returned (.tuple #[.int .i64 x, .iface t q])) ∧ Below w.heap.size w w' := by
  obtain ⟨tp, p, hv⟩ := hv
  exact strconv_Atoi_range ⟨d.toArray⟩ w (by rw [mk_size]; omega) (by rw [show (⟨d.toArray⟩ : ByteArray).data.toList = d by simp, atoi_is hd hn, if_neg h]) tp p hv

/-- What digits d are as a token, with which a text begins that has q letters and digits; and what is wrong. -/
def numT (q : Nat) (d : Str) : Value :=
  if (d.head? = some 48 ∧ 1 < d.length) ∨ d.length < q then .tuple #[.agg #[.int .i64 0, encStr [], .int .i64 0, .int .i64 0], .int .i64 3]
  else if numV 0 d ≤ 9223372036854775807 then .tuple #[.agg #[.int .i64 2, encStr d, .int .i64 (numV 0 d), .int .i64 0], .int .i64 0]
  else .tuple #[.agg #[.int .i64 0, encStr [], .int .i64 0, .int .i64 0], .int .i64 4]

end Go.Proofs.YtfammopenanapaaDoor
