/- Plain arithmetic of digits of 16 bits. -/
import Derived.Test.YtbjdiaakhlgcgaaMathA
namespace Go.Proofs.Ytbjdiaakhlgcgaa
open Go.RowKit
def dg (n : Nat) (x : Int) : Int := x / 65536 ^ n % 65536
theorem dg0 (x : Int) : dg 0 x = x % 65536 := by unfold dg; omega
theorem dg1 (x : Int) : dg 1 x = x / 65536 % 65536 := by unfold dg; omega
theorem dg2 (x : Int) : dg 2 x = x / 65536 / 65536 % 65536 := by unfold dg; omega
theorem dg3 (x : Int) : dg 3 x = x / 65536 / 65536 / 65536 % 65536 := by unfold dg; omega
/-- A digit. -/
def D16 (x : Int) : Prop := 0 ≤ x ∧ x < 65536
theorem dg_D16 (n : Nat) (x : Int) : D16 (dg n x) := by unfold D16 dg; omega
def cat4 (a b c d : Int) : Int := ((d * 65536 + c) * 65536 + b) * 65536 + a
theorem cat4_dg {x : Int} (h : U64 x) : cat4 (dg 0 x) (dg 1 x) (dg 2 x) (dg 3 x) = x := by
  rw [dg0, dg1, dg2, dg3]; unfold U64 M64 at h; unfold cat4; omega
theorem cat4_U64 {a b c d : Int} (ha : D16 a) (hb : D16 b) (hc : D16 c) (hd : D16 d) : U64 (cat4 a b c d) := by
  unfold D16 at *; unfold cat4 U64 M64; omega

/-- Sums of digits, with what is carried. -/
theorem add_dig4 {x0 x1 x2 x3 y0 y1 y2 y3 c0 c1 c2 c3 c4 : Int}
    (h1 : c1 = (x0 + y0 + c0) / 65536) (h2 : c2 = (x1 + y1 + c1) / 65536) (h3 : c3 = (x2 + y2 + c2) / 65536) (h4 : c4 = (x3 + y3 + c3) / 65536) :
    cat4 ((x0 + y0 + c0) % 65536) ((x1 + y1 + c1) % 65536) ((x2 + y2 + c2) % 65536) ((x3 + y3 + c3) % 65536) = (cat4 x0 x1 x2 x3 + cat4 y0 y1 y2 y3 + c0) % 18446744073709551616
      ∧ c4 = (cat4 x0 x1 x2 x3 + cat4 y0 y1 y2 y3 + c0) / 18446744073709551616 := by
  unfold cat4; constructor <;> omega
theorem add_dig {a b c d : Int} (hb : U64 b) (hd : U64 d) {c1 c2 c3 c4 c5 c6 c7 : Int}
    (h1 : c1 = (dg 0 b + dg 0 d) / 65536) (h2 : c2 = (dg 1 b + dg 1 d + c1) / 65536) (h3 : c3 = (dg 2 b + dg 2 d + c2) / 65536) (h4 : c4 = (dg 3 b + dg 3 d + c3) / 65536)
    (h5 : c5 = (dg 0 (IntKind.u64.wrap a) + dg 0 (IntKind.u64.wrap c) + c4) / 65536) (h6 : c6 = (dg 1 (IntKind.u64.wrap a) + dg 1 (IntKind.u64.wrap c) + c5) / 65536) (h7 : c7 = (dg 2 (IntKind.u64.wrap a) + dg 2 (IntKind.u64.wrap c) + c6) / 65536) :
    cat4 ((dg 0 b + dg 0 d) % 65536) ((dg 1 b + dg 1 d + c1) % 65536) ((dg 2 b + dg 2 d + c2) % 65536) ((dg 3 b + dg 3 d + c3) % 65536) = loW (wrap128 (wv a b + wv c d))
      ∧ wrap64 (cat4 ((dg 0 (IntKind.u64.wrap a) + dg 0 (IntKind.u64.wrap c) + c4) % 65536) ((dg 1 (IntKind.u64.wrap a) + dg 1 (IntKind.u64.wrap c) + c5) % 65536) ((dg 2 (IntKind.u64.wrap a) + dg 2 (IntKind.u64.wrap c) + c6) % 65536) ((dg 3 (IntKind.u64.wrap a) + dg 3 (IntKind.u64.wrap c) + c7) % 65536)) = hiW (wrap128 (wv a b + wv c d)) := by
  have A := add_dig4 (c0 := 0) (by simpa using h1) h2 h3 h4
  have B := add_dig4 (x3 := dg 3 (IntKind.u64.wrap a)) (y3 := dg 3 (IntKind.u64.wrap c)) h5 h6 h7 rfl
  rw [cat4_dg hb, cat4_dg hd] at A
  rw [cat4_dg (U64.wrap a), cat4_dg (U64.wrap c)] at B
  simp only [Int.add_zero] at A
  refine ⟨A.1.trans (add_lo a b c d), ?_⟩
  rw [B.1, A.2]; exact add_hi a b c d
end Go.Proofs.Ytbjdiaakhlgcgaa
