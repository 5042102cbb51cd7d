/- X-PARTIAL strconv.Atoi, laid at this program. -/
import Derived.Test.YtgaecojdebpcgaaDoorRows
import Derived.Shelf.Strconv.AtoiAll
import Derived.Shelf.Strconv.ErrVarAll
import Derived.Shelf.Lay
import Derived.Lib.AtoiErrMem
import Derived.Ground.NamesProg
namespace Go.Proofs.YtgaecojdebpcgaaDoor
open Go.Shelf Go.RowKit
shelf_lay LaysC.n172 Nm 172 at Tryd as Tryd.lays172
theorem strconv_Atoi_ok (s : ByteArray) (w : World) (v : Int) (hm : s.size ≤ 9223372036854775806) (h : Lib.atoiAll s.data.toList = .ok v) :
    Calls Tryd.prog 33 #[.string s] w fun e w' => e = .returned (.tuple #[.int .i64 v, .nilIface]) ∧ Below w.heap.size w w' := by
  refine (Any.strconv_Atoi_ok Tryd.lays172 s hm v h w).mono ?_
  rintro e w' ⟨rfl, h | ⟨t, h⟩⟩
  · subst h; exact ⟨rfl, Below.refl _ _⟩
  · subst h; exact ⟨rfl, Lib.bytesWorld_below _ _ _⟩
theorem strconv_Atoi_range (s : ByteArray) (w : World) (hm : s.size ≤ 281474976710656) (h : Lib.atoiAll s.data.toList = .range) (tp : TypeId) (p : Value) (hv : w.var? Tryd.prog "strconv.ErrRange" = some #[.iface tp p]) :
    Calls Tryd.prog 33 #[.string s] w fun e w' => (∃ x t q, e = .returned (.tuple #[.int .i64 x, .iface t q])) ∧ Below w.heap.size w w' := by
  refine (Any.strconv_Atoi_range_var Tryd.lays172 s hm h tp p w hv).mono ?_
  rintro e w' ⟨N, rfl, -, -, hb⟩
  exact ⟨⟨_, _, _, rfl⟩, hb⟩
end Go.Proofs.YtgaecojdebpcgaaDoor
