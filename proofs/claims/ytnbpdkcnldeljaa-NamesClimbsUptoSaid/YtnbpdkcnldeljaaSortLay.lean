/- sort.Slice, laid at this program. -/
import Derived.Test.YtnbpdkcnldeljaaRows
import Derived.Shelf.GgSortFunc.Whole
import Derived.Shelf.GgSortFunc.Tiny
import Derived.Shelf.Lay
import Derived.Ground.GgsProg
namespace Go.Proofs.Ytnbpdkcnldeljaa
open Go.Shelf
shelf_lay LaysGg.n6 Ggs 6 at Try as Try.sa6
end Go.Proofs.Ytnbpdkcnldeljaa
