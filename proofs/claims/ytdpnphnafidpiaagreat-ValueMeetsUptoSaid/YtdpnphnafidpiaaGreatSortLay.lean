/- sort.Slice, laid at this program. -/
import Derived.Test.YtdpnphnafidpiaaGreatRows
import Derived.Shelf.GgSortFunc.Whole
import Derived.Shelf.GgSortFunc.Tiny
import Derived.Shelf.Lay
import Derived.Ground.GgsProg
namespace Go.Proofs.YtdpnphnafidpiaaGreat
open Go.Shelf
shelf_lay LaysGg.n6 Ggs 6 at Tryz as Tryz.sa6
end Go.Proofs.YtdpnphnafidpiaaGreat
