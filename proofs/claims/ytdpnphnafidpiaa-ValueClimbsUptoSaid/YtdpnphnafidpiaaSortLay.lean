/- sort.Slice, laid at this program. -/
import Derived.Test.YtdpnphnafidpiaaRows
import Derived.Shelf.GgSortFunc.Whole
import Derived.Shelf.GgSortFunc.Tiny
import Derived.Shelf.Lay
import Derived.Ground.GgsProg
namespace Go.Proofs.Ytdpnphnafidpiaa
open Go.Shelf
shelf_lay LaysGg.n6 Ggs 6 at Try as Try.sa6
end Go.Proofs.Ytdpnphnafidpiaa
