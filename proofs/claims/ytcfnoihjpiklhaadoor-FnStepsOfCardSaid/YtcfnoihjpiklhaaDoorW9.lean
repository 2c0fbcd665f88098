/- Below, one behind the other. -/
import Derived.Test.YtcfnoihjpiklhaaDoorW8
import Derived.Test.YtcfnoihjpiklhaaDoorW5
namespace Go.Proofs.YtcfnoihjpiklhaaDoor
open Go.RowKit
theorem below_then {W w w1 : World} (h : Below W.heap.size W w) (hb : Below w.heap.size w w1) : Below W.heap.size W w1 := h.trans (hb.mono h.size)
end Go.Proofs.YtcfnoihjpiklhaaDoor