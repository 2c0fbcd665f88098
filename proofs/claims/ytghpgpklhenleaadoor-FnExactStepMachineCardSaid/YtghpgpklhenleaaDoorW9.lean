/- Below, one behind the other. -/
import Derived.Test.YtghpgpklhenleaaDoorW8
import Derived.Test.YtghpgpklhenleaaDoorW5
namespace Go.Proofs.YtghpgpklhenleaaDoor
open Go.RowKit
theorem below_then {W w w1 : World} (h : Below W.heap.size W w) (hb : Below w.heap.size w w1) : Below W.heap.size W w1 := h.trans (hb.mono h.size)
end Go.Proofs.YtghpgpklhenleaaDoor