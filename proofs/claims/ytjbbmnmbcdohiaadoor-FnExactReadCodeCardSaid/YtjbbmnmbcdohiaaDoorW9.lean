/- Below, one behind the other. -/
import Derived.Test.YtjbbmnmbcdohiaaDoorW8
import Derived.Test.YtjbbmnmbcdohiaaDoorW5
namespace Go.Proofs.YtjbbmnmbcdohiaaDoor
open Go.RowKit
theorem below_then {W w w1 : World} (h : Below W.heap.size W w) (hb : Below w.heap.size w w1) : Below W.heap.size W w1 := h.trans (hb.mono h.size)
end Go.Proofs.YtjbbmnmbcdohiaaDoor