/- Below, one behind the other. -/
import Derived.Test.YtblnchcgeepemaaDoorW8
import Derived.Test.YtblnchcgeepemaaDoorW5
namespace Go.Proofs.YtblnchcgeepemaaDoor
open Go.RowKit
theorem below_then {W w w1 : World} (h : Below W.heap.size W w) (hb : Below w.heap.size w w1) : Below W.heap.size W w1 := h.trans (hb.mono h.size)
end Go.Proofs.YtblnchcgeepemaaDoor