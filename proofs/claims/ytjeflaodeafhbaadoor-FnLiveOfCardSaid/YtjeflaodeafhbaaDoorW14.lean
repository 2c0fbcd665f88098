/- Walks of the model's DecodeInstr and of its law. -/
import Derived.Test.YtjeflaodeafhbaaDoorW13
import Derived.Test.YtjeflaodeafhbaaDoorW10
namespace Go.Proofs.YtjeflaodeafhbaaDoor
open Go.ChangeShapes Go.WideShapes Go.ChangeAt Go.WideMaps Go.WideElems Go.RowKit
set_option linter.unusedSimpArgs false

end Go.Proofs.YtjeflaodeafhbaaDoor
