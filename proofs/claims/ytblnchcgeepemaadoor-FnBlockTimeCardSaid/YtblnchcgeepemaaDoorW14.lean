/- Walks of the model's DecodeInstr and of its law. -/
import Derived.Test.YtblnchcgeepemaaDoorW13
import Derived.Test.YtblnchcgeepemaaDoorW10
namespace Go.Proofs.YtblnchcgeepemaaDoor
open Go.ChangeShapes Go.WideShapes Go.ChangeAt Go.WideMaps Go.WideElems Go.RowKit
set_option linter.unusedSimpArgs false

end Go.Proofs.YtblnchcgeepemaaDoor
