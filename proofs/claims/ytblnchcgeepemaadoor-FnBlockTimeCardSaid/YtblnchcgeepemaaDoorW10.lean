/- The opening of an instruction that came in. -/
import Derived.Test.YtblnchcgeepemaaDoorW9
import Derived.Test.YtblnchcgeepemaaDoorCards
import Derived.Test.YtblnchcgeepemaaDoorTie
import Derived.SevenTiedAt
namespace Go.Proofs.YtblnchcgeepemaaDoor
open Go.ChangeShapes Go.WideShapes Go.ChangeAt Go.WideMaps Go.WideElems Go.RowKit

theorem wt_lt {w : World} (h : WT w) : 0 < w.heap.size := by
  obtain ⟨_, _, h⟩ := h
  exact (Array.getElem?_eq_some_iff.1 h).1
theorem cells9 : Tryd.prog.cellsOf 9 = 1 := by kernel_rfl
theorem cells3 : Tryd.prog.cellsOf 3 = 1 := by kernel_rfl
end Go.Proofs.YtblnchcgeepemaaDoor
