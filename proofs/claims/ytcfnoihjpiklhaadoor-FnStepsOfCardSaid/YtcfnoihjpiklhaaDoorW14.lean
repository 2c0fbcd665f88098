/- Walks of the model's DecodeInstr and of its law. -/
import Derived.Test.YtcfnoihjpiklhaaDoorW13
import Derived.Test.YtcfnoihjpiklhaaDoorW10
namespace Go.Proofs.YtcfnoihjpiklhaaDoor
open Go.ChangeShapes Go.WideShapes Go.ChangeAt Go.WideMaps Go.WideElems Go.RowKit
set_option linter.unusedSimpArgs false

set_option maxHeartbeats 1000000 in
theorem eqInstr_same (op : ByteArray) (d a b k : Int) (w : World) :
    Calls Tryd.prog 36 #[IV op d a b k, IV op d a b k] w fun e w' => e = .returned (.bool true) ∧ ∃ o1 o2, (w.alloc o1).alloc o2 = w' := by
  go_enter Tryd.func36, Tryd.ntmps36
  go_wp2
  go_ret
  exact ⟨rfl, _, _, rfl⟩

end Go.Proofs.YtcfnoihjpiklhaaDoor
