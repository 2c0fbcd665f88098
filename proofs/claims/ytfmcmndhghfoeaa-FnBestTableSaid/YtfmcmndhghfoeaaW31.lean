/- Walks of the laws' helpers over slices of numbers: compare, mark, test, copy, measure. -/
import Derived.Test.YtfmcmndhghfoeaaW30
namespace Go.Proofs.Ytfmcmndhghfoeaa
open Go.RowKit
theorem info3 : (Try.prog.info? 3).map (fun i => (i.zero, i.size, i.bytes)) = some (some (.int .i64 0), 1, 8) := by kernel_rfl


theorem made_zero (n : Nat) : (madeCells #[Value.int .i64 0] n).toList = numL n (fun _ => 0) := by
  rw [toList_madeCells_one]
  unfold numL
  rw [List.map_const', List.length_range]
end Go.Proofs.Ytfmcmndhghfoeaa