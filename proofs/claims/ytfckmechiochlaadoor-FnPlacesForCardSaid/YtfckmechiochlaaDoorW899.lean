/- LiveWide answers as its model for what is drawn; what is needed is made, and what the next one takes is needed. -/
import Derived.Test.YtfckmechiochlaaDoorW896
import Derived.Test.YtfckmechiochlaaDoorW898
namespace Go.Proofs.YtfckmechiochlaaDoor
open Go.RowKit Go.Shelf
theorem nK_or (k : Nat) (F : Nat → Wid) (x : Int) : nK k F x = 0 ∨ (nK k F x = k ∧ vkB k F x = true) := by
  unfold nK
  rcases hv : vkB k F x with _ | _
  · exact .inl rfl
  · rw [if_pos rfl]
    exact .inr ⟨rfl, rfl⟩
end Go.Proofs.YtfckmechiochlaaDoor
