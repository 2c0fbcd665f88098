/- How far an instruction is behind one that writes what it reads, by the program. -/
import Derived.Test.YtlmjbflnfpccdaaDoorU10
import Derived.Test.YtlmjbflnfpccdaaDoorU31
import Derived.Test.YtlmjbflnfpccdaaDoorW952
namespace Go.Proofs.YtlmjbflnfpccdaaDoor
open Go.RowKit
set_option linter.unusedSimpArgs false
set_option maxRecDepth 100000 in
set_option maxHeartbeats 2000000 in
theorem lag_any (c : Ins) (fw : Bool) (w : World) (hg : WT w) :
    Calls Tryd.prog 68 #[IV c.op c.d c.a c.b c.k, .bool fw] w fun e w' => e = .returned (.int .i64 (lg c fw)) ∧ w.grownBy w' none := by
  obtain ⟨op, d, a, b, k⟩ := c
  unfold lg
  dsimp only
  have h5 := word5 op.toList
  have HWO := shade (fun W (hW : WT W) => wordOf_any op W hW)
  have HG := shade hg
  clear hg
  rcases fw with _ | _
  · go_enter Tryd.func68, Tryd.ntmps68
    go_wp2_with fail
    go_ret
    exact ⟨rfl, World.grownBy_alloc _ _ none⟩
  · generalize (op.toList == [108, 100]) = x at *
    generalize wordN op.toList = n at *
    rcases x with _ | _
    all_goals
      go_enter Tryd.func68, Tryd.ntmps68
      go_wp2_with fail
      refine (HWO.out _ (HG.out.alloc _)).mono ?_
      rintro e w1 ⟨rfl, rfl⟩
      go_wp2_with fail
      go_ret
      exact ⟨rfl, World.grownBy_alloc _ _ none⟩
end Go.Proofs.YtlmjbflnfpccdaaDoor
