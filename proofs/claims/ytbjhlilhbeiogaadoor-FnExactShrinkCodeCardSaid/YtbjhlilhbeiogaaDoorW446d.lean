/- ReachOf and its model answer alike. -/
import Derived.Test.YtbjhlilhbeiogaaDoorW445d
namespace Go.Proofs.YtbjhlilhbeiogaaDoor
open Go.RowKit Go.Shelf
set_option linter.unusedSimpArgs false
theorem nowhere_any (x : Int) (w : World) : Calls Tryd.prog 59 #[.int .i64 x] w fun e w' => e = .returned (.bool false) ∧ w = w' := by
  go_enter Tryd.func59, Tryd.ntmps59
  go_wp2
  go_ret
  exact ⟨rfl, rfl⟩
theorem MarkRes.congr {k : Nat} {f g : Nat → Bool} {w w' : World} {e : Ending} (h : MarkRes k f w e w') (hf : ∀ y, y < k → f y = g y) : MarkRes k g w e w' := by
  obtain ⟨v, he, ho, hg⟩ := h
  exact ⟨v, he, by rw [← bolL_congr k f g hf]; exact ho, hg⟩
theorem MarkRes.after {k : Nat} {f : Nat → Bool} {w w1 w2 : World} {e : Ending} (hg : w.grownBy w1 none) (h : MarkRes k f w1 e w2) : MarkRes k f w e w2 := by
  obtain ⟨v, he, ho, h2⟩ := h
  exact ⟨v, he, World.ownsRow.mono ho hg.size, grown_same hg h2⟩
theorem MarkRes.nil (f : Nat → Bool) (w w' : World) (hg : w.grownBy w' none) : MarkRes 0 f w (.returned (.slice none 0 0)) w' := ⟨_, rfl, World.ownsRow_nil _ _ _ _, hg⟩
/-- What 'reached' leaves without a cut. -/
theorem reached_no (A : Option Addr) (n c : Nat) (F : Nat → Ins) (w : World) (hv : vcB n F = true) (hwt : WT w) (h : Code w A n F) :
    Calls Tryd.prog 58 #[.slice A n c, .func (.func 59) #[] #[]] w fun e w' => ∃ r : Nat → Bool, (∀ y, y ≤ n → (r y = true ↔ Way F n noCut 0 y)) ∧ MarkRes (n + 1) r w e w' := by
  refine reached_any A n c 59 #[] F noCut (fun _ => True) w hv hwt h trivial (fun _ _ _ _ _ => trivial) (enters_of Tryd.func59 (by kernel_rfl) rfl) (fun x W _ _ _ _ => ?_)
  refine (nowhere_any (x : Int) W).mono ?_
  rintro e w' ⟨rfl, rfl⟩
  exact ⟨rfl, grown_refl _ _⟩
end Go.Proofs.YtbjhlilhbeiogaaDoor
