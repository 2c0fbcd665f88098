/- ValidWide, by both. -/
import Derived.Test.YtjjjgjnhiffpnaaDoorW805
namespace Go.Proofs.YtjjjgjnhiffpnaaDoor
open Go.RowKit
theorem validWide_both (n : Nat) (F : Nat → Wid) (hn : n ≤ 9223372036854775807) :
    ∃ v : Bool, (∀ A c W, Wds W A n F → Calls Tryd.prog 16 #[.slice A n c] W fun e w' => e = .returned (.bool v) ∧ W.grownBy w' none) ∧
      (∀ A c W, WT W → Wds W A n F → Calls Tryd.prog 18 #[.slice A n c] W fun e w' => e = .returned (.bool v) ∧ W.grownBy w' none) :=
  ⟨_, fun A c W h => SpecValidWide_any A n c F W hn h, fun A c W hw h => ValidWide_any A n c F W hw hn h⟩
end Go.Proofs.YtjjjgjnhiffpnaaDoor
