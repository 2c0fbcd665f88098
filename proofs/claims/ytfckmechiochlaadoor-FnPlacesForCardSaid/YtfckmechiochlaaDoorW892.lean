/- The draws of wide instructions. -/
import Derived.Test.YtfckmechiochlaaDoorW891
import Derived.Test.YtfckmechiochlaaDoorW805
namespace Go.Proofs.YtfckmechiochlaaDoor
open Go.RowKit
/-- What is drawn: some wide instructions; nothing that was there has changed. -/
def DrawW (w : World) (e : Ending) (w' : World) : Prop :=
  ∃ (g' k c : Nat) (f : Nat → Wid), e = .returned (.slice (some ⟨g', 0, none⟩) k c) ∧ k ≤ 8 ∧ (k ≤ c ∧ c ≤ maxLen) ∧ Wds w' (some ⟨g', 0, none⟩) k f ∧ w.grownBy w' none
theorem Wds.cut {w : World} {A : Option Addr} {n m : Nat} {f : Nat → Wid} (h : Wds w A n f) (hm : m ≤ n) : Wds w A m f := by
  rcases h with h | ⟨b, off, hA, hb, hc⟩
  · exact .inl (by omega)
  · exact .inr ⟨b, off, hA, hb, fun j i hj hi => hc j i (by omega) hi⟩
end Go.Proofs.YtfckmechiochlaaDoor
