/- The draws of wide instructions. -/
import Derived.Test.YtehjfnfpebdidaaDoorW891
import Derived.Test.YtehjfnfpebdidaaDoorW805
namespace Go.Proofs.YtehjfnfpebdidaaDoor
open Go.RowKit
/-- What is drawn: some wide instructions; nothing that was there has changed. -/
def DrawW (w : World) (e : Ending) (w' : World) : Prop :=
  ∃ (g' k c : Nat) (f : Nat → Wid), e = .returned (.slice (some ⟨g', 0, none⟩) k c) ∧ k ≤ 8 ∧ (k ≤ c ∧ c ≤ maxLen) ∧ Wds w' (some ⟨g', 0, none⟩) k f ∧ w.grownBy w' none
theorem DrawShareWide_any (A : Option Addr) (n cap : Nat) (zs : List Int) (w : World) (hB : Bys w A n cap zs) :
    Calls Tryd.prog 5 #[.slice A n cap] w (DrawW w) := by
  have HN := shade (newReader_any A n cap zs w hB)
  clear hB
  go_enter Tryd.func5, Tryd.ntmps5
  go_wp2_with fail
  refine HN.out.mono ?_
  rintro e w1 ⟨m, rfl, hR, hb⟩
  have HG := shade (grown_of_below hb)
  have HR := shade hR
  clear HN hR hb
  go_wp2_with fail
  refine (someWide_any HR.out (by omega)).mono ?_
  rintro e w2 ⟨g', k, c, f, rfl, hk, hcp, hC, hg, -⟩
  have HG2 := shade (grown_row HG.out hg (fun k e => by injection e with e; omega))
  have HC := shade hC
  clear hg HG HR hC
  go_wp2_with fail
  go_ret
  exact ⟨g', k, c, f, rfl, hk, ⟨hcp.1, hcp.2.1⟩, HC.out, HG2.out⟩
theorem Wds.cut {w : World} {A : Option Addr} {n m : Nat} {f : Nat → Wid} (h : Wds w A n f) (hm : m ≤ n) : Wds w A m f := by
  rcases h with h | ⟨b, off, hA, hb, hc⟩
  · exact .inl (by omega)
  · exact .inr ⟨b, off, hA, hb, fun j i hj hi => hc j i (by omega) hi⟩
end Go.Proofs.YtehjfnfpebdidaaDoor
