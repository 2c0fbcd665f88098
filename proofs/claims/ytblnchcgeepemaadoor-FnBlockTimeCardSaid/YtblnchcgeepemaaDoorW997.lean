/- The draws of a block. -/
import Derived.Test.YtblnchcgeepemaaDoorW996
import Derived.Test.YtblnchcgeepemaaDoorG20
namespace Go.Proofs.YtblnchcgeepemaaDoor
open Go.RowKit
/-- What is drawn: some instructions, at most six; nothing that was there has changed. -/
def DrwB (w : World) (e : Ending) (w' : World) : Prop :=
  ∃ (g' k c : Nat) (f : Nat → Ins), e = .returned (.slice (some ⟨g', 0, none⟩) k c) ∧ k ≤ 6 ∧ k ≤ c ∧ Code w' (some ⟨g', 0, none⟩) k f ∧ w.grownBy w' none
set_option maxHeartbeats 1000000 in
theorem DrawHeightsOf_any (A : Option Addr) (n cap : Nat) (zs : List Int) (w : World) (h : Bys w A n cap zs) :
    Calls Tryd.prog 5 #[.slice A n cap] w (DrwB w) := by
  have HN := shade (newReader_any A n cap zs w h)
  clear h
  go_enter Tryd.func5, Tryd.ntmps5
  go_wp2_with fail
  refine HN.out.mono ?_
  rintro e w1 ⟨m, rfl, hR, hb1⟩
  have HR := shade hR
  have HB := shade (grown_of_below hb1)
  clear hR hb1 HN
  go_wp2_with fail
  refine (someBlock_rd HR.out (by omega)).mono ?_
  rintro e w2 ⟨g', k, c, f, rfl, hk, hkc, hC, hG, -, -⟩
  have HC := shade hC
  have HG := shade (grown_then HB.out hG (Nat.le_refl _))
  clear hC hG HR
  go_wp2_with fail
  go_ret
  exact ⟨g', k, c, f, rfl, hk, hkc, HC.out, HG.out⟩
set_option maxHeartbeats 1000000 in
theorem DrawBlockTime_any (A : Option Addr) (n cap : Nat) (zs : List Int) (w : World) (h : Bys w A n cap zs) :
    Calls Tryd.prog 11 #[.slice A n cap] w (DrwB w) := by
  have HN := shade (newReader_any A n cap zs w h)
  clear h
  go_enter Tryd.func11, Tryd.ntmps11
  go_wp2_with fail
  refine HN.out.mono ?_
  rintro e w1 ⟨m, rfl, hR, hb1⟩
  have HR := shade hR
  have HB := shade (grown_of_below hb1)
  clear hR hb1 HN
  go_wp2_with fail
  refine (someBlock_rd HR.out (by omega)).mono ?_
  rintro e w2 ⟨g', k, c, f, rfl, hk, hkc, hC, hG, -, -⟩
  have HC := shade hC
  have HG := shade (grown_then HB.out hG (Nat.le_refl _))
  clear hC hG HR
  go_wp2_with fail
  go_ret
  exact ⟨g', k, c, f, rfl, hk, hkc, HC.out, HG.out⟩
end Go.Proofs.YtblnchcgeepemaaDoor
