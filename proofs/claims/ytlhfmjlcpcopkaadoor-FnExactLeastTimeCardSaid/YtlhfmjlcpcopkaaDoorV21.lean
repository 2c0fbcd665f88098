/- The exact law of LeastTime, walked. -/
import Derived.Test.YtlhfmjlcpcopkaaDoorV20
import Derived.Test.YtlhfmjlcpcopkaaDoorW53
namespace Go.Proofs.YtlhfmjlcpcopkaaDoor
open Go.RowKit
set_option maxHeartbeats 4000000 in
theorem exactLeastTime_walk (A : Option Addr) (n c : Nat) (f : Nat → Ins) (w : World) (hg : WT w) (h : Code w A n f) (hn : n ≤ 9223372036854775807) (hs : ∀ j, j < n → (f j).op.size ≤ 9223372036854775807) :
    Calls Tryd.prog 8 #[.slice A n c] w fun e w' => e = .returned (.bool true) ∧ Below w.heap.size w w' := by
  have HSZ := shade (szInstrS_any A n c f 1048576 w (by omega) (by omega) hn hs h)
  have H := shade h
  have HG := shade hg
  clear h hg hs
  go_enter Tryd.func8, Tryd.ntmps8
  go_wp2_with fail
  refine HSZ.out.mono ?_
  rintro e w1 ⟨r, rfl, hr, hgr⟩
  have HG1 := shade hgr
  clear hgr HSZ
  rcases hr with hr | ⟨hr0, hr1⟩
  · go_wp2_with fail
    go_ret
    exact ⟨rfl, below_of_grown HG1.out⟩
  · have hn1 : n ≤ 1048576 := by omega
    go_wp2_with fail
    refine (toInstrS_any A n c f _ hn1 (H.out.on HG1.out)).mono ?_
    rintro e w2 ⟨rfl, ho, hgr⟩
    have HG2 := shade (grown_same HG1.out hgr)
    have HC := shade ho.code
    clear ho hgr
    go_wp2_with fail
    refine (SLeastTime_any _ n n f _ hn HC.out).mono ?_
    rintro e w3 ⟨rfl, hgr⟩
    have HG3 := shade (grown_same HG2.out hgr)
    clear hgr HC
    generalize hv : ltB n f = v
    have HV := shade hv
    clear hv
    go_wp2_with fail
    refine (toInstrS_any A n c f _ hn1 (H.out.on HG3.out)).mono ?_
    rintro e w4 ⟨rfl, ho, hgr⟩
    have HG4 := shade (grown_same HG3.out hgr)
    have HC4 := shade ho.code
    clear ho hgr
    go_wp2_with fail
    refine (ILeastTime_any _ n n f _ (HG.out.below (below_of_grown HG4.out) (wt_lt HG.out)) hn (Nat.le_refl _) HC4.out).mono ?_
    rw [HV.out]
    rintro e w5 ⟨rfl, hgr⟩
    have HG5 := shade (grown_same HG4.out hgr)
    have HC5 := shade (HC4.out.on hgr)
    clear hgr HC4
    go_wp2_with fail
    refine (toInstrS_any A n c f _ hn1 (H.out.on HG5.out)).mono ?_
    rintro e w6 ⟨rfl, ho, hgr⟩
    have HG6 := shade (grown_same HG5.out hgr)
    have HC6 := shade (HC5.out.on hgr)
    have HD6 := shade ho.code
    clear ho hgr HC5
    go_wp2_with fail
    refine (eqInstrS_any _ _ n n n f _ hn HC6.out HD6.out).mono ?_
    rintro e w7 ⟨rfl, hgr⟩
    have HG7 := shade (grown_same HG6.out hgr)
    clear hgr
    go_wp2_with fail
    go_ret
    exact ⟨rfl, below_of_grown HG7.out⟩


end Go.Proofs.YtlhfmjlcpcopkaaDoor
