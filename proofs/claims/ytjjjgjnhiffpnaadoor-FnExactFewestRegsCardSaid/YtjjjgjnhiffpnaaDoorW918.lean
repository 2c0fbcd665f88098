/- FewestRegs's exact law, walked. -/
import Derived.Test.YtjjjgjnhiffpnaaDoorW805
import Derived.Test.YtjjjgjnhiffpnaaDoorW917
namespace Go.Proofs.YtjjjgjnhiffpnaaDoor
open Go.RowKit
set_option maxRecDepth 100000 in
set_option maxHeartbeats 4000000 in
theorem fnExactFewestRegs_walk (A : Option Addr) (n c : Nat) (F : Nat → Wid) (x : Int) (w : World) (hg : WT w) (h : Wds w A n F) (hn : n ≤ 9223372036854775807) (hs : ∀ j, j < n → (F j).op.size ≤ 9223372036854775807) :
    Calls Tryd.prog 8 #[.slice A n c, .int .i64 x] w fun e w' => e = .returned (.bool true) ∧ Below w.heap.size w w' := by
  have HSZ := shade (szWideS_any A n c F 1048576 w (by omega) (by omega) hn hs h)
  have HS0 := shade (show SW w w A n F from ⟨hg, h, grown_refl _ _⟩)
  clear h hg hs
  obtain ⟨v0, HSpec, HImpl⟩ := fewestRegs_both n F x hn
  have HSp := shade HSpec
  have HIm := shade HImpl
  clear HSpec HImpl
  go_enter Tryd.func8, Tryd.ntmps8
  go_wp2_with fail
  refine HSZ.out.mono ?_
  rintro e w1 ⟨r, rfl, hr, hgr⟩
  have HS1 := shade (HS0.out.grown hgr)
  clear hgr HSZ HS0
  rcases hr with hr | ⟨hr0, hr1⟩
  · go_wp2_with fail
    go_ret
    exact ⟨rfl, below_of_grown HS1.out.base⟩
  · have hnb : n ≤ 1048576 := by omega
    go_wp2_with fail
    refine (toWideS_any A n c F _ hnb HS1.out.wds).mono ?_
    rintro e w2 ⟨rfl, ho, hgr⟩
    have HS2 := shade (HS1.out.grown hgr)
    have HC := shade ho.wds
    clear ho hgr HS1
    go_wp2_with fail
    refine (HSp.out _ _ _ HC.out).mono ?_
    rintro e w3 ⟨rfl, hgr⟩
    have HS3 := shade (HS2.out.grown hgr)
    clear hgr HS2 HC
    go_wp2_with fail
    refine (toWideS_any A n c F _ hnb HS3.out.wds).mono ?_
    rintro e w4 ⟨rfl, hc4, hgr⟩
    have HS4 := shade (HS3.out.grown hgr)
    have HX4 := shade hc4
    clear hgr hc4 HS3
    go_wp2_with fail
    refine (HIm.out _ _ _ HS4.out.wt HX4.out.wds).mono ?_
    rintro e w5 ⟨rfl, hgr⟩
    have HS5 := shade (HS4.out.grown hgr)
    have HX5 := shade (OwnW_on HX4.out hgr)
    clear hgr HS4 HX4
    go_wp2_with fail
    refine (toWideS_any A n c F _ hnb HS5.out.wds).mono ?_
    rintro e w7 ⟨rfl, hc7, hgr⟩
    have HS7 := shade (HS5.out.grown hgr)
    have HX7 := shade (OwnW_on HX5.out hgr)
    have HC7 := shade hc7.wds
    clear hgr HS5 HX5 hc7
    go_wp2_with fail
    refine (eqWideS_any _ _ n n n F _ hn HX7.out.wds HC7.out).mono ?_
    rintro e w8 ⟨rfl, hgr⟩
    have HS8 := shade (HS7.out.grown hgr)
    clear hgr HS7 HX7 HC7
    go_wp2_with fail
    go_ret
    exact ⟨rfl, below_of_grown HS8.out.base⟩
end Go.Proofs.YtjjjgjnhiffpnaaDoor
