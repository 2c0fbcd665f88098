/- ShowCode's exact law, walked. -/
import Derived.Test.YthdpicdgogpecaaDoorW306
namespace Go.Proofs.YthdpicdgogpecaaDoor
open Go.RowKit
set_option linter.unusedSimpArgs false
/-- What stands in the law: the program that came in, and what is laid. -/
structure SC (w wr : World) (A : Option Addr) (n : Nat) (F : Nat → Ins) : Prop where
  code : Code wr A n F
  wt : WT wr
  pow : Pow wr
  low : w.grownBy wr none
theorem SC.on {w wr w2 : World} {A : Option Addr} {n : Nat} {F : Nat → Ins} (h : SC w wr A n F) (hg : wr.grownBy w2 none) : SC w w2 A n F :=
  ⟨h.code.on hg, h.wt.grown hg (by simp), pow_below h.pow (below_of_grown hg), grown_same h.low hg⟩
set_option maxRecDepth 100000 in
set_option maxHeartbeats 4000000 in
theorem exactShowCode_walk (A : Option Addr) (n c : Nat) (F : Nat → Ins) (w : World) (hg : WT w) (hp : Pow w) (h : Code w A n F) (hn : n ≤ 9223372036854775807) (hs : ∀ j, j < n → (F j).op.size ≤ 9223372036854775807) :
    Calls Tryd.prog 4 #[.slice A n c] w fun e w' => e = .returned (.bool true) ∧ Below w.heap.size w w' := by
  have H0 := shade (show SC w w A n F from ⟨h, hg, hp, grown_refl _ _⟩)
  have HSZ := shade (szInstrS_any A n c F 1048576 w (by omega) (by omega) hn hs h)
  clear hg hp h hs
  go_enter Tryd.func4, Tryd.ntmps4
  go_wp2_with fail
  refine HSZ.out.mono ?_
  rintro e w1 ⟨r, rfl, hr, hgr⟩
  have H1 := shade (H0.out.on hgr)
  clear hgr HSZ H0
  rcases hr with hr | ⟨hr0, hr1⟩
  · go_wp2_with fail
    go_ret
    exact ⟨rfl, below_of_grown H1.out.low⟩
  · have hnb : n ≤ 1048576 := by omega
    go_wp2_with fail
    refine (toInstrS_any A n c F _ hnb H1.out.code).mono ?_
    rintro e w2 ⟨rfl, hc, hgr⟩
    have H2 := shade (H1.out.on hgr)
    have HC := shade hc.code
    clear hgr hc H1
    go_wp2_with fail
    refine (SpecShowCode_any _ n n F _ hn HC.out).mono ?_
    rintro e w3 ⟨rfl, hgr⟩
    have H3 := shade (H2.out.on hgr)
    clear hgr H2 HC
    go_wp2_with fail
    refine (toInstrS_any A n c F _ hnb H3.out.code).mono ?_
    rintro e w4 ⟨rfl, hc, hgr⟩
    have H4 := shade (H3.out.on hgr)
    have HX4 := shade hc.code
    clear hgr hc H3
    go_wp2_with fail
    refine (ShowCode_any _ n n F _ H4.out.wt H4.out.pow hn HX4.out).mono ?_
    rintro e w5 ⟨rfl, hgr⟩
    have H5 := shade (H4.out.on hgr)
    have HX5 := shade (HX4.out.on hgr)
    clear hgr H4 HX4
    go_wp2_with fail
    refine (toInstrS_any A n c F _ hnb H5.out.code).mono ?_
    rintro e w6 ⟨rfl, hc, hgr⟩
    have H6 := shade (H5.out.on hgr)
    have HX6 := shade (HX5.out.on hgr)
    have HY6 := shade hc.code
    clear hgr hc H5 HX5
    go_wp2_with fail
    refine (eqInstrS_any _ _ n n n F _ hn HX6.out HY6.out).mono ?_
    rintro e w7 ⟨rfl, hgr⟩
    have H7 := shade (H6.out.on hgr)
    clear hgr H6 HX6 HY6
    go_wp2_with fail
    go_ret
    exact ⟨rfl, below_of_grown H7.out.low⟩
end Go.Proofs.YthdpicdgogpecaaDoor
