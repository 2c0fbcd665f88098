/- PipeTime's exact law, walked. -/
import Derived.Test.YtlmjbflnfpccdaaDoorU21
import Derived.Test.YtlmjbflnfpccdaaDoorU36
namespace Go.Proofs.YtlmjbflnfpccdaaDoor
open Go.RowKit
set_option maxRecDepth 100000 in
set_option maxHeartbeats 8000000 in
theorem fnExactPipeTime_walk (A : Option Addr) (n c : Nat) (F : Nat → Ins) (AJ : Option Addr) (m cj : Nat) (J : Nat → Bool) (fw : Bool) (w : World) (hg : WT w) (h : Code w A n F) (hn : n ≤ 9223372036854775807) (hs : ∀ j, j < n → (F j).op.size ≤ 9223372036854775807) (hj : Bols w AJ m J) (hm : m ≤ 9223372036854775807) :
    Calls Tryd.prog 4 #[.slice A n c, .slice AJ m cj, .bool fw] w fun e w' => e = .returned (.bool true) ∧ Below w.heap.size w w' := by
  have HSZ := shade (szInstrS_any A n c F 1048576 w (by omega) (by omega) hn hs h)
  have HS0 := shade (show SJ w w A n F AJ m J from ⟨⟨hg, h, grown_refl _ _⟩, hj⟩)
  clear h hg hs hj
  obtain ⟨v, HSpec, HImpl⟩ := time8_both n F m J fw hn
  have HSp := shade HSpec
  have HIm := shade HImpl
  clear HSpec HImpl
  go_enter Tryd.func4, Tryd.ntmps4
  by_cases hm0 : 1048576 < m
  · go_wp2_with fail
    go_ret
    exact ⟨rfl, Below.refl _ _⟩
  have hmb : m ≤ 1048576 := by omega
  go_wp2_with fail
  refine HSZ.out.mono ?_
  rintro e w1 ⟨r, rfl, hr, hgr⟩
  have HS1 := shade (HS0.out.grown hgr)
  clear hgr HSZ HS0
  rcases hr with hr | ⟨hr0, hr1⟩
  · go_wp2_with fail
    go_ret
    exact ⟨rfl, below_of_grown HS1.out.sc.base⟩
  · have hnb : n ≤ 1048576 := by omega
    go_wp2_with fail
    refine (toInstrS_any A n c F _ hnb HS1.out.sc.code).mono ?_
    rintro e w2 ⟨rfl, ho, hgr⟩
    have HS2 := shade (HS1.out.grown hgr)
    have l2 := hgr.size
    have HC2 := shade ho.code
    clear ho hgr HS1
    go_wp2_with fail
    refine (toBoolS_any AJ m cj J _ hmb HS2.out.bols).mono ?_
    rintro e w3 ⟨rfl, ho, hgr⟩
    have HS3 := shade (HS2.out.grown hgr)
    have HC3 := shade (HC2.out.on hgr)
    have l3 := hgr.size
    have HB := shade ho.bols
    clear ho hgr HS2 HC2
    go_wp2_with fail
    refine (HSp.out _ _ _ _ _ HC3.out HB.out).mono ?_
    rintro e w4 ⟨rfl, hgr⟩
    have HS4 := shade (HS3.out.grown hgr)
    have l4 := hgr.size
    clear hgr HS3
    clear HC3 HB
    have lb := HS4.out.sc.base.size
    go_wp2_with fail
    refine (toInstrS_any A n c F _ hnb HS4.out.sc.code).mono ?_
    rintro e w5 ⟨rfl, ho, hgr⟩
    have HS5 := shade (HS4.out.grown hgr)
    have l5 := hgr.size
    have HX5 := shade ho
    have b5 := (OwnC_lt ho).2
    clear ho hgr HS4
    go_wp2_with fail
    refine (toBoolS_any AJ m cj J _ hmb HS5.out.bols).mono ?_
    rintro e w6 ⟨rfl, ho, hgr⟩
    have HS6 := shade (HS5.out.grown hgr)
    have HX6 := shade (OwnC_on HX5.out hgr)
    have l6 := hgr.size
    have HY6 := shade ho
    have b6 := (OwnB.lt ho).2
    clear ho hgr HS5 HX5
    go_wp2_with fail
    refine (HIm.out _ _ _ _ HS6.out.sc.wt HX6.out.code HY6.out.bols).mono ?_
    rintro e w7 ⟨rfl, hgr⟩
    have HS7 := shade (HS6.out.grown hgr)
    have HX7 := shade (OwnC_on HX6.out hgr)
    have HY7 := shade (OwnB.on HY6.out hgr)
    have l7 := hgr.size
    clear hgr HS6 HX6 HY6
    go_wp2_with fail
    refine (toInstrS_any A n c F _ hnb HS7.out.sc.code).mono ?_
    rintro e w8 ⟨rfl, ho, hgr⟩
    have HS8 := shade (HS7.out.grown hgr)
    have HX8 := shade (OwnC_on HX7.out hgr)
    have HY8 := shade (OwnB.on HY7.out hgr)
    have l8 := hgr.size
    have HC := shade ho.code
    clear ho hgr HS7 HX7 HY7
    go_wp2_with fail
    refine (eqInstrS_any _ _ n n n F _ hn HX8.out.code HC.out).mono ?_
    rintro e w9 ⟨rfl, hgr⟩
    have HS9 := shade (HS8.out.grown hgr)
    have HX9 := shade (OwnC_on HX8.out hgr)
    have HY9 := shade (OwnB.on HY8.out hgr)
    have l9 := hgr.size
    clear hgr HC HS8 HX8 HY8
    go_wp2_with fail
    refine (toBoolS_any AJ m cj J _ hmb HS9.out.bols).mono ?_
    rintro e w10 ⟨rfl, ho, hgr⟩
    have HS10 := shade (HS9.out.grown hgr)
    have HX10 := shade (OwnC_on HX9.out hgr)
    have HY10 := shade (OwnB.on HY9.out hgr)
    have l10 := hgr.size
    have HB := shade ho.bols
    clear ho hgr HS9 HX9 HY9
    go_wp2_with fail
    refine (eqBoolS_any _ _ m m m J J _ hm HY10.out.bols HB.out (fun _ _ => rfl)).mono ?_
    rintro e w11 ⟨rfl, km, rfl⟩
    obtain ⟨w11, hw11⟩ : ∃ w11, w10.drewN km = w11 := ⟨_, rfl⟩
    have hgr : w10.grownBy w11 none := by rw [← hw11]; exact grown_drewN (grown_refl _ _) _
    rw [hw11]
    have HS11 := shade (HS10.out.grown hgr)
    have HX11 := shade (OwnC_on HX10.out hgr)
    have HY11 := shade (OwnB.on HY10.out hgr)
    have l11 := hgr.size
    clear hgr hw11 HB HS10 HX10 HY10
    go_wp2_with fail
    go_ret
    exact ⟨rfl, below_of_grown HS11.out.sc.base⟩
end Go.Proofs.YtlmjbflnfpccdaaDoor
