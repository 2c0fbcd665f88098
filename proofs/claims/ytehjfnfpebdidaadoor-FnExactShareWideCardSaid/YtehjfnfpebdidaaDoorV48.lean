/- ShareWide's exact law, walked. -/
import Derived.Test.YtehjfnfpebdidaaDoorW805
import Derived.Test.YtehjfnfpebdidaaDoorV47
namespace Go.Proofs.YtehjfnfpebdidaaDoor
open Go.RowKit
set_option maxRecDepth 100000 in
set_option maxHeartbeats 4000000 in
theorem fnExactShareWide_walk (A : Option Addr) (n c : Nat) (F : Nat → Wid) (w : World) (hg : WT w) (h : Wds w A n F) (hn : n ≤ 9223372036854775807) (hs : ∀ j, j < n → (F j).op.size ≤ 9223372036854775807) :
    Calls Tryd.prog 4 #[.slice A n c] w fun e w' => e = .returned (.bool true) ∧ Below w.heap.size w w' := by
  have HSZ := shade (szWideS_any A n c F 1048576 w (by omega) (by omega) hn hs h)
  have HS0 := shade (show SW w w A n F from ⟨hg, h, grown_refl _ _⟩)
  clear h hg hs
  obtain ⟨K, K2, f, f2, hK, hK2, HSpec, HImpl⟩ := share_both n F hn
  have HSp := shade HSpec
  have HIm := shade HImpl
  clear HSpec HImpl
  go_enter Tryd.func4, Tryd.ntmps4
  go_wp2_with fail
  refine HSZ.out.mono ?_
  rintro e w1 ⟨r, rfl, hr, hgr⟩
  have HS1 := shade (HS0.out.grown hgr)
  clear hgr HSZ HS0
  rcases hr with hr | ⟨hr0, hr1⟩
  · go_wp2_with fail
    go_ret
    exact ⟨rfl, below_of_grown HS1.out.base⟩
  · have hnb : n ≤ 1048576 := by omega
    go_wp2_with fail
    refine (toWideS_any A n c F _ hnb HS1.out.wds).mono ?_
    rintro e w2 ⟨rfl, ho, hgr⟩
    have HS2 := shade (HS1.out.grown hgr)
    have HC := shade ho.wds
    clear ho hgr HS1
    go_wp2_with fail
    refine (HSp.out _ _ _ HC.out).mono ?_
    rintro e w3 h5
    obtain ⟨v0, u0, rfl, hR, hR2, hgr⟩ := ShRes.row h5
    have HS3 := shade (HS2.out.grown hgr)
    have HP3 := shade hR
    have HQ3 := shade hR2
    have l3 := hgr.size
    have b2 := HS2.out.lt
    clear hgr hR hR2 h5 HS2 HC
    go_wp2_with fail
    refine (toWideS_any A n c F _ hnb HS3.out.wds).mono ?_
    rintro e w4 ⟨rfl, hc4, hgr⟩
    have l4 := hgr.size
    have m4 := (OwnW_lt hc4).2
    have m4' := (OwnW_lt hc4).1
    have HS4 := shade (HS3.out.grown hgr)
    have HP4 := shade (HP3.out.grown hgr)
    have HQ4 := shade (HQ3.out.grown hgr)
    have HX4 := shade (hc4)
    clear hgr hc4 HS3 HP3 HQ3
    go_wp2_with fail
    refine (HIm.out _ _ _ HS4.out.wt HX4.out.wds).mono ?_
    rintro e w5 h5
    obtain ⟨v1, u1, rfl, hR, hR2, hgr⟩ := ShRes.row h5
    have l5 := hgr.size
    have HS5 := shade (HS4.out.grown hgr)
    have HP5 := shade (HP4.out.grown hgr)
    have HQ5 := shade (HQ4.out.grown hgr)
    have HX5 := shade (OwnW_on HX4.out hgr)
    have HG5 := shade (hR)
    have HH5 := shade (hR2)
    clear hgr HS4 HP4 HQ4 HX4 hR hR2 h5
    go_wp2_with fail
    refine (eqWideS_row _ _ _ _ K _ _ f _ hK HG5.out HP5.out).mono ?_
    rintro e w6 ⟨rfl, hgr⟩
    have l6 := hgr.size
    have HS6 := shade (HS5.out.grown hgr)
    have HP6 := shade (HP5.out.grown hgr)
    have HQ6 := shade (HQ5.out.grown hgr)
    have HG6 := shade (HG5.out.grown hgr)
    have HH6 := shade (HH5.out.grown hgr)
    have HX6 := shade (OwnW_on HX5.out hgr)
    clear hgr HS5 HP5 HQ5 HG5 HH5 HX5
    go_wp2_with fail
    refine (eqIntS_row _ _ _ _ K2 _ _ f2 _ hK2 HH6.out HQ6.out).mono ?_
    rintro e w7 ⟨rfl, hgr⟩
    have l7 := hgr.size
    have HS7 := shade (HS6.out.grown hgr)
    have HP7 := shade (HP6.out.grown hgr)
    have HQ7 := shade (HQ6.out.grown hgr)
    have HG7 := shade (HG6.out.grown hgr)
    have HH7 := shade (HH6.out.grown hgr)
    have HX7 := shade (OwnW_on HX6.out hgr)
    clear hgr HS6 HP6 HQ6 HG6 HH6 HX6
    go_wp2_with fail
    refine (toWideS_any A n c F _ hnb HS7.out.wds).mono ?_
    rintro e w8 ⟨rfl, hc8, hgr⟩
    have l8 := hgr.size
    have HS8 := shade (HS7.out.grown hgr)
    have HP8 := shade (HP7.out.grown hgr)
    have HQ8 := shade (HQ7.out.grown hgr)
    have HG8 := shade (HG7.out.grown hgr)
    have HH8 := shade (HH7.out.grown hgr)
    have HX8 := shade (OwnW_on HX7.out hgr)
    have HC8 := shade (hc8.wds)
    clear hgr hc8 HX7 HS7 HP7 HQ7 HG7 HH7
    go_wp2_with fail
    refine (eqWideS_any _ _ n n n F _ hn HX8.out.wds HC8.out).mono ?_
    rintro e w9 ⟨rfl, hgr⟩
    have l9 := hgr.size
    have HS9 := shade (HS8.out.grown hgr)
    have HP9 := shade (HP8.out.grown hgr)
    have HQ9 := shade (HQ8.out.grown hgr)
    have HG9 := shade (HG8.out.grown hgr)
    have HH9 := shade (HH8.out.grown hgr)
    have HX9 := shade (OwnW_on HX8.out hgr)
    clear hgr HX8 HC8 HS8 HP8 HQ8 HG8 HH8
    go_wp2_with fail
    refine (markWideS_at _ w3.heap.size n n F 1 _ hnb (by omega) (by omega) HX9.out).mono ?_
    rintro e w10 ⟨rfl, _, hgr⟩
    have l10 := hgr.size
    have HS10 := shade (HS9.out.row hgr (fun b e => by injection e with e; omega))
    have HP10 := shade (HP9.out.row hgr (fun b e => by injection e with e; omega))
    have HQ10 := shade (HQ9.out.row hgr (fun b e => by injection e with e; omega))
    have HG10 := shade (HG9.out.row hgr (fun b e => by injection e with e; omega))
    have HH10 := shade (HH9.out.row hgr (fun b e => by injection e with e; omega))
    clear hgr HX9 HS9 HP9 HQ9 HG9 HH9
    go_wp2_with fail
    refine (eqWideS_row _ _ _ _ K _ _ f _ hK HG10.out HP10.out).mono ?_
    rintro e w11 ⟨rfl, hgr⟩
    have l11 := hgr.size
    have HS11 := shade (HS10.out.grown hgr)
    have HP11 := shade (HP10.out.grown hgr)
    have HQ11 := shade (HQ10.out.grown hgr)
    have HG11 := shade (HG10.out.grown hgr)
    have HH11 := shade (HH10.out.grown hgr)
    clear hgr HS10 HP10 HQ10 HG10 HH10
    go_wp2_with fail
    refine (eqIntS_row _ _ _ _ K2 _ _ f2 _ hK2 HH11.out HQ11.out).mono ?_
    rintro e w12 ⟨rfl, hgr⟩
    have l12 := hgr.size
    have HS12 := shade (HS11.out.grown hgr)
    have HP12 := shade (HP11.out.grown hgr)
    have HQ12 := shade (HQ11.out.grown hgr)
    have HG12 := shade (HG11.out.grown hgr)
    have HH12 := shade (HH11.out.grown hgr)
    clear hgr HS11 HP11 HQ11 HG11 HH11
    go_wp2_with fail
    refine (markWidS_row _ _ K _ f _ hK HG12.out).mono ?_
    rintro e w13 ⟨rfl, hm, hgr⟩
    have l13 := hgr.size
    obtain ⟨M, hM⟩ : ∃ M : Int, 1 + 4 * (K : Int) = M := ⟨_, rfl⟩
    have hM0 : 0 ≤ M := by omega
    have hM1 : M ≤ 2000 := by omega
    have HM := shade hM
    rw [hM]
    clear hM
    have HS13 := shade (HS12.out.row hgr (fun b e => by have := (HG12.out.rng e).1; omega))
    have HP13 := shade (HP12.out.row hgr (fun b e => by have := (HG12.out.rng e).1; omega))
    have HQ13 := shade (HQ12.out.row hgr (fun b e => by have := (HG12.out.rng e).1; omega))
    have HG13 := shade (hm)
    have HH13 := shade (HH12.out.byWid (by decide) HG12.out.own hgr)
    clear hgr hm HS12 HP12 HQ12 HG12 HH12
    go_wp2_with fail
    refine (markIntS_row _ _ K2 _ f2 M _ (by omega) (by omega) HH13.out).mono ?_
    rintro e w14 ⟨rfl, hm, hgr⟩
    have l14 := hgr.size
    have HS14 := shade (HS13.out.row hgr (fun b e => by have := (HH13.out.rng e).1; omega))
    have HP14 := shade (HP13.out.row hgr (fun b e => by have := (HH13.out.rng e).1; omega))
    have HQ14 := shade (HQ13.out.row hgr (fun b e => by have := (HH13.out.rng e).1; omega))
    have HG14 := shade (HG13.out.byNum HH13.out.own hgr)
    have HH14 := shade (hm)
    clear hgr hm HS13 HP13 HQ13 HG13 HH13
    go_wp2_with fail
    refine (heldWidS_row _ _ K _ _ hK HG14.out).mono ?_
    rintro e w15 ⟨rfl, hgr⟩
    have l15 := hgr.size
    rw [HM.out]
    have HS15 := shade (HS14.out.grown hgr)
    have HP15 := shade (HP14.out.grown hgr)
    have HQ15 := shade (HQ14.out.grown hgr)
    have HG15 := shade (HG14.out.grown hgr)
    have HH15 := shade (HH14.out.grown hgr)
    clear hgr HS14 HP14 HQ14 HG14 HH14
    go_wp2_with fail
    refine (heldIntS_row _ _ K2 _ M _ (by omega) (by omega) HH15.out).mono ?_
    rintro e w16 ⟨rfl, rfl⟩
    go_wp2_with fail
    refine (toWideS_any A n c F _ hnb HS15.out.wds).mono ?_
    rintro e w17 ⟨rfl, hc7, hgr⟩
    have l17 := hgr.size
    have HS17 := shade (HS15.out.grown hgr)
    have HP17 := shade (HP15.out.grown hgr)
    have HQ17 := shade (HQ15.out.grown hgr)
    have HG17 := shade (HG15.out.grown hgr)
    have HH17 := shade (HH15.out.grown hgr)
    have HC17 := shade (hc7.wds)
    clear hgr hc7 HS15 HP15 HQ15 HG15 HH15
    go_wp2_with fail
    refine (HIm.out _ _ _ HS17.out.wt HC17.out).mono ?_
    rintro e w18 h5
    obtain ⟨v2, u2, rfl, hR, hR2, hgr⟩ := ShRes.row h5
    have l18 := hgr.size
    have HS18 := shade (HS17.out.grown hgr)
    have HP18 := shade (HP17.out.grown hgr)
    have HQ18 := shade (HQ17.out.grown hgr)
    have HG18 := shade (HG17.out.grown hgr)
    have HH18 := shade (HH17.out.grown hgr)
    have HV18 := shade (hR)
    have HW18 := shade (hR2)
    clear hgr HC17 hR hR2 h5 HS17 HP17 HQ17 HG17 HH17
    go_wp2_with fail
    refine (eqWideS_row _ _ _ _ K _ _ f _ hK HV18.out HP18.out).mono ?_
    rintro e w19 ⟨rfl, hgr⟩
    have l19 := hgr.size
    have HS19 := shade (HS18.out.grown hgr)
    have HP19 := shade (HP18.out.grown hgr)
    have HQ19 := shade (HQ18.out.grown hgr)
    have HG19 := shade (HG18.out.grown hgr)
    have HH19 := shade (HH18.out.grown hgr)
    have HV19 := shade (HV18.out.grown hgr)
    have HW19 := shade (HW18.out.grown hgr)
    clear hgr HS18 HP18 HQ18 HG18 HH18 HV18 HW18
    go_wp2_with fail
    refine (eqIntS_row _ _ _ _ K2 _ _ f2 _ hK2 HW19.out HQ19.out).mono ?_
    rintro e w20 ⟨rfl, hgr⟩
    have l20 := hgr.size
    have HS20 := shade (HS19.out.grown hgr)
    have HP20 := shade (HP19.out.grown hgr)
    have HQ20 := shade (HQ19.out.grown hgr)
    have HG20 := shade (HG19.out.grown hgr)
    have HH20 := shade (HH19.out.grown hgr)
    have HV20 := shade (HV19.out.grown hgr)
    have HW20 := shade (HW19.out.grown hgr)
    clear hgr HS19 HP19 HQ19 HG19 HH19 HV19 HW19
    go_wp2_with fail
    refine (heldWidS_row _ _ K _ _ hK HG20.out).mono ?_
    rintro e w21 ⟨rfl, hgr⟩
    have l21 := hgr.size
    rw [HM.out]
    have HS21 := shade (HS20.out.grown hgr)
    have HP21 := shade (HP20.out.grown hgr)
    have HQ21 := shade (HQ20.out.grown hgr)
    have HG21 := shade (HG20.out.grown hgr)
    have HH21 := shade (HH20.out.grown hgr)
    clear hgr HS20 HP20 HQ20 HG20 HH20
    go_wp2_with fail
    refine (heldIntS_row _ _ K2 _ M _ (by omega) (by omega) HH21.out).mono ?_
    rintro e w22 ⟨rfl, rfl⟩
    go_wp2_with fail
    go_ret
    exact ⟨rfl, below_of_grown HS21.out.base⟩
end Go.Proofs.YtehjfnfpebdidaaDoor
