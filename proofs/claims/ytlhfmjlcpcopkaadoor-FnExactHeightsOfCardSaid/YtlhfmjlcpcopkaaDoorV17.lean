/- HeightsOf's exact law, walked. -/
import Derived.Test.YtlhfmjlcpcopkaaDoorW401d
import Derived.Test.YtlhfmjlcpcopkaaDoorV16
namespace Go.Proofs.YtlhfmjlcpcopkaaDoor
open Go.RowKit
set_option maxRecDepth 100000 in
set_option maxHeartbeats 4000000 in
theorem fnExactHeightsOf_walk (A : Option Addr) (n c : Nat) (F : Nat → Ins) (w : World) (hg : WT w) (h : Code w A n F) (hn : n ≤ 9223372036854775807) (hs : ∀ j, j < n → (F j).op.size ≤ 9223372036854775807) :
    Calls Tryd.prog 7 #[.slice A n c] w fun e w' => e = .returned (.bool true) ∧ Below w.heap.size w w' := by
  have HSZ := shade (szInstrS_any A n c F 1048576 w (by omega) (by omega) hn hs h)
  have HS0 := shade (show SC w w A n F from ⟨hg, h, grown_refl _ _⟩)
  clear h hg hs
  obtain ⟨K, f, hK, HSpec, HImpl, -⟩ := heights_both n F hn
  have HSp := shade HSpec
  have HIm := shade HImpl
  clear HSpec HImpl
  go_enter Tryd.func7, Tryd.ntmps7
  go_wp2_with fail
  refine HSZ.out.mono ?_
  rintro e w1 ⟨r, rfl, hr, hgr⟩
  have HS1 := shade (HS0.out.grown hgr)
  clear hgr HSZ HS0
  rcases hr with hr | ⟨hr0, hr1⟩
  · go_wp2_with fail
    go_ret
    exact ⟨rfl, below_of_grown HS1.out.base⟩
  · have hnb : n ≤ 1048576 := by omega
    go_wp2_with fail
    refine (toInstrS_any A n c F _ hnb HS1.out.code).mono ?_
    rintro e w2 ⟨rfl, ho, hgr⟩
    have HS2 := shade (HS1.out.grown hgr)
    have HC := shade ho.code
    clear ho hgr HS1
    go_wp2_with fail
    refine (HSp.out _ _ _ HC.out).mono ?_
    rintro e w3 h5
    obtain ⟨v0, rfl, hR, hgr⟩ := NumRes.row h5
    have HS3 := shade (HS2.out.grown hgr)
    have HP3 := shade hR
    have l3 := hgr.size
    have b2 := HS2.out.lt
    clear hgr hR h5 HS2 HC
    go_wp2_with fail
    refine (toInstrS_any A n c F _ hnb HS3.out.code).mono ?_
    rintro e w4 ⟨rfl, hc4, hgr⟩
    have HS4 := shade (HS3.out.grown hgr)
    have HP4 := shade (HP3.out.grown hgr)
    have HX4 := shade hc4
    have l4 := (OwnC_lt hc4).2
    clear hgr hc4 HS3 HP3
    go_wp2_with fail
    refine (HIm.out _ _ HS4.out.wt HX4.out.code).mono ?_
    rintro e w5 h5
    obtain ⟨v1, rfl, hR, hgr⟩ := NumRes.row h5
    have l5 := hgr.size
    have HS5 := shade (HS4.out.grown hgr)
    have HP5 := shade (HP4.out.grown hgr)
    have HX5 := shade (OwnC_on HX4.out hgr)
    have HG5 := shade hR
    clear hgr HS4 HP4 HX4 hR h5
    go_wp2_with fail
    refine (eqIntS_row _ _ _ _ K _ _ f _ hK HG5.out HP5.out).mono ?_
    rintro e w6 ⟨rfl, hgr⟩
    have l6 := hgr.size
    have HS6 := shade (HS5.out.grown hgr)
    have HP6 := shade (HP5.out.grown hgr)
    have HX6 := shade (OwnC_on HX5.out hgr)
    have HG6 := shade (HG5.out.grown hgr)
    clear hgr HS5 HP5 HX5 HG5
    go_wp2_with fail
    refine (toInstrS_any A n c F _ hnb HS6.out.code).mono ?_
    rintro e w7 ⟨rfl, hc7, hgr⟩
    have l7 := hgr.size
    have HS7 := shade (HS6.out.grown hgr)
    have HP7 := shade (HP6.out.grown hgr)
    have HX7 := shade (OwnC_on HX6.out hgr)
    have HG7 := shade (HG6.out.grown hgr)
    have HC7 := shade hc7.code
    clear hgr HS6 HP6 HX6 HG6 hc7
    go_wp2_with fail
    refine (eqInstrS_any _ _ n n n F _ hn HX7.out.code HC7.out).mono ?_
    rintro e w8 ⟨rfl, hgr⟩
    have l8 := hgr.size
    have HS8 := shade (HS7.out.grown hgr)
    have HP8 := shade (HP7.out.grown hgr)
    have HX8 := shade (OwnC_on HX7.out hgr)
    have HG8 := shade (HG7.out.grown hgr)
    clear hgr HS7 HP7 HX7 HG7 HC7
    go_wp2_with fail
    refine (markInstrS_at _ w3.heap.size n n F 1 _ hnb (by omega) (by omega) HX8.out).mono ?_
    rintro e w12 ⟨rfl, _, hgr⟩
    have l12 := hgr.size
    have HS12 := shade (HS8.out.row hgr (fun b e => by injection e with e; omega))
    have HP12 := shade (HP8.out.row hgr (fun b e => by injection e with e; omega))
    have HG12 := shade (HG8.out.row hgr (fun b e => by injection e with e; omega))
    clear hgr HS8 HP8 HX8 HG8
    go_wp2_with fail
    refine (eqIntS_row _ _ _ _ K _ _ f _ hK HG12.out HP12.out).mono ?_
    rintro e w14 ⟨rfl, hgr⟩
    have l14 := hgr.size
    have HS14 := shade (HS12.out.grown hgr)
    have HP14 := shade (HP12.out.grown hgr)
    have HG14 := shade (HG12.out.grown hgr)
    clear hgr HS12 HP12 HG12
    go_wp2_with fail
    refine (markIntS_row _ _ K _ f 1 _ (by omega) (by omega) HG14.out).mono ?_
    rintro e w15 ⟨rfl, hm, hb⟩
    have l15 := hb.size
    have HS15 := shade (HS14.out.row hb (fun b e => by have := (HG14.out.rng e).1; omega))
    have HP15 := shade (HP14.out.row hb (fun b e => by have := (HG14.out.rng e).1; omega))
    have HG15 := shade hm
    clear hb hm HS14 HP14 HG14
    go_wp2_with fail
    refine (heldIntS_row _ _ K _ 1 _ (by omega) (by omega) HG15.out).mono ?_
    rintro e w16 ⟨rfl, rfl⟩
    go_wp2_with fail
    refine (toInstrS_any A n c F _ hnb HS15.out.code).mono ?_
    rintro e w17 ⟨rfl, hc7, hgr⟩
    have l17 := hgr.size
    have HS17 := shade (HS15.out.grown hgr)
    have HP17 := shade (HP15.out.grown hgr)
    have HG17 := shade (HG15.out.grown hgr)
    have HC17 := shade hc7.code
    clear hgr HS15 HP15 HG15 hc7
    go_wp2_with fail
    refine (HIm.out _ _ HS17.out.wt HC17.out).mono ?_
    rintro e w18 h5
    obtain ⟨v2, rfl, hR, hgr⟩ := NumRes.row h5
    have l18 := hgr.size
    have HS18 := shade (HS17.out.grown hgr)
    have HP18 := shade (HP17.out.grown hgr)
    have HG18 := shade (HG17.out.grown hgr)
    have HV18 := shade hR
    clear hgr HS17 HP17 HG17 HC17 hR h5
    go_wp2_with fail
    refine (eqIntS_row _ _ _ _ K _ _ f _ hK HV18.out HP18.out).mono ?_
    rintro e w19 ⟨rfl, hgr⟩
    have HS19 := shade (HS18.out.grown hgr)
    have HG19 := shade (HG18.out.grown hgr)
    clear hgr HS18 HP18 HG18 HV18
    go_wp2_with fail
    refine (heldIntS_row _ _ K _ 1 _ (by omega) (by omega) HG19.out).mono ?_
    rintro e w20 ⟨rfl, rfl⟩
    go_wp2_with fail
    go_ret
    exact ⟨rfl, below_of_grown HS19.out.base⟩

end Go.Proofs.YtlhfmjlcpcopkaaDoor
