/- PipeTable's exact law, walked. -/
import Derived.Test.YtlmjbflnfpccdaaDoorU21
import Derived.Test.YtlmjbflnfpccdaaDoorG720
import Derived.Test.YtlmjbflnfpccdaaDoorU39
namespace Go.Proofs.YtlmjbflnfpccdaaDoor
open Go.RowKit
set_option maxRecDepth 100000 in
set_option maxHeartbeats 8000000 in
theorem fnExactPipeTable_walk (A : Option Addr) (n c : Nat) (F : Nat → Ins) (AJ : Option Addr) (m cj : Nat) (J : Nat → Bool) (fw : Bool) (w : World) (hg : WT w) (h : Code w A n F) (hn : n ≤ 9223372036854775807) (hs : ∀ j, j < n → (F j).op.size ≤ 9223372036854775807) (hj : Bols w AJ m J) (hm : m ≤ 9223372036854775807) :
    Calls Tryd.prog 5 #[.slice A n c, .slice AJ m cj, .bool fw] w fun e w' => e = .returned (.bool true) ∧ Below w.heap.size w w' := by
  have HSZ := shade (szInstrS_any A n c F 1048576 w (by omega) (by omega) hn hs h)
  have HS0 := shade (show SJ w w A n F AJ m J from ⟨⟨hg, h, grown_refl _ _⟩, hj⟩)
  clear h hg hs hj
  obtain ⟨K, len, R, hK, hlen, hps, HSpec, HImpl⟩ := table_both n F m J fw hn
  have HSp := shade HSpec
  have HIm := shade HImpl
  clear HSpec HImpl
  go_enter Tryd.func5, Tryd.ntmps5
  by_cases hm0 : 1048576 < m
  · go_wp2_with fail
    go_ret
    exact ⟨rfl, Below.refl _ _⟩
  have hmb : m ≤ 1048576 := by omega
  go_wp2_with fail
  refine HSZ.out.mono ?_
  rintro e w1 ⟨r, rfl, hr, hgr⟩
  have HS1 := shade (HS0.out.grown hgr)
  clear hgr HSZ HS0
  rcases hr with hr | ⟨hr0, hr1⟩
  · go_wp2_with fail
    go_ret
    exact ⟨rfl, below_of_grown HS1.out.sc.base⟩
  · have hnb : n ≤ 1048576 := by omega
    go_wp2_with fail
    refine (toInstrS_any A n c F _ hnb HS1.out.sc.code).mono ?_
    rintro e w2 ⟨rfl, ho, hgr⟩
    have HS2 := shade (HS1.out.grown hgr)
    have l2 := hgr.size
    have HC2 := shade ho.code
    clear ho hgr HS1
    go_wp2_with fail
    refine (toBoolS_any AJ m cj J _ hmb HS2.out.bols).mono ?_
    rintro e w3 ⟨rfl, ho, hgr⟩
    have HS3 := shade (HS2.out.grown hgr)
    have HC3 := shade (HC2.out.on hgr)
    have l3 := hgr.size
    have HB := shade ho.bols
    clear ho hgr HS2 HC2
    go_wp2_with fail
    refine (HSp.out _ _ _ _ _ HC3.out HB.out).mono ?_
    rintro e w4 h5
    obtain ⟨u0, AS0, rfl, hR, hgr⟩ := RwsRes.row h5
    have HS4 := shade (HS3.out.grown hgr)
    have l4 := hgr.size
    have HP4 := shade hR
    clear hgr HS3 h5 hR
    clear HC3 HB
    have lb := HS4.out.sc.base.size
    go_wp2_with fail
    refine (toInstrS_any A n c F _ hnb HS4.out.sc.code).mono ?_
    rintro e w5 ⟨rfl, ho, hgr⟩
    have HS5 := shade (HS4.out.grown hgr)
    have HP5 := shade (HP4.out.grown hgr)
    have l5 := hgr.size
    have HX5 := shade ho
    have b5 := (OwnC_lt ho).2
    clear ho hgr HS4 HP4
    go_wp2_with fail
    refine (toBoolS_any AJ m cj J _ hmb HS5.out.bols).mono ?_
    rintro e w6 ⟨rfl, ho, hgr⟩
    have HS6 := shade (HS5.out.grown hgr)
    have HP6 := shade (HP5.out.grown hgr)
    have HX6 := shade (OwnC_on HX5.out hgr)
    have l6 := hgr.size
    have HY6 := shade ho
    have b6 := (OwnB.lt ho).2
    clear ho hgr HS5 HP5 HX5
    go_wp2_with fail
    refine (HIm.out _ _ _ _ HS6.out.sc.wt HX6.out.code HY6.out.bols).mono ?_
    rintro e w7 h5
    obtain ⟨u1, AS1, rfl, hR, hgr⟩ := RwsRes.row h5
    have HS7 := shade (HS6.out.grown hgr)
    have HP7 := shade (HP6.out.grown hgr)
    have HX7 := shade (OwnC_on HX6.out hgr)
    have HY7 := shade (OwnB.on HY6.out hgr)
    have l7 := hgr.size
    have HG7 := shade hR
    clear hgr HS6 HP6 HX6 HY6 h5 hR
    go_wp2_with fail
    refine (eqIntSS_rows _ _ _ _ K _ _ _ _ len R _ hK hlen HG7.out HP7.out).mono ?_
    rintro e w8 ⟨rfl, hgr⟩
    have HS8 := shade (HS7.out.grown hgr)
    have HP8 := shade (HP7.out.grown hgr)
    have HX8 := shade (OwnC_on HX7.out hgr)
    have HY8 := shade (OwnB.on HY7.out hgr)
    have HG8 := shade (HG7.out.grown hgr)
    have l8 := hgr.size
    clear hgr HS7 HP7 HX7 HY7 HG7
    go_wp2_with fail
    refine (toInstrS_any A n c F _ hnb HS8.out.sc.code).mono ?_
    rintro e w9 ⟨rfl, ho, hgr⟩
    have HS9 := shade (HS8.out.grown hgr)
    have HP9 := shade (HP8.out.grown hgr)
    have HX9 := shade (OwnC_on HX8.out hgr)
    have HY9 := shade (OwnB.on HY8.out hgr)
    have HG9 := shade (HG8.out.grown hgr)
    have l9 := hgr.size
    have HC := shade ho.code
    clear ho hgr HS8 HP8 HX8 HY8 HG8
    go_wp2_with fail
    refine (eqInstrS_any _ _ n n n F _ hn HX9.out.code HC.out).mono ?_
    rintro e w10 ⟨rfl, hgr⟩
    have HS10 := shade (HS9.out.grown hgr)
    have HP10 := shade (HP9.out.grown hgr)
    have HX10 := shade (OwnC_on HX9.out hgr)
    have HY10 := shade (OwnB.on HY9.out hgr)
    have HG10 := shade (HG9.out.grown hgr)
    have l10 := hgr.size
    clear hgr HC HS9 HP9 HX9 HY9 HG9
    go_wp2_with fail
    refine (toBoolS_any AJ m cj J _ hmb HS10.out.bols).mono ?_
    rintro e w11 ⟨rfl, ho, hgr⟩
    have HS11 := shade (HS10.out.grown hgr)
    have HP11 := shade (HP10.out.grown hgr)
    have HX11 := shade (OwnC_on HX10.out hgr)
    have HY11 := shade (OwnB.on HY10.out hgr)
    have HG11 := shade (HG10.out.grown hgr)
    have l11 := hgr.size
    have HB := shade ho.bols
    clear ho hgr HS10 HP10 HX10 HY10 HG10
    go_wp2_with fail
    refine (eqBoolS_any _ _ m m m J J _ hm HY11.out.bols HB.out (fun _ _ => rfl)).mono ?_
    rintro e w12 ⟨rfl, km, rfl⟩
    obtain ⟨w12, hw12⟩ : ∃ w12, w11.drewN km = w12 := ⟨_, rfl⟩
    have hgr : w11.grownBy w12 none := by rw [← hw12]; exact grown_drewN (grown_refl _ _) _
    rw [hw12]
    have HS12 := shade (HS11.out.grown hgr)
    have HP12 := shade (HP11.out.grown hgr)
    have HX12 := shade (OwnC_on HX11.out hgr)
    have HY12 := shade (OwnB.on HY11.out hgr)
    have HG12 := shade (HG11.out.grown hgr)
    have l12 := hgr.size
    clear hgr hw12 HB HS11 HP11 HX11 HY11 HG11
    go_wp2_with fail
    refine (markInstrS_at _ w4.heap.size n n F 1 _ hnb (by omega) (by omega) HX12.out).mono ?_
    rintro e w13 ⟨rfl, _, hgr⟩
    have hc13 : Chg w12 w13 w4.heap.size (w4.heap.size + 1) := Chg.of_row hgr (fun b e => by injection e with e; omega)
    have HS13 := shade (HS12.out.row hgr (fun b e => by injection e with e; omega))
    have HP13 := shade (HP12.out.chg hc13 (by omega))
    have HY13 := shade (OwnB.far HY12.out hgr (by intro e; injection e with e; omega))
    have HG13 := shade (HG12.out.chg hc13 (by omega))
    have l13 := hgr.size
    clear hgr HX12 HS12 HP12 HY12 HG12
    obtain ⟨mk, hmk⟩ : ∃ mk : Int, 1 + 5 * (n : Int) = mk := ⟨_, rfl⟩
    have hmk0 : 0 ≤ mk := by omega
    have hmk1 : mk ≤ 5242881 := by omega
    (try rw [hmk])
    clear hmk
    go_wp2_with fail
    refine (markBoolS_at _ w5.heap.size m m J mk _ hmk0 (by omega) HY13.out).mono ?_
    rintro e w14 ⟨rfl, _, hgr⟩
    have hc14 : Chg w13 w14 w5.heap.size (w5.heap.size + 1) := Chg.of_row hgr (fun b e => by injection e with e; omega)
    have HS14 := shade (HS13.out.row hgr (fun b e => by injection e with e; omega))
    have HP14 := shade (HP13.out.chg hc14 (by omega))
    have HG14 := shade (HG13.out.chg hc14 (by omega))
    have l14 := hgr.size
    clear hgr HY13 HS13 HP13 HG13
    go_wp2_with fail
    refine (eqIntSS_rows _ _ _ _ K _ _ _ _ len R _ hK hlen HG14.out HP14.out).mono ?_
    rintro e w15 ⟨rfl, hgr⟩
    have HS15 := shade (HS14.out.grown hgr)
    have HP15 := shade (HP14.out.grown hgr)
    have HG15 := shade (HG14.out.grown hgr)
    have l15 := hgr.size
    clear hgr HS14 HP14 HG14
    go_wp2_with fail
    refine (markIntSS_rows _ _ K _ _ len R 1 _ hK (by omega) hps HG15.out).mono ?_
    rintro e w16 ⟨rfl, hmm, hgr⟩
    obtain ⟨M, hM⟩ : ∃ M : Int, ((1 + ps len K : Nat) : Int) = M := ⟨_, rfl⟩
    have hM0 : 0 ≤ M := by omega
    have HM := shade hM
    rw [hM]
    clear hM
    have HS16 := shade (show SJ w w16 A n F AJ m J from ⟨HS15.out.sc.chg hgr (by omega), HS15.out.bols0⟩)
    have HP16 := shade (HP15.out.chg hgr (by omega))
    have l16 := hgr.size
    have HG16 := shade hmm
    clear hgr hmm HG15 HS15 HP15
    go_wp2_with fail
    refine (heldIntSS_rows _ _ K _ _ len 1 _ hK (by omega) hps HG16.out).mono ?_
    rintro e w17 ⟨rfl, hgr⟩
    rw [HM.out]
    have HS17 := shade (HS16.out.grown hgr)
    have HP17 := shade (HP16.out.grown hgr)
    have HG17 := shade (HG16.out.grown hgr)
    have l17 := hgr.size
    clear hgr HS16 HP16 HG16
    go_wp2_with fail
    refine (toInstrS_any A n c F _ hnb HS17.out.sc.code).mono ?_
    rintro e w18 ⟨rfl, ho, hgr⟩
    have HS18 := shade (HS17.out.grown hgr)
    have HP18 := shade (HP17.out.grown hgr)
    have HG18 := shade (HG17.out.grown hgr)
    have l18 := hgr.size
    have HC18 := shade ho.code
    clear ho hgr HS17 HP17 HG17
    go_wp2_with fail
    refine (toBoolS_any AJ m cj J _ hmb HS18.out.bols).mono ?_
    rintro e w19 ⟨rfl, ho, hgr⟩
    have HS19 := shade (HS18.out.grown hgr)
    have HP19 := shade (HP18.out.grown hgr)
    have HG19 := shade (HG18.out.grown hgr)
    have HC19 := shade (HC18.out.on hgr)
    have l19 := hgr.size
    have HB := shade ho.bols
    clear ho hgr HS18 HP18 HG18 HC18
    go_wp2_with fail
    refine (HIm.out _ _ _ _ HS19.out.sc.wt HC19.out HB.out).mono ?_
    rintro e w20 h5
    obtain ⟨u2, AS2, rfl, hR, hgr⟩ := RwsRes.row h5
    have HS20 := shade (HS19.out.grown hgr)
    have HP20 := shade (HP19.out.grown hgr)
    have HG20 := shade (HG19.out.grown hgr)
    have l20 := hgr.size
    have HV := shade hR
    clear hgr h5 hR HC19 HB HS19 HP19 HG19
    go_wp2_with fail
    refine (eqIntSS_rows _ _ _ _ K _ _ _ _ len R _ hK hlen HV.out HP20.out).mono ?_
    rintro e w21 ⟨rfl, hgr⟩
    have HS21 := shade (HS20.out.grown hgr)
    have HP21 := shade (HP20.out.grown hgr)
    have HG21 := shade (HG20.out.grown hgr)
    clear hgr HV HS20 HP20 HG20
    go_wp2_with fail
    refine (heldIntSS_rows _ _ K _ _ len 1 _ hK (by omega) hps HG21.out).mono ?_
    rintro e w22 ⟨rfl, hgr⟩
    rw [HM.out]
    have HS22 := shade (HS21.out.grown hgr)
    have HG22 := shade (HG21.out.grown hgr)
    have l22 := hgr.size
    clear hgr HS21 HG21
    go_wp2_with fail
    go_ret
    exact ⟨rfl, below_of_grown HS22.out.sc.base⟩
end Go.Proofs.YtlmjbflnfpccdaaDoor
