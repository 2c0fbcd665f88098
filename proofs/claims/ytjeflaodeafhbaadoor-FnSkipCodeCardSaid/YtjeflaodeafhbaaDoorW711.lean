/- SkipCode answers as its model for the drawn program, and its answer does as the program. -/
import Derived.Test.YtjeflaodeafhbaaDoorG700
import Derived.Test.YtjeflaodeafhbaaDoorG609
import Derived.Test.YtjeflaodeafhbaaDoorW710
import Derived.Test.YtjeflaodeafhbaaDoorG130
import Derived.Test.YtjeflaodeafhbaaDoorG616
namespace Go.Proofs.YtjeflaodeafhbaaDoor
open Go.RowKit Go.Shelf
set_option linter.unusedSimpArgs false
set_option maxRecDepth 100000 in
set_option maxHeartbeats 4000000 in
theorem DrawSkipCode_any (A : Option Addr) (n cap : Nat) (zs : List Int) (w : World) (h : Bys w A n cap zs) :
    Calls Tryd.prog 26 #[.slice A n cap] w (DrwC w) := by
  have HN := shade (newReader_any A n cap zs w h)
  clear h
  go_enter Tryd.func26, Tryd.ntmps26
  go_wp2_with fail
  refine HN.out.mono ?_
  rintro e w1 ⟨m, rfl, hR, hb1⟩
  have HG1 := shade (grown_of_below hb1)
  have HR1 := shade hR
  clear hb1 hR HN
  go_wp2_with fail
  refine (someCode_rd HR1.out (by omega)).mono ?_
  rintro e w2 ⟨g', k, c, f, rfl, hk, hC, hG, hg', q, hq, hR⟩
  have HG2 := shade (grown_row HG1.out hG (fun j e => by injection e; omega))
  have HC2 := shade hC
  clear hC hG hR HR1 HG1
  go_wp2_with fail
  go_ret
  exact ⟨_, k, c, f, rfl, hk, HC2.out, HG2.out⟩
theorem codeRes_open {k : Nat} {f : Nat → Ins} {w w' : World} {e : Ending} (h : CodeRes k f w e w') : ∃ A c, e = .returned (.slice A k c) ∧ Code w' A k f ∧ w.grownBy w' none := by
  obtain ⟨v, he, ho, hg⟩ := h
  obtain ⟨A, c, rfl, hc⟩ := codeRes_val ho
  exact ⟨A, c, he, hc, hg⟩
set_option maxRecDepth 100000 in
set_option maxHeartbeats 16000000 in
theorem fnSkipCode_walk (A : Option Addr) (n cap : Nat) (zs : List Int) (w : World) (hg : WT w) (hB : Bys w A n cap zs) :
    Calls Tryd.prog 6 #[.slice A n cap] w fun e w' => e = .returned (.bool true) ∧ Below w.heap.size w w' := by
  have HG := shade hg
  have HBy := shade hB
  have hcap := hB.fits
  have hbig := hB.big
  unfold maxLen at hbig
  clear hg hB
  by_cases hl : 1048576 < n
  · go_enter Tryd.func6, Tryd.ntmps6
    go_wp2_with fail
    go_ret
    exact ⟨rfl, rfl, rfl, rfl, Nat.le_refl _, fun _ _ => rfl⟩
  · have HD := shade (DrawSkipCode_any A n cap zs w HBy.out)
    go_enter Tryd.func6, Tryd.ntmps6
    go_wp2_with fail
    refine HD.out.mono ?_
    rintro e w1 ⟨Al, k, c, F, rfl, hk, hC, hgr⟩
    obtain ⟨K, f, hK, HSp, HIm, hcase⟩ := skip_both k F (by omega)
    have HSP := shade HSp; have HIM := shade HIm; have HCA := shade hcase
    have HC := shade hC
    have HL := shade hgr
    have HWG := shade (fun W (hW : w.grownBy W none) => HG.out.below (below_of_grown hW) (wt_lt HG.out))
    clear HSp HIm hcase hC hgr HD
    go_wp2_with fail
    refine (HIM.out _ _ _ (HWG.out _ HL.out) HC.out).mono ?_
    rintro e w2 h5
    obtain ⟨A5, c5, rfl, hN, hgr⟩ := codeRes_open h5
    have HC2 := shade (HC.out.on hgr); have HL2 := shade (grown_same HL.out hgr); have HV2 := shade hN
    clear hgr hN h5 HC HL HIM
    go_wp2_with fail
    refine (HSP.out _ _ _ HC2.out).mono ?_
    rintro e w3 h5
    obtain ⟨A6, c6, rfl, hN, hgr⟩ := codeRes_open h5
    have HC3 := shade (HC2.out.on hgr); have HL3 := shade (grown_same HL2.out hgr); have HV3 := shade (HV2.out.on hgr); have HW3 := shade hN
    clear hgr h5 hN HC2 HL2 HV2
    go_wp2_with fail
    refine (equalCode_any _ _ _ _ _ _ _ (by omega) HV3.out HW3.out).mono ?_
    rintro e w4 ⟨rfl, hgr⟩
    have HC4 := shade (HC3.out.on hgr); have HL4 := shade (grown_same HL3.out hgr); have HV4 := shade (HV3.out.on hgr)
    clear hgr HC3 HL3 HV3 HW3
    go_wp2_with fail
    refine (ValidCode_any _ _ _ _ _ (HWG.out _ HL4.out) (by omega) HC4.out).mono ?_
    rintro e w5 ⟨rfl, hgr⟩
    have HC5 := shade (HC4.out.on hgr); have HL5 := shade (grown_same HL4.out hgr); have HV5 := shade (HV4.out.on hgr)
    clear hgr HC4 HL4 HV4
    rcases hv : vcB k F with _ | _
    · go_wp2_with fail
      refine (HSP.out _ _ _ HC5.out).mono ?_
      rintro e w6 h5
      obtain ⟨A7, c7, rfl, hN, hgr⟩ := codeRes_open h5
      have HL6 := shade (grown_same HL5.out hgr); have HV6 := shade (HV5.out.on hgr); have HW6 := shade hN
      clear hgr h5 hN
      go_wp2_with fail
      refine (equalCode_any _ _ _ _ _ _ _ (by omega) HV6.out HW6.out).mono ?_
      rintro e w7 ⟨rfl, hgr⟩
      have HL7 := shade (grown_same HL6.out hgr)
      clear hgr
      go_wp2_with fail
      go_ret
      exact ⟨rfl, below_of_grown HL7.out⟩
    · have HVT := shade hv
      have hpost := HCA.out.resolve_left (fun h => by rw [hv] at h; exact absurd h.1 (by decide))
      rw [hv] at hpost
      have hp2 := hpost.2
      clear hpost
      obtain ⟨hKg, hfg⟩ := hp2
      have HVO := shade (show vcB K f = true from by rw [hKg, hfg]; exact koP_valid _ (ldF_valid hv))
      have hKk : K ≤ k := by rw [hKg]; exact ctK_le _ k
      have HRR := shade (fun s (hs : OkS s) h0 => (show ∀ J, (∀ i, i < J → sHalt k F (sN F s i) = false) → sHalt k F (sN F s J) = true → EndsAs f K s J (sN F s J).m (sN F s J).r from by rw [hKg, hfg]; exact skip_run hv s hs h0))
      have HRUN := shade (fun s (hs : OkS s) h0 => (show ∀ J, (∀ i, i < J → sHalt k F (sN F s i) = false) → sHalt k F (sN F s J) = true → EndsBy f K s J (sN F s J).m from fun J g1 g2 => (HRR.out s hs h0 J g1 g2).by))
      clear hKg hfg
      clear HSP HCA hv
      go_wp2_with fail
      go_loopw [5] (fun r wr => ∃ q : Nat, q ≤ 3 ∧ r = .int .i64 (4 * (q : Int)) ∧ w5.grownBy wr none) (fun r _ => 12 - (intOf r).toNat)
      case atStart => exact ⟨0, by omega, rfl, grown_refl _ _⟩
      case round =>
        obtain ⟨q, hq, rfl, hgw⟩ := hrel
        have HGW := shade hgw
        clear hgw
        by_cases hq3 : q < 3
        · have HTRI := shade (fun W => trial_any (4 * (q : Int)) (by omega) W)
          obtain ⟨wo, rfl⟩ : ∃ wo : World, wo = wr := ⟨_, rfl⟩
          obtain ⟨t, ht⟩ : ∃ t : Int, 4 * (q : Int) = t := ⟨_, rfl⟩
          obtain ⟨st, hst⟩ : ∃ st : Sta, (⟨0, trR t, trM t⟩ : Sta) = st := ⟨_, rfl⟩
          have hs0 : st.at' = 0 := by rw [← hst]
          have hsr : st.r = trR t := by rw [← hst]
          have hsm : st.m = trM t := by rw [← hst]
          have hok : OkS st := by rw [← hst]; exact try_ok t
          have hvm : vmB st.at' 4 8 st.r st.m = true := by rw [← hst]; exact try_vm t
          obtain ⟨K1, hK1⟩ := runEnd_some k F st 300
          obtain ⟨K2, hK2⟩ := runEnd_some K f st 300
          have hx : sHalt k F (sN F st K1) = true → (sN f st K2).r = (sN F st K1).r := fun hh => by
            obtain ⟨K3, k1, k2, k3, k4, k5⟩ := HRR.out st hok hs0 K1 hK1.go hh
            have hkk : RunEnd K f st 300 K3 := ⟨by have := hK1.le; omega, k2, .inr k3⟩
            obtain rfl := hkk.uniq hK2
            exact k5
          have hTRI2 : ∀ W, Calls Tryd.prog 14 #[.int .i64 t] W (MachOk W 0 4 8 st.r st.m) := fun W => by
            rw [hsr, hsm, ← ht]
            exact HTRI.out W
          have HTR := shade hTRI2
          have HR1 := shade (fun (b1 c1 b2 c2 : Nat) (W : World) (hW : w5.grownBy W none) h1 h2 => (show Calls Tryd.prog 16 #[.slice Al k c, MV 0 (some ⟨b1, 0, none⟩) 4 c1 (some ⟨b2, 0, none⟩) 8 c2, .int .i64 300] W (RunMRes W (sN F st K1).at' 4 8 (sN F st K1).r (sN F st K1).m K1 (sHalt k F (sN F st K1))) from by
            rw [← hs0]
            exact runs_told Al k c F st b1 c1 b2 c2 300 K1 W (HWG.out _ (grown_same HL5.out hW)) (HC5.out.on hW) h1 h2 HVT.out hvm (Nat.le_refl _) hK1))
          have HR2 := shade (fun (b1 c1 b2 c2 : Nat) (W : World) (hW : w5.grownBy W none) h1 h2 => (show Calls Tryd.prog 16 #[.slice A5 K c5, MV 0 (some ⟨b1, 0, none⟩) 4 c1 (some ⟨b2, 0, none⟩) 8 c2, .int .i64 300] W (RunMRes W (sN f st K2).at' 4 8 (sN f st K2).r (sN f st K2).m K2 (sHalt K f (sN f st K2))) from by
            rw [← hs0]
            exact runs_told A5 K c5 f st b1 c1 b2 c2 300 K2 W (HWG.out _ (grown_same HL5.out hW)) (HV5.out.on hW) h1 h2 HVO.out hvm (Nat.le_refl _) hK2))
          have HSE := shade (fun (b1 c1 b2 c2 : Nat) (W : World) (hW : w5.grownBy W none) h1 h2 => (show Calls Tryd.prog 22 #[.slice Al k c, .slice A5 K c5, MV 0 (some ⟨b1, 0, none⟩) 4 c1 (some ⟨b2, 0, none⟩) 8 c2] W (fun e w' => e = .returned (.bool true) ∧ W.grownBy w' none) from by
            rw [← hs0]
            exact sameEnd_any Al A5 k c K c5 F f st b1 c1 b2 c2 W (HWG.out _ (grown_same HL5.out hW)) (HC5.out.on hW) (HV5.out.on hW) h1 h2 HVT.out HVO.out hvm (HRUN.out _ hok hs0)))
          have hkl := hK1.le
          have hkl2 := hK2.le
          obtain ⟨at2, hat⟩ : ∃ x, (sN F st K1).at' = x := ⟨_, rfl⟩
          obtain ⟨rr2, hr2⟩ : ∃ x, (sN F st K1).r = x := ⟨_, rfl⟩
          obtain ⟨mm2, hm2⟩ : ∃ x, (sN F st K1).m = x := ⟨_, rfl⟩
          obtain ⟨d, hd⟩ : ∃ x, sHalt k F (sN F st K1) = x := ⟨_, rfl⟩
          obtain ⟨at3, hat3⟩ : ∃ x, (sN f st K2).at' = x := ⟨_, rfl⟩
          obtain ⟨rr3, hr3⟩ : ∃ x, (sN f st K2).r = x := ⟨_, rfl⟩
          obtain ⟨mm3, hm3⟩ : ∃ x, (sN f st K2).m = x := ⟨_, rfl⟩
          obtain ⟨d3, hd3⟩ : ∃ x, sHalt K f (sN f st K2) = x := ⟨_, rfl⟩
          rw [hat, hr2, hm2, hd] at HR1
          rw [hat3, hr3, hm3, hd3] at HR2
          rw [hd, hr2, hr3] at hx
          have HX := shade hx
          have HT := shade ht
          clear hat hr2 hm2 hd hat3 hr3 hm3 hd3 hx hTRI2 hK1 hK2 hs0 hsr hsm hok hvm hst HTRI
          rw [ht]
          go_wp2_with fail
          refine (HTR.out _).mono ?_
          rintro e w6 ⟨g1, d1, g2, d2, rfl, hne, ho1, ho2, hgr⟩
          have HG6 := shade (grown_same HGW.out hgr)
          have HO1 := shade (Own.nums ho1); have HO2 := shade (Own.nums ho2)
          clear hgr ho1 ho2 hne
          go_wp2_with fail
          refine (HR1.out _ _ _ _ _ HG6.out HO1.out HO2.out).mono ?_
          rintro e w7 h5
          obtain ⟨ra, da, rb, db, rfl, o1, o2, hg⟩ := RunMRes.open h5
          have hga := World.grownBy_alloc w7 (.cells #[.int .i64 at2, .slice (some ⟨ra, 0, none⟩) 4 da, .slice (some ⟨rb, 0, none⟩) 8 db] 29) none
          have HG7 := shade (grown_same HG6.out (grown_same hg hga))
          have HA7 := shade (Holds5.fresh w7 29 #[.int .i64 at2, .slice (some ⟨ra, 0, none⟩) 4 da, .slice (some ⟨rb, 0, none⟩) 8 db])
          have HP7 := shade (nums_on o1.nums hga)
          clear h5 o1 o2 hg hga HO1 HO2 HG6 HR1
          go_wp2_with fail
          refine (HTR.out _).mono ?_
          rintro e w8 ⟨g1, d1, g2, d2, rfl, hne, ho1, ho2, hgr⟩
          have HG8 := shade (grown_same HG7.out hgr)
          have HA8 := shade (HA7.out.grown hgr (by intro e; cases e))
          have HP8 := shade (nums_on HP7.out hgr)
          have HO1 := shade (Own.nums ho1); have HO2 := shade (Own.nums ho2)
          clear hgr ho1 ho2 hne HG7 HA7 HP7
          go_wp2_with fail
          refine (HR2.out _ _ _ _ _ HG8.out HO1.out HO2.out).mono ?_
          rintro e w9 h5
          obtain ⟨r3a, d3a, r3b, d3b, rfl, o1, o2, hg⟩ := RunMRes.open h5
          have hga := World.grownBy_alloc w9 (.cells #[.int .i64 at3, .slice (some ⟨r3a, 0, none⟩) 4 d3a, .slice (some ⟨r3b, 0, none⟩) 8 d3b] 29) none
          have HG9 := shade (grown_same HG8.out (grown_same hg hga))
          have HA9 := shade (HA8.out.grown (grown_same hg hga) (by intro e; cases e))
          have HP9 := shade (nums_on HP8.out (grown_same hg hga))
          have HB9 := shade (Holds5.fresh w9 29 #[.int .i64 at3, .slice (some ⟨r3a, 0, none⟩) 4 d3a, .slice (some ⟨r3b, 0, none⟩) 8 d3b])
          have HQ9 := shade (nums_on o1.nums hga)
          clear h5 o1 o2 hg hga HO1 HO2 HG8 HR2 HA8 HP8
          go_wp2_with fail
          refine (HTR.out _).mono ?_
          rintro e w10 ⟨g1, d1, g2, d2, rfl, hne, ho1, ho2, hgr⟩
          have HG10 := shade (grown_same HG9.out hgr)
          have HA10 := shade (HA9.out.grown hgr (by intro e; cases e)); have HB10 := shade (HB9.out.grown hgr (by intro e; cases e))
          have HP10 := shade (nums_on HP9.out hgr); have HQ10 := shade (nums_on HQ9.out hgr)
          have HO1 := shade (Own.nums ho1); have HO2 := shade (Own.nums ho2)
          clear hgr ho1 ho2 hne HG9 HA9 HB9 HP9 HQ9
          go_wp2_with fail
          refine (HSE.out _ _ _ _ _ HG10.out HO1.out HO2.out).mono ?_
          rintro e w11 ⟨rfl, hgr⟩
          have HG11 := shade (grown_same HG10.out hgr)
          have hA := HA10.out.grown hgr (by intro e; cases e); have hB := HB10.out.grown hgr (by intro e; cases e)
          have HP11 := shade (nums_on HP10.out hgr); have HQ11 := shade (nums_on HQ10.out hgr)
          have q0 := hA.look 0; have q1 := hA.look 1; have q2 := hA.look 2
          have p0 := hB.look 0; have p1 := hB.look 1; have p2 := hB.look 2
          simp at q0 q1 q2 p0 p1 p2
          clear hgr hA hB HG10 HA10 HB10 HP10 HQ10 HO1 HO2
          rcases d with _ | _
          · go_wp2_with fail
            go_roundw
            case rel => exact ⟨q + 1, by omega, by have := HT.out; rw [← this]; go_num, HG11.out⟩
            case measure => have := HT.out; simp [intOf]; omega
          · have hrr := HX.out rfl
            subst hrr
            have HEQ := shade (equalInts_any (some ⟨ra, 0, none⟩) (some ⟨r3a, 0, none⟩) da d3a 4 rr3 rr3 w11 (by omega) HP11.out HQ11.out (fun _ _ => rfl))
            clear HP11 HQ11
            go_wp2_with fail
            refine HEQ.out.mono ?_
            rintro e w12 ⟨rfl, m, rfl⟩
            have HG12 := shade (grown_drewN HG11.out m)
            go_wp2_with fail
            go_roundw
            case rel => exact ⟨q + 1, by omega, by have := HT.out; rw [← this]; go_num, HG12.out⟩
            case measure => have := HT.out; simp [intOf]; omega
        · obtain rfl : q = 3 := by omega
          rw [show (4 : Int) * ((3 : Nat) : Int) = 12 from rfl]
          have HV6 := shade (HV5.out.on HGW.out)
          have HL6 := shade (grown_same HL5.out HGW.out)
          have hle : (K : Int) ≤ (k : Int) := by omega
          go_wp2_with fail
          refine (ValidCode_any _ _ _ _ _ (HWG.out _ HL6.out) (by omega) HV6.out).mono ?_
          rw [HVO.out]
          rintro e w7 ⟨rfl, hgr⟩
          have HL7 := shade (grown_same HL6.out hgr)
          clear hgr
          go_wp2_with fail
          go_ret
          exact ⟨rfl, below_of_grown HL7.out⟩
end Go.Proofs.YtjeflaodeafhbaaDoor
