/- ShrinkCode answers as its model for the drawn program, and its answer does as the program. -/
import Derived.Test.YtjeflaodeafhbaaDoorG700
import Derived.Test.YtjeflaodeafhbaaDoorG609
import Derived.Test.YtjeflaodeafhbaaDoorW705
import Derived.Test.YtjeflaodeafhbaaDoorG130
namespace Go.Proofs.YtjeflaodeafhbaaDoor
open Go.RowKit Go.Shelf
set_option linter.unusedSimpArgs false
set_option maxRecDepth 100000 in
set_option maxHeartbeats 4000000 in
theorem DrawShrinkCode_any (A : Option Addr) (n cap : Nat) (zs : List Int) (w : World) (h : Bys w A n cap zs) :
    Calls Tryd.prog 23 #[.slice A n cap] w (DrwC w) := by
  have HN := shade (newReader_any A n cap zs w h)
  clear h
  go_enter Tryd.func23, Tryd.ntmps23
  go_wp2_with fail
  refine HN.out.mono ?_
  rintro e w1 ⟨m, rfl, hR, hb1⟩
  have HG1 := shade (grown_of_below hb1)
  have HR1 := shade hR
  clear hb1 hR HN
  go_wp2_with fail
  refine (someCode_rd HR1.out (by omega)).mono ?_
  rintro e w2 ⟨g', k, c, f, rfl, hk, hC, hG, hg', q, hq, hR⟩
  have HG2 := shade (grown_row HG1.out hG (fun j e => by injection e; omega))
  have HC2 := shade hC
  clear hC hG hR HR1 HG1
  go_wp2_with fail
  go_ret
  exact ⟨_, k, c, f, rfl, hk, HC2.out, HG2.out⟩
theorem codeRes_open {k : Nat} {f : Nat → Ins} {w w' : World} {e : Ending} (h : CodeRes k f w e w') : ∃ A c, e = .returned (.slice A k c) ∧ Code w' A k f ∧ w.grownBy w' none := by
  obtain ⟨v, he, ho, hg⟩ := h
  obtain ⟨A, c, rfl, hc⟩ := codeRes_val ho
  exact ⟨A, c, he, hc, hg⟩
set_option maxRecDepth 100000 in
set_option maxHeartbeats 16000000 in
theorem fnShrinkCode_walk (A : Option Addr) (n cap : Nat) (zs : List Int) (w : World) (hg : WT w) (hB : Bys w A n cap zs) :
    Calls Tryd.prog 5 #[.slice A n cap] w fun e w' => e = .returned (.bool true) ∧ Below w.heap.size w w' := by
  have HG := shade hg
  have HBy := shade hB
  have hcap := hB.fits
  have hbig := hB.big
  unfold maxLen at hbig
  clear hg hB
  by_cases hl : 1048576 < n
  · go_enter Tryd.func5, Tryd.ntmps5
    go_wp2_with fail
    go_ret
    exact ⟨rfl, rfl, rfl, rfl, Nat.le_refl _, fun _ _ => rfl⟩
  · have HD := shade (DrawShrinkCode_any A n cap zs w HBy.out)
    go_enter Tryd.func5, Tryd.ntmps5
    go_wp2_with fail
    refine HD.out.mono ?_
    rintro e w1 ⟨Al, k, c, F, rfl, hk, hC, hgr⟩
    obtain ⟨K, f, hK, HSp, HIm, hcase⟩ := shrink_both k F (by omega)
    have HSP := shade HSp; have HIM := shade HIm; have HCA := shade hcase
    have HC := shade hC
    have HL := shade hgr
    have HWG := shade (fun W (hW : w.grownBy W none) => HG.out.below (below_of_grown hW) (wt_lt HG.out))
    clear HSp HIm hcase hC hgr HD
    go_wp2_with fail
    refine (HIM.out _ _ _ (HWG.out _ HL.out) HC.out).mono ?_
    rintro e w2 h5
    obtain ⟨A5, c5, rfl, hN, hgr⟩ := codeRes_open h5
    have HC2 := shade (HC.out.on hgr); have HL2 := shade (grown_same HL.out hgr); have HV2 := shade hN
    clear hgr hN h5 HC HL HIM
    go_wp2_with fail
    refine (HSP.out _ _ _ HC2.out).mono ?_
    rintro e w3 h5
    obtain ⟨A6, c6, rfl, hN, hgr⟩ := codeRes_open h5
    have HC3 := shade (HC2.out.on hgr); have HL3 := shade (grown_same HL2.out hgr); have HV3 := shade (HV2.out.on hgr); have HW3 := shade hN
    clear hgr h5 hN HC2 HL2 HV2
    go_wp2_with fail
    refine (equalCode_any _ _ _ _ _ _ _ (by omega) HV3.out HW3.out).mono ?_
    rintro e w4 ⟨rfl, hgr⟩
    have HC4 := shade (HC3.out.on hgr); have HL4 := shade (grown_same HL3.out hgr); have HV4 := shade (HV3.out.on hgr)
    clear hgr HC3 HL3 HV3 HW3
    go_wp2_with fail
    refine (ValidCode_any _ _ _ _ _ (HWG.out _ HL4.out) (by omega) HC4.out).mono ?_
    rintro e w5 ⟨rfl, hgr⟩
    have HC5 := shade (HC4.out.on hgr); have HL5 := shade (grown_same HL4.out hgr); have HV5 := shade (HV4.out.on hgr)
    clear hgr HC4 HL4 HV4
    rcases hv : vcB k F with _ | _
    · go_wp2_with fail
      refine (HSP.out _ _ _ HC5.out).mono ?_
      rintro e w6 h5
      obtain ⟨A7, c7, rfl, hN, hgr⟩ := codeRes_open h5
      have HL6 := shade (grown_same HL5.out hgr); have HV6 := shade (HV5.out.on hgr); have HW6 := shade hN
      clear hgr h5 hN
      go_wp2_with fail
      refine (equalCode_any _ _ _ _ _ _ _ (by omega) HV6.out HW6.out).mono ?_
      rintro e w7 ⟨rfl, hgr⟩
      have HL7 := shade (grown_same HL6.out hgr)
      clear hgr
      go_wp2_with fail
      go_ret
      exact ⟨rfl, below_of_grown HL7.out⟩
    · have HVT := shade hv
      have hpost := HCA.out.resolve_left (fun h => by rw [hv] at h; exact absurd h.1 (by decide))
      rw [hv] at hpost
      have hp2 := hpost.2
      clear hpost
      obtain ⟨s, k0, hch, hKg, hfg⟩ := hp2
      have HVO := shade (show vcB K f = true from by rw [hKg, hfg]; exact hch.val _)
      have HRUN := shade (fun st (hs : OkS st) h0 => (show ∀ J, (∀ i, i < J → sHalt k F (sN F st i) = false) → sHalt k F (sN F st J) = true → EndsBy f K st J (sN F st J).m from fun J hgo hh => by rw [hKg, hfg]; exact hch.run st hs h0 J hgo hh (k0 + 1)))
      have HDON := shade (show ∀ g, DropG f K g → ctK g K = K ∧ ∀ j, j < K → koP f g K j = f j from fun g hd => by rw [hKg, hfg] at hd ⊢; exact hch.done hd)
      have HFST := shade (show ∀ g, DropG F k g → K ≤ ctK g k from fun g hd => by rw [hKg]; exact hch.first hd)
      clear hch hKg hfg
      clear HSP HCA hv
      go_wp2_with fail
      go_loopw [5] (fun r wr => ∃ q : Nat, q ≤ 3 ∧ r = .int .i64 (4 * (q : Int)) ∧ w5.grownBy wr none) (fun r _ => 12 - (intOf r).toNat)
      case atStart => exact ⟨0, by omega, rfl, grown_refl _ _⟩
      case round =>
        obtain ⟨q, hq, rfl, hgw⟩ := hrel
        have HGW := shade hgw
        clear hgw
        by_cases hq3 : q < 3
        · have HTRI := shade (fun W => trial_any (4 * (q : Int)) (by omega) W)
          obtain ⟨wo, rfl⟩ : ∃ wo : World, wo = wr := ⟨_, rfl⟩
          go_wp2_with fail
          refine (HTRI.out _).mono ?_
          rintro e w6 ⟨g1, d1, g2, d2, rfl, hne, ho1, ho2, hgr⟩
          have HG6 := shade (grown_same HGW.out hgr)
          have HO1 := shade (Own.nums ho1); have HO2 := shade (Own.nums ho2)
          clear hgr ho1 ho2 HGW hne
          go_wp2_with fail
          refine (sameEnd_any Al A5 k c K c5 F f ⟨0, trR (4 * (q : Int)), trM (4 * (q : Int))⟩ g1 d1 g2 d2 w6 (HWG.out _ (grown_same HL5.out HG6.out)) (HC5.out.on HG6.out) (HV5.out.on HG6.out) HO1.out HO2.out HVT.out HVO.out (try_vm _) (HRUN.out _ (try_ok _) rfl)).mono ?_
          rintro e w7 ⟨rfl, hgr⟩
          have HG7 := shade (grown_same HG6.out hgr)
          clear hgr
          go_wp2_with fail
          go_roundw
          case rel => exact ⟨q + 1, by omega, by go_num, HG7.out⟩
          case measure => simp [intOf]; omega
        · obtain rfl : q = 3 := by omega
          rw [show (4 : Int) * ((3 : Nat) : Int) = 12 from rfl]
          have HV6 := shade (HV5.out.on HGW.out)
          have HL6 := shade (grown_same HL5.out HGW.out)
          have HC6 := shade (HC5.out.on HGW.out)
          obtain ⟨K8, f8, hK8, -, HIm8, hcase8⟩ := drop_both K f (by omega)
          have HIM8 := shade HIm8
          obtain ⟨g8, hd8, hK8g, hf8⟩ := (hcase8.resolve_left (fun h => by rw [HVO.out] at h; exact absurd h.1 (by decide))).2
          obtain ⟨x1, x2⟩ := HDON.out g8 hd8
          have HK8 := shade (hK8g.trans x1)
          have HF8 := shade (show ∀ j, j < K → f8 j = f j from fun j hj => by rw [hf8]; exact x2 j hj)
          clear HIm8 hcase8 hd8 hK8g hf8 x1 x2
          go_wp2_with fail
          refine (HIM8.out _ _ _ (HWG.out _ HL6.out) HV6.out).mono ?_
          rintro e w7 h5
          obtain ⟨A7, c7, rfl, hN, hgr⟩ := codeRes_open h5
          have h8 := HK8.out
          subst h8
          have HW7 := shade (Code.congr hN HF8.out)
          have HV7 := shade (HV6.out.on hgr); have HC7 := shade (HC6.out.on hgr); have HL7 := shade (grown_same HL6.out hgr)
          clear hgr h5 hN HV6 HC6 HL6 HIM8
          go_wp2_with fail
          refine (equalCode_any _ _ _ _ _ _ _ (by omega) HW7.out HV7.out).mono ?_
          rintro e w8 ⟨rfl, hgr⟩
          have HC8 := shade (HC7.out.on hgr); have HL8 := shade (grown_same HL7.out hgr)
          clear hgr HC7 HL7 HW7 HV7
          obtain ⟨K9, f9, hK9, -, HIm9, hcase9⟩ := drop_both k F (by omega)
          have HIM9 := shade HIm9
          obtain ⟨g9, hd9, hK9g, -⟩ := (hcase9.resolve_left (fun h => by rw [HVT.out] at h; exact absurd h.1 (by decide))).2
          have hle9 := HFST.out g9 hd9
          rw [← hK9g] at hle9
          have hle : (K8 : Int) ≤ (K9 : Int) := by omega
          clear HIm9 hcase9 hd9 hK9g
          go_wp2_with fail
          refine (HIM9.out _ _ _ (HWG.out _ HL8.out) HC8.out).mono ?_
          rintro e w9 h5
          obtain ⟨A9, c9, rfl, hN, hgr⟩ := codeRes_open h5
          have HL9 := shade (grown_same HL8.out hgr)
          clear hgr h5 hN
          go_wp2_with fail
          go_ret
          exact ⟨rfl, below_of_grown HL9.out⟩
end Go.Proofs.YtjeflaodeafhbaaDoor
