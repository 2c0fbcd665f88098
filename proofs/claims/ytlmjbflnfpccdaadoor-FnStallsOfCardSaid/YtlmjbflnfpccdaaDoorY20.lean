/- StallsOf answers as its model for what is drawn; they are at least 0, and with as many and 4 PipeTime. -/
import Derived.Test.YtlmjbflnfpccdaaDoorY14
import Derived.Test.YtlmjbflnfpccdaaDoorW25
namespace Go.Proofs.YtlmjbflnfpccdaaDoor
open Go.RowKit
set_option linter.unusedSimpArgs false
set_option maxRecDepth 100000 in
set_option maxHeartbeats 8000000 in
theorem fnStallsOf_walk (A : Option Addr) (n cap : Nat) (zs : List Int) (w : World) (hg : WT w) (hB : Bys w A n cap zs) :
    Calls Tryd.prog 10 #[.slice A n cap] w fun e w' => e = .returned (.bool true) ∧ Below w.heap.size w w' := by
  have HG := shade hg
  have HBy := shade hB
  have hcap := hB.fits
  have hbig := hB.big
  unfold maxLen at hbig
  clear hg hB
  by_cases hl : 1048576 < n
  · go_enter Tryd.func10, Tryd.ntmps10
    go_wp2
    go_ret
    exact ⟨rfl, by go_grown⟩
  · have HD := shade (DrawStallsOf_any A n cap zs w HBy.out)
    go_enter Tryd.func10, Tryd.ntmps10
    go_wp2_with fail
    refine HD.out.mono ?_
    rintro e w1 ⟨A1, k, c, G, A2, m, d, J, fw, rfl, ⟨hk3, hm3, hkc, hmd⟩, hC, hJ, hgr⟩
    have HG1 := shade hgr
    have HC := shade hC
    have HJ := shade hJ
    clear hgr hC hJ HD HBy
    have HW := shade (fun W (hg : w.grownBy W none) => HG.out.below (below_of_grown hg) (wt_lt HG.out))
    have HIM := shade (fun W (hg : w1.grownBy W none) (hw : w.grownBy W none) => IStallsOf_any A1 k c G A2 m d J fw W (HW.out W hw) (by omega) hkc hmd (HC.out.on hg) (bols_on HJ.out hg))
    have HSP := shade (fun W (hg : w1.grownBy W none) => SStallsOf_any A1 k c G A2 m d J fw W (by omega) (HC.out.on hg) (bols_on HJ.out hg))
    have HTI := shade (fun W (hg : w1.grownBy W none) (hw : w.grownBy W none) => IPipeTime_any A1 k c G A2 m d J fw W (HW.out W hw) (by omega) hkc (HC.out.on hg) (bols_on HJ.out hg))
    rcases hv : vpB k G m with _ | _
    · rw [saP_no hv, sbP_no hv] at HIM HSP
      clear HTI hv
      go_wp2_with fail
      refine (HIM.out _ (grown_refl _ _) HG1.out).mono ?_
      rintro e w2 ⟨rfl, hg2⟩
      have HG2 := shade hg2
      clear hg2
      go_wp2_with fail
      refine (HSP.out _ HG2.out).mono ?_
      rintro e w3 ⟨rfl, hg3⟩
      have HG3 := shade (grown_same HG2.out hg3)
      clear hg3
      go_wp2_with fail
      go_ret
      exact ⟨rfl, below_of_grown (grown_same HG1.out HG3.out)⟩
    · rw [saP_yes hv, sbP_yes hv] at HIM HSP
      rw [tmP_yes hv] at HTI
      have hb := bub_rng J (k - 1)
      have hr := pk_rng G J fw (k - 1)
      rcases k with _ | q
      · rw [if_pos rfl] at HIM HSP
        have hb0 : bub J (0 - 1) = 0 := rfl
        rw [hb0] at HIM HSP
        clear HTI hv
        go_wp2_with fail
        refine (HIM.out _ (grown_refl _ _) HG1.out).mono ?_
        rintro e w2 ⟨rfl, hg2⟩
        have HG2 := shade hg2
        clear hg2
        go_wp2_with fail
        refine (HSP.out _ HG2.out).mono ?_
        rintro e w3 ⟨rfl, hg3⟩
        have HG3 := shade (grown_same HG2.out hg3)
        clear hg3
        go_wp2_with fail
        go_ret
        exact ⟨rfl, below_of_grown (grown_same HG1.out HG3.out)⟩
      · rw [if_neg (by omega)] at HIM HSP
        rw [show q + 1 - 1 = q from rfl] at HIM HSP hb hr
        have hT : ptm (q + 1) (pk G J fw) = pk G J fw q + 3 := if_neg (by omega)
        have hlow := pk_low G J fw q
        rw [hT] at HIM HSP HTI
        obtain ⟨z, hz⟩ : ∃ z, pk G J fw q = z := ⟨_, rfl⟩
        rw [hz] at HIM HSP HTI hlow hr
        obtain ⟨y, hy⟩ : ∃ y, bub J q = y := ⟨_, rfl⟩
        rw [hy] at HIM HSP hlow hb
        obtain ⟨x, hx⟩ : ∃ x, z + 3 - ((q + 1 : Nat) : Int) - 4 - y = x := ⟨_, rfl⟩
        rw [hx] at HIM HSP
        have hx0 : 0 ≤ x := by omega
        have hsum : y + x + ((q : Int) + 1) + 4 = z + 3 := by omega
        have hx1 : x ≤ 2000 := by omega
        have e1 : ((q : Int) + 1 == 0) = false := beq_eq_false_iff_ne.2 (by omega)
        clear hz hy hv hx hT
        go_wp2_with fail
        refine (HIM.out _ (grown_refl _ _) HG1.out).mono ?_
        rintro e w2 ⟨rfl, hg2⟩
        have HG2 := shade hg2
        clear hg2
        go_wp2_with fail
        refine (HSP.out _ HG2.out).mono ?_
        rintro e w3 ⟨rfl, hg3⟩
        have HG3 := shade (grown_same HG2.out hg3)
        clear hg3
        have e2 : (y + x + ((q : Int) + 1) + 4 == z + 3) = true := by
          rw [hsum]
          simp
        go_wp2_with fail
        refine (HTI.out _ HG3.out (grown_same HG1.out HG3.out)).mono ?_
        rintro e w4 ⟨rfl, hg4⟩
        have HG4 := shade (grown_same HG3.out hg4)
        clear hg4
        go_wp2_with fail
        go_ret
        exact ⟨rfl, below_of_grown (grown_same HG1.out HG4.out)⟩
end Go.Proofs.YtlmjbflnfpccdaaDoor
