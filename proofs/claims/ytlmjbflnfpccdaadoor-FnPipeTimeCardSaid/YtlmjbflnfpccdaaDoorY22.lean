/- PipeTime answers as its model for what is drawn; it is at least as many and 4, with forward no more, and of the first ones alone less. -/
import Derived.Test.YtlmjbflnfpccdaaDoorY14
import Derived.Test.YtlmjbflnfpccdaaDoorW25
namespace Go.Proofs.YtlmjbflnfpccdaaDoor
open Go.RowKit
set_option linter.unusedSimpArgs false
set_option maxRecDepth 100000 in
set_option maxHeartbeats 8000000 in
theorem fnPipeTime_walk (A : Option Addr) (n cap : Nat) (zs : List Int) (w : World) (hg : WT w) (hB : Bys w A n cap zs) :
    Calls Tryd.prog 8 #[.slice A n cap] w fun e w' => e = .returned (.bool true) ∧ Below w.heap.size w w' := by
  have HG := shade hg
  have HBy := shade hB
  have hcap := hB.fits
  have hbig := hB.big
  unfold maxLen at hbig
  clear hg hB
  by_cases hl : 1048576 < n
  · go_enter Tryd.func8, Tryd.ntmps8
    go_wp2
    go_ret
    exact ⟨rfl, by go_grown⟩
  · have HD := shade (DrawPipeTime_any A n cap zs w HBy.out)
    go_enter Tryd.func8, Tryd.ntmps8
    go_wp2_with fail
    refine HD.out.mono ?_
    rintro e w1 ⟨A1, k, c, G, A2, m, d, J, fw, rfl, ⟨hk3, hm3, hkc, hmd⟩, hC, hJ, hgr⟩
    have HG1 := shade hgr
    have HC := shade hC
    have HJ := shade hJ
    clear hgr hC hJ HD HBy
    have HW := shade (fun W (hg : w.grownBy W none) => HG.out.below (below_of_grown hg) (wt_lt HG.out))
    have HIM := shade (fun W (hg : w1.grownBy W none) (hw : w.grownBy W none) => IPipeTime_any A1 k c G A2 m d J fw W (HW.out W hw) (by omega) hkc (HC.out.on hg) (bols_on HJ.out hg))
    have HSP := shade (fun W (hg : w1.grownBy W none) => SPipeTime_any A1 k c G A2 m d J fw W (by omega) (HC.out.on hg) (bols_on HJ.out hg))
    by_cases hK : tmP k G m J fw ≤ 0
    · obtain ⟨x, hx⟩ : ∃ x, tmP k G m J fw = x := ⟨_, rfl⟩
      rw [hx] at HIM HSP hK
      clear hx
      go_wp2_with fail
      refine (HIM.out _ (grown_refl _ _) HG1.out).mono ?_
      rintro e w2 ⟨rfl, hg2⟩
      have HG2 := shade hg2
      clear hg2
      go_wp2_with fail
      refine (HSP.out _ HG2.out).mono ?_
      rintro e w3 ⟨rfl, hg3⟩
      have HG3 := shade (grown_same HG2.out hg3)
      clear hg3
      go_wp2_with fail
      refine (HSP.out _ HG3.out).mono ?_
      rintro e w4 ⟨rfl, hg4⟩
      have HG4 := shade (grown_same HG3.out hg4)
      clear hg4
      go_wp2_with fail
      go_ret
      exact ⟨by simp, below_of_grown (grown_same HG1.out HG4.out)⟩
    · have hv : vpB k G m = true := by
        rcases hv : vpB k G m with _ | _
        · rw [tmP_no hv] at hK
          omega
        · rfl
      obtain ⟨-, rfl, -⟩ := vpB_yes hv
      rcases m with _ | q
      · rw [tmP_yes hv] at hK
        exact absurd (show ptm 0 (pk G J fw) ≤ 0 from Int.le_refl _) hK
      · have hv2 := vpB_init hv
        obtain ⟨hl1, hl2⟩ := ptm_less q G J fw
        have hl3 := ptm_fast (q + 1) G J fw
        have hr0 := pk_rng G J fw q
        have hT : ptm (q + 1) (pk G J fw) = pk G J fw q + 3 := if_neg (by omega)
        have hT0 : 0 ≤ ptm (q + 1) (pk G J true) := by
          have := (ptm_less q G J true).2
          omega
        have hT1 : 0 ≤ ptm q (pk G J fw) := by
          unfold ptm
          split
          · omega
          · have := (pk_rng G J fw (q - 1)).1
            omega
        have hC0 := HC.out
        have hJ0 := HJ.out
        have HFA := shade (fun W (hg : w1.grownBy W none) (hw : w.grownBy W none) => tmP_yes (J := J) (fw := true) hv ▸ IPipeTime_any A1 (q + 1) c G A2 (q + 1) d J true W (HW.out W hw) (by omega) hkc (HC.out.on hg) (bols_on HJ.out hg))
        have HIN := shade (fun W (hg : w1.grownBy W none) (hw : w.grownBy W none) (cc dd : Nat) (hcc : q ≤ cc) => tmP_yes (J := J) (fw := fw) hv2 ▸ IPipeTime_any A1 q cc G A2 q dd J fw W (HW.out W hw) (by omega) hcc (Code.init (HC.out.on hg)) (Bols.init (bols_on HJ.out hg)))
        rw [tmP_yes hv] at HIM HSP hK
        obtain ⟨x, hx⟩ : ∃ x, ptm (q + 1) (pk G J fw) = x := ⟨_, rfl⟩
        rw [hx] at HIM HSP hK hl1 hl2 hl3 hT
        obtain ⟨y, hy⟩ : ∃ y, ptm (q + 1) (pk G J true) = y := ⟨_, rfl⟩
        rw [hy] at HFA hl3 hT0
        obtain ⟨z, hz⟩ : ∃ z, ptm q (pk G J fw) = z := ⟨_, rfl⟩
        rw [hz] at HIN hl1 hT1
        have hx1 : x ≤ 2000 := by omega
        clear hx hy hz hv hv2 hT hr0 hC0 hJ0
        have hwr : IntKind.i64.wrap ((q : Int) + 5) = (q : Int) + 5 := by rw [IntKind.wrap_i64]; omega
        have i1 : (q : Int) ≤ (c : Int) := by omega
        have i2 : (q : Int) ≤ (d : Int) := by omega
        have i3 : (0 : Int) ≤ (q : Int) := by omega
        have i4 : (q : Int) + 1 ≤ (c : Int) := by omega
        have i5 : (q : Int) + 1 ≤ (d : Int) := by omega
        go_wp2_with fail
        refine (HIM.out _ (grown_refl _ _) HG1.out).mono ?_
        rintro e w2 ⟨rfl, hg2⟩
        have HG2 := shade hg2
        clear hg2
        go_wp2_with fail
        refine (HSP.out _ HG2.out).mono ?_
        rintro e w3 ⟨rfl, hg3⟩
        have HG3 := shade (grown_same HG2.out hg3)
        clear hg3
        go_wp2_with fail
        go_region_held3 (fun _ => True) (exact trivial)
          (first
            | (go_at_call 24; refine (HFA.out _ (grown_same HG3.out (grown_drew1 _)) (grown_same HG1.out (grown_same HG3.out (grown_drew1 _)))).mono ?_; rintro e w4 ⟨rfl, hg4⟩; have HG4 := shade (grown_same (grown_same HG3.out (grown_drew1 w3)) hg4); clear hg4 HFA)
            | (go_at_call 24; refine (HIN.out _ HG4.out (grown_same HG1.out HG4.out) _ _ (by omega)).mono ?_; rintro e w5 ⟨rfl, hg5⟩; have HG5 := shade (grown_same HG4.out hg5); clear hg5))
        go_wp2_with fail
        go_ret
        exact ⟨rfl, below_of_grown (grown_same HG1.out HG5.out)⟩
end Go.Proofs.YtlmjbflnfpccdaaDoor
