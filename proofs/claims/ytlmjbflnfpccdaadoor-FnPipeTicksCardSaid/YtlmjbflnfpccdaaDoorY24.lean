/- PipeTicks answers as its model for what is drawn; they are ascending from 2 on, with forward never later, and 2 later behind a jump. -/
import Derived.Test.YtlmjbflnfpccdaaDoorY14
import Derived.Test.YtlmjbflnfpccdaaDoorW25
namespace Go.Proofs.YtlmjbflnfpccdaaDoor
open Go.RowKit
set_option linter.unusedSimpArgs false
set_option maxRecDepth 100000 in
set_option maxHeartbeats 8000000 in
theorem fnPipeTicks_walk (A : Option Addr) (n cap : Nat) (zs : List Int) (w : World) (hg : WT w) (hB : Bys w A n cap zs) :
    Calls Tryd.prog 7 #[.slice A n cap] w fun e w' => e = .returned (.bool true) ∧ Below w.heap.size w w' := by
  have HG := shade hg
  have HBy := shade hB
  have hcap := hB.fits
  have hbig := hB.big
  unfold maxLen at hbig
  clear hg hB
  by_cases hl : 1048576 < n
  · go_enter Tryd.func7, Tryd.ntmps7
    go_wp2
    go_ret
    exact ⟨rfl, by go_grown⟩
  · have HD := shade (DrawPipeTicks_any A n cap zs w HBy.out)
    go_enter Tryd.func7, Tryd.ntmps7
    go_wp2_with fail
    refine HD.out.mono ?_
    rintro e w1 ⟨A1, k, c, G, A2, m, d, J, fw, rfl, ⟨hk3, hm3, hkc, hmd⟩, hC, hJ, hgr⟩
    have HG1 := shade hgr
    have HC := shade hC
    have HJ := shade hJ
    clear hgr hC hJ HD HBy
    have HW := shade (fun W (hg : w.grownBy W none) => HG.out.below (below_of_grown hg) (wt_lt HG.out))
    have HIM := shade (fun W (hg : w1.grownBy W none) (hw : w.grownBy W none) => IPipeTicks_any A1 k c G A2 m d J fw W (HW.out W hw) (by omega) hkc (HC.out.on hg) (bols_on HJ.out hg))
    have HSP := shade (fun W (hg : w1.grownBy W none) => SPipeTicks_any A1 k c G A2 m d J fw W (by omega) (HC.out.on hg) (bols_on HJ.out hg))
    have HFA := shade (fun W (hg : w1.grownBy W none) (hw : w.grownBy W none) => IPipeTicks_any A1 k c G A2 m d J true W (HW.out W hw) (by omega) hkc (HC.out.on hg) (bols_on HJ.out hg))
    by_cases hK : nP k G m = 0
    · rw [hK] at HIM HSP
      clear HFA hK
      go_wp2_with fail
      refine (HIM.out _ (grown_refl _ _) HG1.out).mono ?_
      rintro e w2 h2
      obtain ⟨v, rfl, hR, hg2⟩ := NumRes.row h2
      obtain ⟨B2, c2, rfl, -⟩ := hR.nums
      have HR2 := shade hR; have HG2 := shade hg2
      clear h2 hR hg2
      go_wp2_with fail
      refine (HSP.out _ HG2.out).mono ?_
      rintro e w3 h3
      obtain ⟨v, rfl, hR, hg3⟩ := NumRes.row h3
      obtain ⟨B3, c3, rfl, -⟩ := hR.nums
      have HR3 := shade hR; have HR2 := shade (HR2.out.grown hg3); have HG3 := shade (grown_same HG2.out hg3)
      clear h3 hR hg3
      go_wp2_with fail
      refine (equalInts_row _ _ _ _ 0 _ _ _ _ (by omega) HR2.out HR3.out).mono ?_
      rintro e w4 ⟨rfl, hg4⟩
      have HG4 := shade (grown_same HG3.out hg4); have HR2 := shade (HR2.out.grown hg4)
      clear hg4
      go_wp2_with fail
      refine (HSP.out _ HG4.out).mono ?_
      rintro e w5 h5
      obtain ⟨v, rfl, hR, hg5⟩ := NumRes.row h5
      obtain ⟨B5, c5, rfl, -⟩ := hR.nums
      have HR5 := shade hR; have HR2 := shade (HR2.out.grown hg5); have HG5 := shade (grown_same HG4.out hg5)
      clear h5 hR hg5
      go_wp2_with fail
      refine (equalInts_row _ _ _ _ 0 _ _ _ _ (by omega) HR2.out HR5.out).mono ?_
      rintro e w6 ⟨rfl, hg6⟩
      have HG6 := shade (grown_same HG5.out hg6)
      clear hg6
      go_wp2_with fail
      go_ret
      exact ⟨rfl, below_of_grown (grown_same HG1.out HG6.out)⟩
    · have hv : vpB k G m = true := by
        rcases hv : vpB k G m with _ | _
        · rw [nP_no hv] at hK
          exact absurd rfl hK
        · rfl
      rw [nP_yes hv] at HIM HSP HFA hK
      obtain ⟨-, rfl, -⟩ := vpB_yes hv
      have hkp : 0 < m := by omega
      have e0 : ((m : Int) == 0) = false := beq_eq_false_iff_ne.2 (by omega)
      obtain ⟨jb, jo, rfl, -⟩ := HJ.out.resolve_left (by omega)
      have HLOW := shade (pk_asc G J fw)
      have HRNG := shade (pk_rng G J fw)
      have HFR := shade (pk_rng G J true)
      have HFAST := shade (fun k => pk_fast G J fw (k + 1) k (by omega))
      have H0 := shade (show pk G J fw 0 = 2 from (pk_eq G J fw 0).symm)
      generalize pk G J true = f1 at *
      generalize pk G J fw = f0 at *
      clear hv hK
      go_wp2_with fail
      refine (HIM.out _ (grown_refl _ _) HG1.out).mono ?_
      rintro e w2 h2
      obtain ⟨v, rfl, hR, hg2⟩ := NumRes.row h2
      obtain ⟨B2, c2, rfl, -⟩ := hR.nums
      have HR2 := shade hR; have HG2 := shade hg2
      clear h2 hR hg2
      go_wp2_with fail
      refine (HSP.out _ HG2.out).mono ?_
      rintro e w3 h3
      obtain ⟨v, rfl, hR, hg3⟩ := NumRes.row h3
      obtain ⟨B3, c3, rfl, -⟩ := hR.nums
      have HR3 := shade hR; have HR2 := shade (HR2.out.grown hg3); have HG3 := shade (grown_same HG2.out hg3)
      clear h3 hR hg3
      go_wp2_with fail
      refine (equalInts_row _ _ _ _ m _ _ _ _ (by omega) HR2.out HR3.out).mono ?_
      rintro e w4 ⟨rfl, hg4⟩
      have HG4 := shade (grown_same HG3.out hg4); have HR2 := shade (HR2.out.grown hg4)
      clear hg4
      go_wp2_with fail
      refine (HFA.out _ HG4.out (grown_same HG1.out HG4.out)).mono ?_
      rintro e w5 h5
      obtain ⟨v, rfl, hR, hg5⟩ := NumRes.row h5
      obtain ⟨B5, c5, rfl, hN5⟩ := hR.nums
      obtain ⟨B2', c2', e2, hN2⟩ := (HR2.out.grown hg5).nums
      injection e2 with e2 _ e3
      subst e2 e3
      have HN5 := shade hN5; have HN2 := shade hN2; have HG5 := shade (grown_same HG4.out hg5)
      clear h5 hR hg5 hN5 hN2
      obtain ⟨ob, oo, rfl, -⟩ := HN2.out.resolve_left (by omega)
      obtain ⟨fb, fo, rfl, -⟩ := HN5.out.resolve_left (by omega)
      go_wp2_with fail
      go_loopw [8] (fun i wr => ∃ j : Nat, j ≤ m ∧ i = .int .i64 (j : Int) ∧ w5.grownBy wr none) (fun i _ => m - (intOf i).toNat)
      case atStart => exact ⟨0, Nat.zero_le _, rfl, grown_refl _ _⟩
      case round =>
        obtain ⟨j, hj, rfl, hgr⟩ := hrel
        have HGR := shade hgr
        clear hgr
        by_cases hjm : j < m
        · have o0 := (HN2.out.grown HGR.out (by intro _ _ _ e; cases e)).cell hjm
          have a0 := (HN5.out.grown HGR.out (by intro _ _ _ e; cases e)).cell hjm
          have hr0 := HRNG.out j
          have hr1 := HFR.out j
          have hf0 := HFAST.out j
          by_cases hq0 : j = 0
          · subst hq0
            rw [Nat.add_zero] at o0 a0
            generalize f0 0 = y at *
            generalize f1 0 = z at *
            have i1 : (0 : Int) < (m : Int) := by omega
            have n1 : ¬ y < z := by omega
            have n5 : decide (y < z) = false := decide_eq_false n1
            go_wp2_with fail
            go_quiet (fail)
            go_wp2_with fail
            go_roundw
            case rel => exact ⟨0 + 1, by omega, by go_num, by first | exact grown_same HGR.out (grown_drew1 _) | exact grown_drewN HGR.out _⟩
            case measure => simp [intOf]; omega
          · obtain ⟨q, hq⟩ : ∃ q : Nat, j = q + 1 := ⟨j - 1, by omega⟩
            have o1 := (HN2.out.grown HGR.out (by intro _ _ _ e; cases e)).cell (show q < m by omega)
            have j1 := (bols_on HJ.out (grown_same HG5.out HGR.out)).cell (show q < m by omega)
            have hlow := HLOW.out q
            have hr2 := HRNG.out q
            rw [← hq] at hlow
            generalize f0 j = y at *
            generalize f1 j = z at *
            generalize f0 q = x at *
            have i1 : (j : Int) < (m : Int) := by omega
            have i2 : (0 : Int) ≤ (q : Int) := by omega
            have i3 : (q : Int) < (m : Int) := by omega
            have n1 : ¬ y < z := by omega
            have n3 : (0 : Int) < (j : Int) := by omega
            have hwr1 : IntKind.i64.wrap ((j : Int) - 1) = (q : Int) := by rw [IntKind.wrap_i64] <;> omega
            have p0 : 0 < j := by omega
            clear hq hq0
            rcases hjq : J q with _ | _
            all_goals
              rw [hjq] at j1 hlow
              simp only [if_true, if_neg Bool.false_ne_true, Int.add_zero] at hlow
              clear hjq
              have n2 : ¬ y ≤ x := by omega
              have hwr : IntKind.i64.wrap (x + 2) = x + 2 := by rw [IntKind.wrap_i64]; omega
            ·
              go_wp2_with fail
              have n1 : ¬ y < z := by omega
              have n2 : ¬ y ≤ x := by omega
              have n3 : (0 : Int) < (j : Int) := by omega
              have n5 : decide (y < z) = false := decide_eq_false n1
              have n6 : decide ((0 : Int) < (j : Int)) = true := decide_eq_true n3
              have n8 : decide (0 < j) = true := decide_eq_true p0
              have n7 : decide (y ≤ x) = false := decide_eq_false n2
              go_quiet (fail)
              go_wp2_with fail
              go_roundw
              case rel => exact ⟨j + 1, by omega, by go_num, by first | exact grown_same HGR.out (grown_drew1 _) | exact grown_drewN HGR.out _⟩
              case measure => simp [intOf]; omega
            ·
              go_wp2_with fail
              have n1 : ¬ y < z := by omega
              have n2 : ¬ y ≤ x := by omega
              have n3 : (0 : Int) < (j : Int) := by omega
              have n5 : decide (y < z) = false := decide_eq_false n1
              have n6 : decide ((0 : Int) < (j : Int)) = true := decide_eq_true n3
              have n8 : decide (0 < j) = true := decide_eq_true p0
              have n7 : decide (y ≤ x) = false := decide_eq_false n2
              have n4 : ¬ y ≤ x + 2 := by omega
              have n9 : decide (y ≤ x + 2) = false := decide_eq_false n4
              go_quiet (fail)
              go_wp2_with fail
              go_roundw
              case rel => exact ⟨j + 1, by omega, by go_num, by first | exact grown_same HGR.out (grown_drew1 _) | exact grown_drewN HGR.out _⟩
              case measure => simp [intOf]; omega
        · obtain rfl : j = m := by omega
          have o0 := (HN2.out.grown HGR.out (by intro _ _ _ e; cases e)).cell hkp
          rw [H0.out, Nat.add_zero] at o0
          have i1 : (0 : Int) < (j : Int) := by omega
          go_wp2_with fail
          go_ret
          exact ⟨rfl, below_of_grown (grown_same HG1.out (grown_same HG5.out HGR.out))⟩
end Go.Proofs.YtlmjbflnfpccdaaDoor
