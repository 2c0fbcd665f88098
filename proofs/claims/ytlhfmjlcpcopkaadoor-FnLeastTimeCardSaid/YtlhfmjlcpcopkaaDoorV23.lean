/- LeastTime answers as its model for what is drawn; it is at least each of the longest ways, and at least how many there are. -/
import Derived.Test.YtlhfmjlcpcopkaaDoorV20
import Derived.Test.YtlhfmjlcpcopkaaDoorW997
import Derived.Test.YtlhfmjlcpcopkaaDoorW25
namespace Go.Proofs.YtlhfmjlcpcopkaaDoor
open Go.RowKit
set_option linter.unusedSimpArgs false
theorem ltB_facts {k : Nat} {F : Nat → Ins} (h : blB k F = true) : (∀ j, j < k → hgt F k j ≤ ltB k F) ∧ (k : Int) ≤ ltB k F ∧ (k = 0 → ltB k F = 0) ∧ ltB k F ≤ 21 := by
  have h6 := blB_6 h
  rcases k with _ | m
  · rw [ltB_zero h]
    exact ⟨fun j hj => absurd hj (Nat.not_lt_zero j), Int.le_refl _, fun _ => rfl, by omega⟩
  · rw [ltB_pos h]
    have h1 := mnN_rng (latF_rng F) m
    have h2 := mxN_rng (hgt_rng F (n := m + 1) (by omega)) m
    refine ⟨fun j hj => ?_, by omega, by omega, by omega⟩
    have := mxN_ge (hgt F (m + 1)) (show j ≤ m by omega)
    omega
set_option maxRecDepth 100000 in
set_option maxHeartbeats 4000000 in
theorem fnLeastTime_walk (A : Option Addr) (n cap : Nat) (zs : List Int) (w : World) (hg : WT w) (hB : Bys w A n cap zs) :
    Calls Tryd.prog 14 #[.slice A n cap] w fun e w' => e = .returned (.bool true) ∧ Below w.heap.size w w' := by
  have HG := shade hg
  have HBy := shade hB
  have hcap := hB.fits
  have hbig := hB.big
  unfold maxLen at hbig
  clear hg hB
  by_cases hl : 1048576 < n
  · go_enter Tryd.func14, Tryd.ntmps14
    go_wp2
    go_ret
    exact ⟨rfl, by go_grown⟩
  · have HD := shade (DrawLeastTime_any A n cap zs w HBy.out)
    go_enter Tryd.func14, Tryd.ntmps14
    go_wp2_with fail
    refine HD.out.mono ?_
    rintro e w1 ⟨g', k, c, F, rfl, hk, hkc, hC, hgr⟩
    have HG1 := shade hgr; have HC := shade hC
    clear hgr hC HD HBy
    have HW := shade (fun W (hg : w.grownBy W none) => HG.out.below (below_of_grown hg) (wt_lt HG.out))
    have HIM := shade (fun W (hg : w1.grownBy W none) (hw : w.grownBy W none) => ILeastTime_any (some ⟨g', 0, none⟩) k c F W (HW.out W hw) (by omega) hkc (HC.out.on hg))
    have HSP := shade (fun W (hg : w1.grownBy W none) => SLeastTime_any (some ⟨g', 0, none⟩) k c F W (by omega) (HC.out.on hg))
    rcases hv : blB k F with _ | _
    · rw [ltB_no hv] at HIM HSP
      clear hv
      go_wp2_with fail
      refine (HIM.out _ (grown_refl _ _) HG1.out).mono ?_
      rintro e w2 ⟨rfl, hg2⟩
      have HG2 := shade hg2
      clear hg2
      go_wp2_with fail
      refine (HSP.out _ HG2.out).mono ?_
      rintro e w3 ⟨rfl, hg3⟩
      have HG3 := shade (grown_same HG2.out hg3)
      clear hg3
      go_wp2_with fail
      refine (HSP.out _ HG3.out).mono ?_
      rintro e w4 ⟨rfl, hg4⟩
      have HG4 := shade (grown_same HG3.out hg4)
      clear hg4
      go_wp2_with fail
      go_ret
      exact ⟨rfl, below_of_grown (grown_same HG1.out HG4.out)⟩
    · have HHT := shade (fun W (hg : w1.grownBy W none) (hw : w.grownBy W none) => IHeightsOf_any (some ⟨g', 0, none⟩) k c F W (HW.out W hw) (by omega) hkc (HC.out.on hg))
      rw [nB_yes hv] at HHT
      obtain ⟨f1, f2, f3, f4⟩ := ltB_facts hv
      obtain ⟨t, ht⟩ : ∃ t, ltB k F = t := ⟨_, rfl⟩
      rw [ht] at HIM HSP f1 f2 f3 f4
      have HF1 := shade f1
      clear hv ht f1
      have t0 : ¬ t < 0 := by omega
      go_wp2_with fail
      refine (HIM.out _ (grown_refl _ _) HG1.out).mono ?_
      rintro e w2 ⟨rfl, hg2⟩
      have HG2 := shade hg2
      clear hg2
      go_wp2_with fail
      refine (HSP.out _ HG2.out).mono ?_
      rintro e w3 ⟨rfl, hg3⟩
      have HG3 := shade (grown_same HG2.out hg3)
      clear hg3 HG2
      go_wp2_with fail
      refine (HHT.out _ HG3.out (grown_same HG1.out HG3.out)).mono ?_
      rintro e w4 h4
      obtain ⟨v, rfl, hR, hg4⟩ := NumRes.row h4
      obtain ⟨A3, c3, rfl, hN⟩ := hR.nums
      have HN := shade hN
      have HG4 := shade (grown_same HG1.out (grown_same HG3.out hg4))
      clear h4 hR hg4 hN HHT HIM HSP
      go_wp2_with fail
      go_loopw [6] (fun i wr => ∃ q : Nat, q ≤ k ∧ i = .int .i64 (q : Int) ∧ wr = w4) (fun i _ => k - (intOf i).toNat)
      case atStart => exact ⟨0, Nat.zero_le _, rfl, rfl⟩
      case round =>
        obtain ⟨q, hq, rfl, rfl⟩ := hrel
        by_cases hqk : q < k
        · obtain ⟨b3, off3, rfl, -⟩ := HN.out.resolve_left (by omega)
          have c1 := HN.out.cell hqk
          have i0 : (q : Int) < (k : Int) := by omega
          have i1 : (0 : Int) ≤ (q : Int) := by omega
          have hx := HF1.out q hqk
          obtain ⟨x, hx2⟩ : ∃ x, hgt F k q = x := ⟨_, rfl⟩
          rw [hx2] at c1 hx
          clear hx2
          have hx3 : ¬ t < x := by omega
          go_wp2_with fail
          go_roundw
          case rel => exact ⟨q + 1, by omega, by go_num, trivial⟩
          case measure => simp [intOf]; omega
        · obtain rfl : q = k := by omega
          by_cases hk0 : q = 0
          · have ht0 := f3 hk0
            subst hk0
            subst ht0
            go_wp2_with fail
            go_ret
            exact ⟨rfl, below_of_grown HG4.out⟩
          · have e0 : (0 : Int) < (q : Int) := by omega
            go_wp2_with fail
            go_ret
            exact ⟨rfl, below_of_grown HG4.out⟩
end Go.Proofs.YtlhfmjlcpcopkaaDoor
