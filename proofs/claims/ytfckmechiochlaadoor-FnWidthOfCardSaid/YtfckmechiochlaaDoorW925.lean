/- WidthOf answers as its model for what is drawn; it is FewestRegs, no more than there are, and PlacesFor has no more. -/
import Derived.Test.YtfckmechiochlaaDoorW921
import Derived.Test.YtfckmechiochlaaDoorW917
import Derived.Test.YtfckmechiochlaaDoorW863
import Derived.Test.YtfckmechiochlaaDoorW920
import Derived.Test.YtfckmechiochlaaDoorW896
namespace Go.Proofs.YtfckmechiochlaaDoor
open Go.RowKit Go.Shelf
set_option linter.unusedSimpArgs false
set_option maxRecDepth 100000 in
set_option maxHeartbeats 8000000 in
theorem fnWidthOf_walk (A : Option Addr) (n cap : Nat) (zs : List Int) (w : World) (hg : WT w) (hB : Bys w A n cap zs) :
    Calls Tryd.prog 3 #[.slice A n cap] w fun e w' => e = .returned (.bool true) ∧ Below w.heap.size w w' := by
  have HG := shade hg
  have HBy := shade hB
  have hcap := hB.fits
  have hbig := hB.big
  unfold maxLen at hbig
  clear hg hB
  by_cases hl : 1048576 < n
  · go_enter Tryd.func3, Tryd.ntmps3
    go_wp2_with fail
    go_ret
    exact ⟨rfl, below_of_grown (grown_refl _ _)⟩
  · have HD := shade (DrawWidthOf_any A n cap zs w HBy.out)
    go_enter Tryd.func3, Tryd.ntmps3
    go_wp2_with fail
    refine HD.out.mono ?_
    rintro e w1 ⟨g', k, c, F, x, rfl, hk, ⟨hkc, hcm⟩, hC, hgr⟩
    unfold maxLen at hcm
    have H1 := shade (show SW w1 w1 (some ⟨g', 0, none⟩) k F from ⟨HG.out.below (below_of_grown hgr) (wt_lt HG.out), hC, grown_refl _ _⟩)
    have HW := shade hgr
    clear hC hgr HD HG HBy
    have HIM := shade (fun W (hW : WT W) (hc : Wds W (some ⟨g', 0, none⟩) k F) => WidthOf_any _ k c x F W hW (by omega) hc)
    have HSP := shade (fun W (hc : Wds W (some ⟨g', 0, none⟩) k F) => SpecWidthOf_any _ k c x F W (by omega) hc)
    unfold wdK at HIM HSP
    rcases hv : vkB k F x with _ | _
    · rw [hv] at HIM HSP
      rw [if_neg (by simp)] at HIM HSP
      clear hv
      go_wp2_with fail
      refine (HIM.out _ H1.out.wt H1.out.wds).mono ?_
      rintro e w2 ⟨rfl, hgr⟩
      have H2 := shade (H1.out.grown hgr)
      clear hgr H1
      go_wp2_with fail
      refine (HSP.out _ H2.out.wds).mono ?_
      rintro e w3 ⟨rfl, hgr⟩
      have H3 := shade (H2.out.grown hgr)
      clear hgr H2
      go_wp2_with fail
      refine (HSP.out _ H3.out.wds).mono ?_
      rintro e w4 ⟨rfl, hgr⟩
      have H4 := shade (H3.out.grown hgr)
      clear hgr H3
      go_wp2_with fail
      go_ret
      exact ⟨rfl, below_of_grown (grown_same HW.out H4.out.base)⟩
    · rw [hv] at HIM HSP
      rw [if_pos rfl] at HIM HSP
      have HFR := shade (fun W (hW : WT W) (hc : Wds W (some ⟨g', 0, none⟩) k F) => FewestRegs_any _ k c x F W hW (by omega) hc)
      have HPL := shade (fun W (hW : WT W) (hc : Wds W (some ⟨g', 0, none⟩) k F) => (PlacesFor_any _ k c x F W hW (by omega) hc).mono fun _ _ h => h.num)
      unfold wdK at HFR
      unfold nK at HPL
      rw [hv, if_pos rfl] at HFR HPL
      obtain ⟨hvw, y, rfl, hy⟩ := vkB_iff.1 hv
      have hok := (vwB_iff.1 hvw).1
      have hiv := rows_iv hk hok hy
      have h1 := wd_len hiv
      have HLT := shade (fun j (hj : j < k) => show plK F (y : Int) k j < ((wd (rowW F y k) k : Nat) : Int) from by
        have := (pl_col hiv).low j hj
        unfold plK plW
        rw [Int.toNat_natCast]
        omega)
      rw [Int.toNat_natCast] at HIM HSP HFR
      generalize wd (rowW F y k) k = m at *
      generalize plK F (y : Int) k = p at *
      have hmk : (m : Int) ≤ (k : Int) := by omega
      clear hv hvw hok hiv hy
      go_wp2_with fail
      refine (HIM.out _ H1.out.wt H1.out.wds).mono ?_
      rintro e w2 ⟨rfl, hgr⟩
      have H2 := shade (H1.out.grown hgr)
      clear hgr H1
      go_wp2_with fail
      refine (HSP.out _ H2.out.wds).mono ?_
      rintro e w3 ⟨rfl, hgr⟩
      have H3 := shade (H2.out.grown hgr)
      clear hgr H2
      go_wp2_with fail
      refine (HPL.out _ H3.out.wt H3.out.wds).mono ?_
      rintro e w4 ⟨A5, c5, rfl, -, -, hN, -, hgr⟩
      have H4 := shade (H3.out.grown hgr); have HN := shade hN
      clear hgr H3 hN
      go_wp2_with fail
      go_loopw [7] (fun i wr => ∃ j : Nat, j ≤ k ∧ i = .int .i64 (j : Int) ∧ w4.grownBy wr none) (fun i _ => k - (intOf i).toNat)
      case atStart => exact ⟨0, Nat.zero_le _, rfl, grown_refl _ _⟩
      case round =>
        obtain ⟨j, hj, rfl, hgw⟩ := hrel
        have HGW := shade hgw
        clear hgw
        by_cases hjk : j < k
        · obtain ⟨b5, o5, rfl, -⟩ := HN.out.resolve_left (by omega)
          have q1 := (nums_on HN.out HGW.out).cell hjk
          have q2 := HLT.out j hjk
          go_wp2_with fail
          go_roundw
          case rel => exact ⟨j + 1, by omega, by go_num, HGW.out⟩
          case measure => simp [intOf]; omega
        · obtain rfl : j = k := by omega
          have H5 := shade (H4.out.grown HGW.out)
          go_wp2_with fail
          refine (HFR.out _ H5.out.wt H5.out.wds).mono ?_
          rintro e w6 ⟨rfl, hgr⟩
          have H6 := shade (H5.out.grown hgr)
          clear hgr H5
          go_wp2_with fail
          go_ret
          exact ⟨rfl, below_of_grown (grown_same HW.out H6.out.base)⟩
end Go.Proofs.YtfckmechiochlaaDoor
