/- FewestRegs answers as its model for what is drawn; with all kept it is how many there are, and no fewer. -/
import Derived.Test.YtfckmechiochlaaDoorW923
import Derived.Test.YtfckmechiochlaaDoorW917
import Derived.Test.YtfckmechiochlaaDoorW920
import Derived.Test.YtfckmechiochlaaDoorW896
namespace Go.Proofs.YtfckmechiochlaaDoor
open Go.RowKit Go.Shelf
set_option linter.unusedSimpArgs false
set_option maxRecDepth 100000 in
set_option maxHeartbeats 8000000 in
theorem fnFewestRegs_walk (A : Option Addr) (n cap : Nat) (zs : List Int) (w : World) (hg : WT w) (hB : Bys w A n cap zs) :
    Calls Tryd.prog 5 #[.slice A n cap] w fun e w' => e = .returned (.bool true) ∧ Below w.heap.size w w' := by
  have HG := shade hg
  have HBy := shade hB
  have hcap := hB.fits
  have hbig := hB.big
  unfold maxLen at hbig
  clear hg hB
  by_cases hl : 1048576 < n
  · go_enter Tryd.func5, Tryd.ntmps5
    go_wp2_with fail
    go_ret
    exact ⟨rfl, below_of_grown (grown_refl _ _)⟩
  · have HD := shade (DrawFewestRegs_any A n cap zs w HBy.out)
    go_enter Tryd.func5, Tryd.ntmps5
    go_wp2_with fail
    refine HD.out.mono ?_
    rintro e w1 ⟨g', k, c, F, x, rfl, hk, ⟨hkc, hcm⟩, hC, hgr⟩
    unfold maxLen at hcm
    have H1 := shade (show SW w1 w1 (some ⟨g', 0, none⟩) k F from ⟨HG.out.below (below_of_grown hgr) (wt_lt HG.out), hC, grown_refl _ _⟩)
    have HW := shade hgr
    clear hC hgr HD HG HBy
    have HIM := shade (fun W (hW : WT W) (hc : Wds W (some ⟨g', 0, none⟩) k F) => FewestRegs_any _ k c x F W hW (by omega) hc)
    have HSP := shade (fun W (hc : Wds W (some ⟨g', 0, none⟩) k F) => SpecFewestRegs_any _ k c x F W (by omega) hc)
    unfold wdK at HIM HSP
    rcases hv : vkB k F x with _ | _
    · rw [hv] at HIM HSP
      rw [if_neg (by simp)] at HIM HSP
      clear hv
      go_wp2_with fail
      refine (HIM.out _ H1.out.wt H1.out.wds).mono ?_
      rintro e w2 ⟨rfl, hgr⟩
      have H2 := shade (H1.out.grown hgr)
      clear hgr H1
      go_wp2_with fail
      refine (HSP.out _ H2.out.wds).mono ?_
      rintro e w3 ⟨rfl, hgr⟩
      have H3 := shade (H2.out.grown hgr)
      clear hgr H2
      go_wp2_with fail
      refine (HSP.out _ H3.out.wds).mono ?_
      rintro e w4 ⟨rfl, hgr⟩
      have H4 := shade (H3.out.grown hgr)
      clear hgr H3
      go_wp2_with fail
      go_ret
      exact ⟨rfl, below_of_grown (grown_same HW.out H4.out.base)⟩
    · rw [hv] at HIM HSP
      rw [if_pos rfl] at HIM HSP
      obtain ⟨hvw, y, rfl, hy⟩ := vkB_iff.1 hv
      rw [Int.toNat_natCast] at HIM HSP
      have hok := (vwB_iff.1 hvw).1
      have hiv := rows_iv hk hok hy
      have h1 := wd_len hiv
      have h2 := wd_all hk hok
      have h3 : 2 ^ k ≤ 256 := pow8 hk
      have h4 := Nat.two_pow_pos k
      have HIM2 := shade (fun W (hW : WT W) (hc : Wds W (some ⟨g', 0, none⟩) k F) => FewestRegs_any _ k c ((2 ^ k - 1 : Nat) : Int) F W hW (by omega) hc)
      have hv2 : vkB k F ((2 ^ k - 1 : Nat) : Int) = true := vkB_iff.2 ⟨hvw, _, rfl, by omega⟩
      unfold wdK at HIM2
      rw [hv2, if_pos rfl, Int.toNat_natCast, h2] at HIM2
      have HPW := shade (fun W => lpower_nat k (by omega) W)
      obtain ⟨P, hP⟩ : ∃ P, 2 ^ k = P := ⟨_, rfl⟩
      rw [hP] at HIM2 HPW h3 h4
      have e1 : ((P - 1 : Nat) : Int) = (P : Int) - 1 := by omega
      rw [e1] at HIM2
      generalize wd (rowW F y k) k = m at *
      have hmk : (m : Int) ≤ (k : Int) := by omega
      have hP1 : (P : Int) ≤ 256 := by omega
      have hP0 : (1 : Int) ≤ (P : Int) := by omega
      clear hv hv2 hvw hok hiv h2 hP e1 hy
      go_wp2_with fail
      refine (HIM.out _ H1.out.wt H1.out.wds).mono ?_
      rintro e w2 ⟨rfl, hgr⟩
      have H2 := shade (H1.out.grown hgr)
      clear hgr H1
      go_wp2_with fail
      refine (HSP.out _ H2.out.wds).mono ?_
      rintro e w3 ⟨rfl, hgr⟩
      have H3 := shade (H2.out.grown hgr)
      clear hgr H2
      go_wp2_with fail
      refine (HPW.out _).mono ?_
      rintro e w4 ⟨rfl, rfl⟩
      go_wp2_with fail
      refine (HIM2.out _ H3.out.wt H3.out.wds).mono ?_
      rintro e w5 ⟨rfl, hgr⟩
      have H5 := shade (H3.out.grown hgr)
      clear hgr H3
      go_wp2_with fail
      go_ret
      exact ⟨rfl, below_of_grown (grown_same HW.out H5.out.base)⟩
end Go.Proofs.YtfckmechiochlaaDoor
