/- ValidWide answers as its model for what is drawn; without the last one they are valid too. -/
import Derived.Test.YtjjjgjnhiffpnaaDoorW892
import Derived.Test.YtjjjgjnhiffpnaaDoorW812
namespace Go.Proofs.YtjjjgjnhiffpnaaDoor
open Go.RowKit
set_option maxRecDepth 100000 in
set_option maxHeartbeats 8000000 in
theorem fnValidWide_walk (A : Option Addr) (n cap : Nat) (zs : List Int) (w : World) (hg : WT w) (hB : Bys w A n cap zs) :
    Calls Tryd.prog 11 #[.slice A n cap] w fun e w' => e = .returned (.bool true) ∧ Below w.heap.size w w' := by
  have HG := shade hg
  have HBy := shade hB
  have hcap := hB.fits
  have hbig := hB.big
  unfold maxLen at hbig
  clear hg hB
  by_cases hl : 1048576 < n
  · go_enter Tryd.func11, Tryd.ntmps11
    go_wp2_with fail
    go_ret
    exact ⟨rfl, below_of_grown (grown_refl _ _)⟩
  · have HD := shade (DrawValidWide_any A n cap zs w HBy.out)
    go_enter Tryd.func11, Tryd.ntmps11
    go_wp2_with fail
    refine HD.out.mono ?_
    rintro e w1 ⟨g', k, c, F, rfl, hk, ⟨hkc, hcm⟩, hC, hgr⟩
    unfold maxLen at hcm
    have H1 := shade (show SW w1 w1 (some ⟨g', 0, none⟩) k F from ⟨HG.out.below (below_of_grown hgr) (wt_lt HG.out), hC, grown_refl _ _⟩)
    have HW := shade hgr
    clear hC hgr HD HG HBy
    go_wp2_with fail
    refine (ValidWide_any _ k c F _ H1.out.wt (by omega) H1.out.wds).mono ?_
    rintro e w2 ⟨rfl, hgr⟩
    have H2 := shade (H1.out.grown hgr)
    clear hgr H1
    obtain ⟨b, hb⟩ : ∃ b, vwB k F = b := ⟨_, rfl⟩
    rw [hb]
    have HB := shade hb
    go_wp2_with fail
    refine (SpecValidWide_any _ k c F _ (by omega) H2.out.wds).mono ?_
    rintro e w3 ⟨rfl, hgr⟩
    have H3 := shade (H2.out.grown hgr)
    clear hgr H2
    rw [hb]
    clear hb
    rcases b with _ | _
    · go_wp2_with fail
      refine (SpecValidWide_any _ k c F _ (by omega) H3.out.wds).mono ?_
      rintro e w4 ⟨rfl, hgr⟩
      have H4 := shade (H3.out.grown hgr)
      clear hgr H3
      rw [HB.out]
      go_wp2_with fail
      go_ret
      exact ⟨rfl, below_of_grown (grown_same HW.out H4.out.base)⟩
    · by_cases h0 : k = 0
      · subst h0
        go_wp2_with fail
        go_ret
        exact ⟨rfl, below_of_grown (grown_same HW.out H3.out.base)⟩
      · obtain ⟨m, rfl⟩ : ∃ m, k = m + 1 := ⟨k - 1, by omega⟩
        have hv : vwB m F = true := vwB_iff.2 ⟨fun j hj => (vwB_iff.1 HB.out).1 j (by omega), by omega⟩
        go_wp2_with fail
        refine (ValidWide_any _ m c F _ H3.out.wt (by omega) (H3.out.wds.cut (by omega))).mono ?_
        rintro e w4 ⟨rfl, hgr⟩
        have H4 := shade (H3.out.grown hgr)
        clear hgr H3
        rw [hv]
        go_wp2_with fail
        go_ret
        exact ⟨rfl, below_of_grown (grown_same HW.out H4.out.base)⟩
end Go.Proofs.YtjjjgjnhiffpnaaDoor
