/- RunWide answers as its model for what is drawn; without the last one the numbers are all but the last, and all are words. -/
import Derived.Test.YtjjjgjnhiffpnaaDoorW892
import Derived.Test.YtjjjgjnhiffpnaaDoorW831
namespace Go.Proofs.YtjjjgjnhiffpnaaDoor
open Go.RowKit
theorem equalInts_rows (lo1 hi1 lo2 hi2 K : Nat) (v1 v2 : Value) (f : Nat → Int) (w : World) (hK : K ≤ 300) (h1 : RowO w lo1 hi1 3 v1 K (numL K f)) (h2 : RowO w lo2 hi2 3 v2 K (numL K f)) :
    Calls Tryd.prog 44 #[v1, v2] w fun e w' => e = .returned (.bool true) ∧ w.grownBy w' none := by
  obtain ⟨A1, c1, rfl, hn1⟩ := h1.nums
  obtain ⟨A2, c2, rfl, hn2⟩ := h2.nums
  refine (equalInts_any A1 A2 c1 c2 K f f w (by omega) hn1 hn2 (fun _ _ => rfl)).mono ?_
  rintro e w' ⟨rfl, m, rfl⟩
  exact ⟨rfl, grown_drewN (grown_refl _ _) _⟩
theorem nums_on {w w' : World} {A : Option Addr} {n : Nat} {f : Nat → Int} (h : Nums w A n f) (hg : w.grownBy w' none) : Nums w' A n f := h.grown hg (by intro _ _ _ e; cases e)
/-- What a row of numbers is that a call has answered: its own, and long enough. -/
theorem NumRes.num {k : Nat} {f : Nat → Int} {w w' : World} {e : Ending} (h : NumRes k f w e w') : ∃ A c, e = .returned (.slice A k c) ∧ k ≤ c ∧ c ≤ maxLen ∧ Nums w' A k f ∧ RowO w' w.heap.size w'.heap.size 3 (.slice A k c) k (numL k f) ∧ w.grownBy w' none := by
  obtain ⟨v, e1, ho, hg⟩ := h
  obtain ⟨v', e2, hR, -⟩ := NumRes.row ⟨v, e1, ho, hg⟩
  subst e1
  injection e2 with e2
  subst e2
  obtain ⟨A, c, rfl, hn⟩ := hR.nums
  refine ⟨A, c, rfl, ?_, ?_, hn, hR, hg⟩
  all_goals
    rcases ho.2 with ⟨e, h0⟩ | ⟨_, _, _, e, _, _, h1, h2, _⟩
    · injection e with _ _ e
      subst e
      first | omega | (unfold maxLen; omega)
    · injection e with _ _ e
      subst e
      first | exact h1 | exact h2
theorem nums_cut {w : World} {A : Option Addr} {n m : Nat} {f : Nat → Int} (h : Nums w A n f) (hm : m ≤ n) : Nums w A m f := by
  rcases h with h | ⟨b, off, hA, hb, hc⟩
  · exact .inl (by omega)
  · exact .inr ⟨b, off, hA, hb, fun j hj => hc j (by omega)⟩
theorem nW_cut {m : Nat} {F : Nat → Wid} (h : nW (m + 1) F = m + 1) : nW m F = m := by
  unfold nW at h ⊢
  rcases hv : vwB (m + 1) F with _ | _
  · rw [hv, if_neg (by decide)] at h
    omega
  · have : vwB m F = true := vwB_iff.2 ⟨fun j hj => (vwB_iff.1 hv).1 j (by omega), by have := (vwB_iff.1 hv).2; omega⟩
    rw [this, if_pos rfl]
theorem nW_or (k : Nat) (F : Nat → Wid) : nW k F = 0 ∨ (nW k F = k ∧ vwB k F = true) := by
  unfold nW
  rcases hv : vwB k F with _ | _
  · exact .inl rfl
  · rw [if_pos rfl]
    exact .inr ⟨rfl, rfl⟩
set_option maxRecDepth 100000 in
set_option maxHeartbeats 8000000 in
theorem fnRunWide_walk (A : Option Addr) (n cap : Nat) (zs : List Int) (w : World) (hg : WT w) (hB : Bys w A n cap zs) :
    Calls Tryd.prog 12 #[.slice A n cap] w fun e w' => e = .returned (.bool true) ∧ Below w.heap.size w w' := by
  have HG := shade hg
  have HBy := shade hB
  have hcap := hB.fits
  have hbig := hB.big
  unfold maxLen at hbig
  clear hg hB
  by_cases hl : 1048576 < n
  · go_enter Tryd.func12, Tryd.ntmps12
    go_wp2_with fail
    go_ret
    exact ⟨rfl, below_of_grown (grown_refl _ _)⟩
  · have HD := shade (DrawRunWide_any A n cap zs w HBy.out)
    go_enter Tryd.func12, Tryd.ntmps12
    go_wp2_with fail
    refine HD.out.mono ?_
    rintro e w1 ⟨g', k, c, F, rfl, hk, ⟨hkc, hcm⟩, hC, hgr⟩
    unfold maxLen at hcm
    have H1 := shade (show SW w1 w1 (some ⟨g', 0, none⟩) k F from ⟨HG.out.below (below_of_grown hgr) (wt_lt HG.out), hC, grown_refl _ _⟩)
    have HW := shade hgr
    clear hC hgr HD HG HBy
    have HIM := shade (fun W (hW : WT W) (hc : Wds W (some ⟨g', 0, none⟩) k F) => (RunWide_any _ k c F W hW (by omega) hc).mono fun _ _ h => h.num)
    have HSP := shade (fun W (hc : Wds W (some ⟨g', 0, none⟩) k F) => (SpecRunWide_any _ k c F W (by omega) hc).mono fun _ _ h => h.num)
    have HK := shade (nW_or k F)
    obtain ⟨q, hq⟩ : ∃ q, nW k F = q := ⟨_, rfl⟩
    rw [hq] at HIM HSP HK
    have HQ := shade hq
    have hq8 : q ≤ 8 := by rw [← hq]; exact nW_le k F
    clear hq
    go_wp2_with fail
    refine (HIM.out _ H1.out.wt H1.out.wds).mono ?_
    rintro e w2 ⟨A5, c5, rfl, k5, m5, hN, hR, hgr⟩
    unfold maxLen at m5
    have H2 := shade (H1.out.grown hgr); have HN2 := shade hN; have HV2 := shade hR
    clear hgr H1 hN hR
    go_wp2_with fail
    refine (HSP.out _ H2.out.wds).mono ?_
    rintro e w3 ⟨A6, c6, rfl, -, -, -, hR, hgr⟩
    have H3 := shade (H2.out.grown hgr); have HN3 := shade (nums_on HN2.out hgr); have HV3 := shade (HV2.out.grown hgr); have HW3 := shade hR
    clear hgr H2 HN2 HV2 hR
    go_wp2_with fail
    refine (equalInts_rows _ _ _ _ _ _ _ _ _ (by omega) HV3.out HW3.out).mono ?_
    rintro e w4 ⟨rfl, hgr⟩
    have H4 := shade (H3.out.grown hgr); have HN4 := shade (nums_on HN3.out hgr); have HV4 := shade (HV3.out.grown hgr)
    clear hgr H3 HN3 HV3 HW3
    by_cases h0 : q = 0
    · subst h0
      go_wp2_with fail
      refine (HSP.out _ H4.out.wds).mono ?_
      rintro e w5 ⟨A7, c7, rfl, -, -, -, hR, hgr⟩
      have H5 := shade (H4.out.grown hgr); have HV5 := shade (HV4.out.grown hgr); have HW5 := shade hR
      clear hgr H4 HV4 hR
      go_wp2_with fail
      refine (equalInts_rows _ _ _ _ _ _ _ _ _ (by omega) HV5.out HW5.out).mono ?_
      rintro e w6 ⟨rfl, hgr⟩
      have H6 := shade (H5.out.grown hgr)
      clear hgr H5
      go_wp2_with fail
      go_ret
      exact ⟨rfl, below_of_grown (grown_same HW.out H6.out.base)⟩
    · obtain ⟨hqk, hv⟩ := HK.out.resolve_left h0
      subst hqk
      obtain ⟨m, rfl⟩ : ∃ m, q = m + 1 := ⟨q - 1, by omega⟩
      have HRG := shade (fun j (hj : j < m + 1) => num_range F j ((vwB_iff.1 hv).1 j hj))
      have HM := shade (nW_cut HQ.out)
      obtain ⟨b5, o5, rfl, -⟩ := HN4.out.resolve_left h0
      have h0b : ((m : Int) + 1 == 0) = false := by rw [beq_eq_false_iff_ne]; omega
      clear hv HK HQ HIM HSP
      go_wp2_with fail
      go_loopw [2, 6] (fun _ i wr => ∃ j : Nat, j ≤ m + 1 ∧ i = .int .i64 (j : Int) ∧ w4.grownBy wr none) (fun _ i _ => m + 1 - (intOf i).toNat)
      case atStart => exact ⟨0, Nat.zero_le _, rfl, grown_refl _ _⟩
      case round =>
        obtain ⟨j, hj, rfl, hgw⟩ := hrel
        have HGW := shade hgw
        clear hgw
        by_cases hjm : j < m + 1
        · have q1 := (nums_on HN4.out HGW.out).cell hjm
          obtain ⟨r0, r1⟩ := HRG.out j hjm
          generalize num F j = y at q1 r0 r1
          have r2 : y < 256 := by omega
          go_wp2_with fail
          go_roundw
          case rel => exact ⟨j + 1, by omega, by go_num, HGW.out⟩
          case measure => simp [intOf]; omega
        · have hjm2 : j = m + 1 := by omega
          subst hjm2
          have H5 := shade (H4.out.grown HGW.out); have HV5 := shade (HV4.out.grown HGW.out); have HN5 := shade (nums_on HN4.out HGW.out)
          clear H4 HV4 HN4 HGW
          obtain ⟨hm0, hm1⟩ : m ≤ c ∧ m ≤ c5 := ⟨by omega, by omega⟩
          have HR5 := shade (fun W (hW : WT W) (hc : Wds W (some ⟨g', 0, none⟩) (m + 1) F) => (RunWide_any (some ⟨g', 0, none⟩) m c F W hW (by omega) (hc.cut (by omega))).mono fun _ _ h => h.num)
          go_wp2_with fail
          rw [HM.out] at HR5
          have HA := shade (H5.out.grown (grown_drew1 wr))
          have HNA := shade (nums_on HN5.out (grown_drew1 wr))
          clear H5 HV5 HN5
          go_region_held3 (fun _ => True) (trivial)
            (first
              | (go_at_call 21
                 refine (HR5.out _ HA.out.wt HA.out.wds).mono ?_
                 rintro e w6 ⟨A6', c6', rfl, -, -, hN6, -, hgr6⟩)
              | (go_at_call 44
                 refine (equalInts_any _ _ _ _ m _ _ _ (by omega) hN6 (nums_cut (nums_on HNA.out hgr6) (by omega)) (fun _ _ => rfl)).mono ?_
                 rintro e w7 ⟨rfl, q7, rfl⟩))
          all_goals
            go_wp2
            go_ret
            exact ⟨rfl, below_of_grown (grown_same HW.out (grown_drewN (grown_same HA.out.base hgr6) _))⟩
end Go.Proofs.YtjjjgjnhiffpnaaDoor
