/- ShareWide answers as its model for what is drawn; what is shared makes the same numbers, and is shared no further. -/
import Derived.Test.YtehjfnfpebdidaaDoorV47
import Derived.Test.YtehjfnfpebdidaaDoorV51
import Derived.Test.YtehjfnfpebdidaaDoorV53
import Derived.Test.YtehjfnfpebdidaaDoorV55
import Derived.BigQuiet
import Derived.Deep.QuietTactic
namespace Go.Proofs.YtehjfnfpebdidaaDoor
open Go.RowKit
theorem equalWide_row (lo1 hi1 lo2 hi2 K : Nat) (v1 v2 : Value) (f : Nat → Wid) (w : World) (hK : K ≤ 300) (h1 : RowW w lo1 hi1 v1 K f) (h2 : RowW w lo2 hi2 v2 K f) :
    Calls Tryd.prog 8 #[v1, v2] w fun e w' => e = .returned (.bool true) ∧ w.grownBy w' none := by
  obtain ⟨A1, c1, rfl, hn1⟩ := wds_of h1.own
  obtain ⟨A2, c2, rfl, hn2⟩ := wds_of h2.own
  exact equalWide_any A1 A2 c1 c2 K f w (by omega) hn1 hn2
theorem sW_eq (n : Nat) (F : Nat → Wid) : shW n F = sW n F := rfl
theorem share_facts (k : Nat) (F : Nat → Wid) (hv : vwB k F = true) : ∃ (K : Nat) (f : Nat → Wid) (p : Nat → Int), K ≤ k ∧ vwB K f = true ∧ (∀ j, j < k → ∃ q : Nat, p j = (q : Int) ∧ q < K ∧ num f q = num F j) ∧
    (∀ A c W, WT W → Wds W A k F → Calls Tryd.prog 6 #[.slice A k c] W (ShRes K f k p W)) ∧
    (∀ A c W, Wds W A k F → Calls Tryd.prog 7 #[.slice A k c] W (ShRes K f k p W)) ∧
    (∀ A c W, WT W → Wds W A K f → Calls Tryd.prog 6 #[.slice A K c] W (ShRes K f K (shP K f) W)) := by
  obtain ⟨hok, hn⟩ := vwB_iff.1 hv
  have hl := (shS_len F k).2
  have e1 : shK k F = (shS F k).1.length := by unfold shK; rw [if_pos hv]
  have e2 : shN k F = k := by unfold shN; rw [if_pos hv]
  have hv2 : vwB (shS F k).1.length (sW k F) = true := vwB_iff.2 ⟨sW_ok F k hok, by omega⟩
  have e3 : shK (shS F k).1.length (sW k F) = (shS F k).1.length := by
    unfold shK
    rw [if_pos hv2, sW_again F k hok]
  have e4 : shN (shS F k).1.length (sW k F) = (shS F k).1.length := by unfold shN; rw [if_pos hv2]
  have e5 : shW (shS F k).1.length (sW k F) = sW k F := by
    funext j
    unfold shW
    rw [sW_again F k hok]
    rfl
  refine ⟨(shS F k).1.length, sW k F, shP k F, hl, hv2, fun j hj => ⟨sP k F j, rfl, shS_in F k j hj, sN_same F k hok j hj⟩, fun A c W hw h => ?_, fun A c W h => ?_, fun A c W hw h => ?_⟩
  · have := ShareWide_any A k c F W (by omega) hw h
    rwa [e1, e2, sW_eq] at this
  · have := SpecShareWide_any A k c F W (by omega) h
    rwa [e1, e2, sW_eq] at this
  · have := ShareWide_any A _ c (sW k F) W (by omega) hw h
    rwa [e3, e4, e5] at this
theorem share_none (k : Nat) (F : Nat → Wid) (hk : k ≤ 9223372036854775807) (hv : vwB k F = false) : ∃ (f : Nat → Wid) (p : Nat → Int),
    (∀ A c W, WT W → Wds W A k F → Calls Tryd.prog 6 #[.slice A k c] W (ShRes 0 f 0 p W)) ∧
    (∀ A c W, Wds W A k F → Calls Tryd.prog 7 #[.slice A k c] W (ShRes 0 f 0 p W)) := by
  have e1 : shK k F = 0 := by unfold shK; rw [hv, if_neg (by decide)]
  have e2 : shN k F = 0 := by unfold shN; rw [hv, if_neg (by decide)]
  refine ⟨shW k F, shP k F, fun A c W hw h => ?_, fun A c W h => ?_⟩
  · have := ShareWide_any A k c F W hk hw h
    rwa [e1, e2] at this
  · have := SpecShareWide_any A k c F W hk h
    rwa [e1, e2] at this
theorem run_valid (A : Option Addr) (n c : Nat) (F : Nat → Wid) (w : World) (hv : vwB n F = true) (hw : WT w) (h : Wds w A n F) :
    Calls Tryd.prog 11 #[.slice A n c] w (NumRes n (num F) w) := by
  have hn := (vwB_iff.1 hv).2
  have := RunWide_any A n c F w hw (by omega) h
  have e : nW n F = n := by unfold nW; rw [if_pos hv]
  rwa [e] at this
set_option maxRecDepth 100000 in
set_option maxHeartbeats 8000000 in
theorem fnShareWide_walk (A : Option Addr) (n cap : Nat) (zs : List Int) (w : World) (hg : WT w) (hB : Bys w A n cap zs) :
    Calls Tryd.prog 3 #[.slice A n cap] w fun e w' => e = .returned (.bool true) ∧ Below w.heap.size w w' := by
  have HG := shade hg
  have HBy := shade hB
  have hcap := hB.fits
  have hbig := hB.big
  unfold maxLen at hbig
  clear hg hB
  by_cases hl : 1048576 < n
  · go_enter Tryd.func3, Tryd.ntmps3
    go_wp2_with fail
    go_ret
    exact ⟨rfl, below_of_grown (grown_refl _ _)⟩
  · have HD := shade (DrawShareWide_any A n cap zs w HBy.out)
    go_enter Tryd.func3, Tryd.ntmps3
    go_wp2_with fail
    refine HD.out.mono ?_
    rintro e w1 ⟨g', k, c, F, rfl, hk, ⟨hkc, hcm⟩, hC, hgr⟩
    unfold maxLen at hcm
    have H1 := shade (show SW w1 w1 (some ⟨g', 0, none⟩) k F from ⟨HG.out.below (below_of_grown hgr) (wt_lt HG.out), hC, grown_refl _ _⟩)
    have HW := shade hgr
    clear hC hgr HD HG HBy
    have HVW := shade (fun W (hW : WT W) (hc : Wds W (some ⟨g', 0, none⟩) k F) => ValidWide_any _ k c F W hW (by omega) hc)
    rcases hv : vwB k F with _ | _
    · rw [hv] at HVW
      obtain ⟨f, p, hI, hS⟩ := share_none k F (by omega) hv
      have HI := shade hI; have HS := shade hS
      clear hI hS hv
      go_wp2_with fail
      refine (HI.out _ _ _ H1.out.wt H1.out.wds).mono ?_
      rintro e w2 h5
      obtain ⟨v0, u0, rfl, hR, hR2, hgr⟩ := ShRes.row h5
      have H2 := shade (H1.out.grown hgr); have HA2 := shade hR; have HB2 := shade hR2
      clear hgr H1 hR hR2 h5
      go_wp2_with fail
      refine (HS.out _ _ _ H2.out.wds).mono ?_
      rintro e w3 h5
      obtain ⟨v1, u1, rfl, hR, hR2, hgr⟩ := ShRes.row h5
      have H3 := shade (H2.out.grown hgr); have HA3 := shade (HA2.out.grown hgr); have HB3 := shade (HB2.out.grown hgr); have HX3 := shade hR; have HY3 := shade hR2
      clear hgr H2 HA2 HB2 hR hR2 h5
      go_wp2_with fail
      refine (equalWide_row _ _ _ _ 0 _ _ f _ (by omega) HA3.out HX3.out).mono ?_
      rintro e w4 ⟨rfl, hgr⟩
      have H4 := shade (H3.out.grown hgr); have HA4 := shade (HA3.out.grown hgr); have HB4 := shade (HB3.out.grown hgr); have HX4 := shade (HX3.out.grown hgr); have HY4 := shade (HY3.out.grown hgr)
      clear hgr H3 HA3 HB3 HX3 HY3
      go_wp2_with fail
      refine (equalInts_rows _ _ _ _ _ _ _ _ _ (by omega) HB4.out HY4.out).mono ?_
      rintro e w5 ⟨rfl, hgr⟩
      have H5 := shade (H4.out.grown hgr); have HA5 := shade (HA4.out.grown hgr); have HB5 := shade (HB4.out.grown hgr); have HX5 := shade (HX4.out.grown hgr); have HY5 := shade (HY4.out.grown hgr)
      clear hgr H4 HA4 HB4 HX4 HY4
      go_wp2_with fail
      refine (HVW.out _ H5.out.wt H5.out.wds).mono ?_
      rintro e w6 ⟨rfl, hgr⟩
      have H6 := shade (H5.out.grown hgr); have HA6 := shade (HA5.out.grown hgr); have HB6 := shade (HB5.out.grown hgr); have HX6 := shade (HX5.out.grown hgr); have HY6 := shade (HY5.out.grown hgr)
      clear hgr H5 HA5 HB5 HX5 HY5
      go_wp2_with fail
      refine (equalWide_row _ _ _ _ 0 _ _ f _ (by omega) HA6.out HX6.out).mono ?_
      rintro e w7 ⟨rfl, hgr⟩
      have H7 := shade (H6.out.grown hgr); have HB7 := shade (HB6.out.grown hgr); have HY7 := shade (HY6.out.grown hgr)
      clear hgr H6 HA6 HB6 HX6 HY6
      go_wp2_with fail
      refine (equalInts_rows _ _ _ _ _ _ _ _ _ (by omega) HB7.out HY7.out).mono ?_
      rintro e w8 ⟨rfl, hgr⟩
      have H8 := shade (H7.out.grown hgr)
      clear hgr H7 HB7 HY7
      go_wp2_with fail
      go_ret
      exact ⟨rfl, below_of_grown (grown_same HW.out H8.out.base)⟩
    · rw [hv] at HVW
      have HVV := shade hv
      obtain ⟨K, f, p, hKk, hvf, hpk, hI, hS, hAg⟩ := share_facts k F hv
      have HI := shade hI; have HS := shade hS; have HVF := shade hvf; have HPK := shade hpk; have HAG := shade hAg
      clear hI hS hv hvf hpk hAg
      go_wp2_with fail
      refine (HI.out _ _ _ H1.out.wt H1.out.wds).mono ?_
      rintro e w2 h5
      obtain ⟨v0, u0, rfl, hR, hR2, hgr⟩ := ShRes.row h5
      have H2 := shade (H1.out.grown hgr); have HA2 := shade hR; have HB2 := shade hR2
      clear hgr H1 hR hR2 h5 HI
      go_wp2_with fail
      refine (HS.out _ _ _ H2.out.wds).mono ?_
      rintro e w3 h5
      obtain ⟨v1, u1, rfl, hR, hR2, hgr⟩ := ShRes.row h5
      have H3 := shade (H2.out.grown hgr); have HA3 := shade (HA2.out.grown hgr); have HB3 := shade (HB2.out.grown hgr); have HX3 := shade hR; have HY3 := shade hR2
      clear hgr H2 HA2 HB2 hR hR2 h5 HS
      go_wp2_with fail
      refine (equalWide_row _ _ _ _ K _ _ f _ (by omega) HA3.out HX3.out).mono ?_
      rintro e w4 ⟨rfl, hgr⟩
      have H4 := shade (H3.out.grown hgr); have HA4 := shade (HA3.out.grown hgr); have HB4 := shade (HB3.out.grown hgr); have HX4 := shade (HX3.out.grown hgr); have HY4 := shade (HY3.out.grown hgr)
      clear hgr H3 HA3 HB3 HX3 HY3
      go_wp2_with fail
      refine (equalInts_rows _ _ _ _ _ _ _ _ _ (by omega) HB4.out HY4.out).mono ?_
      rintro e w5 ⟨rfl, hgr⟩
      have H5 := shade (H4.out.grown hgr); have HA5 := shade (HA4.out.grown hgr); have HB5 := shade (HB4.out.grown hgr)
      clear hgr H4 HA4 HB4 HX4 HY4
      go_wp2_with fail
      refine (HVW.out _ H5.out.wt H5.out.wds).mono ?_
      rintro e w6 ⟨rfl, hgr⟩
      have H6 := shade (H5.out.grown hgr); have HA6 := shade (HA5.out.grown hgr); have HB6 := shade (HB5.out.grown hgr)
      clear hgr H5 HA5 HB5 HVW
      go_wp2_with fail
      refine (run_valid _ k c F _ HVV.out H6.out.wt H6.out.wds).mono ?_
      rintro e w7 h5
      obtain ⟨Am, cm, rfl, -, -, -, hM, hgr⟩ := NumRes.num h5
      have H7 := shade (H6.out.grown hgr); have HA7 := shade (HA6.out.grown hgr); have HB7 := shade (HB6.out.grown hgr); have HM7 := shade hM
      clear hgr H6 HA6 HB6 hM h5
      obtain ⟨A0, c0, rfl, -⟩ := wds_of HA7.out.own
      go_wp2_with fail
      refine (run_valid _ K c0 f _ HVF.out H7.out.wt (by obtain ⟨_, _, e, h⟩ := wds_of HA7.out.own; injection e with e1 e2 e3; subst e1; exact h)).mono ?_
      rintro e w8 h5
      obtain ⟨Al, cl, rfl, -, -, -, hM, hgr⟩ := NumRes.num h5
      have H8 := shade (H7.out.grown hgr); have HA8 := shade (HA7.out.grown hgr); have HB8 := shade (HB7.out.grown hgr); have HM8 := shade (HM7.out.grown hgr); have HL8 := shade hM
      clear hgr H7 HA7 HB7 HM7 hM h5
      obtain ⟨Ab, cb, rfl, -⟩ := HB8.out.nums
      go_wp2_with fail
      go_loopw [2, 10] (fun _ i wr => ∃ j : Nat, j ≤ k ∧ i = .int .i64 (j : Int) ∧ w8.grownBy wr none) (fun _ i _ => k - (intOf i).toNat)
      case atStart => exact ⟨0, Nat.zero_le _, rfl, grown_refl _ _⟩
      case round =>
        obtain ⟨j, hj, rfl, hgw⟩ := hrel
        have HGW := shade hgw
        clear hgw
        by_cases hjm : j < k
        · obtain ⟨q, hq, hqK, hqn⟩ := HPK.out j hjm
          obtain ⟨_, _, eb, hnb⟩ := (HB8.out.grown HGW.out).nums
          injection eb with eb _ eb2
          subst eb eb2
          obtain ⟨_, _, em, hnm⟩ := (HM8.out.grown HGW.out).nums
          injection em with em _ em2
          subst em em2
          obtain ⟨_, _, el, hnl⟩ := (HL8.out.grown HGW.out).nums
          injection el with el _ el2
          subst el el2
          obtain ⟨bb, ob, rfl, -⟩ := hnb.resolve_left (by omega)
          obtain ⟨bm, om, rfl, -⟩ := hnm.resolve_left (by omega)
          obtain ⟨bl, ol, rfl, -⟩ := hnl.resolve_left (by omega)
          have q1 := hnb.cell hjm
          have q2 := hnm.cell hjm
          have q3 := hnl.cell hqK
          rw [hq] at q1
          rw [hqn] at q3
          obtain ⟨y, hy⟩ : ∃ y, num F j = y := ⟨_, rfl⟩
          rw [hy] at q2 q3
          clear hnb hnm hnl hq hqn hy
          have r1 : (q : Int) < (K : Int) := by omega
          have r2 : (j : Int) < (k : Int) := by omega
          have r0 : (0 : Int) ≤ (j : Int) := by omega
          have r3 : (0 : Int) ≤ (q : Int) := by omega
          go_wp2_with fail
          go_quiet (fail)
          go_wp2_with fail
          go_roundw
          case rel => exact ⟨j + 1, by omega, by go_num, grown_drewN HGW.out _⟩
          case measure => simp [intOf]; omega
        · obtain rfl : j = k := by omega
          have H9 := shade (H8.out.grown HGW.out); have HA9 := shade (HA8.out.grown HGW.out)
          clear H8 HA8 HB8 HM8 HL8 HGW
          go_wp2_with fail
          refine (HAG.out _ _ _ H9.out.wt (by obtain ⟨_, _, e, h⟩ := wds_of HA9.out.own; injection e with e1 e2 e3; subst e1; exact h)).mono ?_
          rintro e w10 h5
          obtain ⟨v2, u2, rfl, hR, hR2, hgr⟩ := ShRes.row h5
          have H10 := shade (H9.out.grown hgr); have HA10 := shade (HA9.out.grown hgr); have HZ10 := shade hR
          clear hgr H9 HA9 hR hR2 h5 HAG
          go_wp2_with fail
          refine (ValidWide_any _ K c0 f _ H10.out.wt (by omega) (by obtain ⟨_, _, e, h⟩ := wds_of HA10.out.own; injection e with e1 e2 e3; subst e1; exact h)).mono ?_
          rintro e w11 ⟨rfl, hgr⟩
          have H11 := shade (H10.out.grown hgr); have HA11 := shade (HA10.out.grown hgr); have HZ11 := shade (HZ10.out.grown hgr)
          clear hgr H10 HA10 HZ10
          rw [HVF.out]
          go_wp2_with fail
          refine (equalWide_row _ _ _ _ K _ _ f _ (by omega) HZ11.out HA11.out).mono ?_
          rintro e w12 ⟨rfl, hgr⟩
          have H12 := shade (H11.out.grown hgr)
          clear hgr H11 HA11 HZ11
          go_wp2_with fail
          go_ret
          exact ⟨rfl, below_of_grown (grown_same HW.out H12.out.base)⟩
end Go.Proofs.YtehjfnfpebdidaaDoor
