/- LiveWide answers as its model for what is drawn; what is needed is made, and what the next one takes is needed. -/
import Derived.Test.YtjjjgjnhiffpnaaDoorW896
import Derived.Test.YtjjjgjnhiffpnaaDoorW898
namespace Go.Proofs.YtjjjgjnhiffpnaaDoor
open Go.RowKit Go.Shelf
theorem nK_or (k : Nat) (F : Nat → Wid) (x : Int) : nK k F x = 0 ∨ (nK k F x = k ∧ vkB k F x = true) := by
  unfold nK
  rcases hv : vkB k F x with _ | _
  · exact .inl rfl
  · rw [if_pos rfl]
    exact .inr ⟨rfl, rfl⟩
set_option maxRecDepth 100000 in
set_option maxHeartbeats 8000000 in
theorem fnLiveWide_walk (A : Option Addr) (n cap : Nat) (zs : List Int) (w : World) (hg : WT w) (hB : Bys w A n cap zs) :
    Calls Tryd.prog 13 #[.slice A n cap] w fun e w' => e = .returned (.bool true) ∧ Below w.heap.size w w' := by
  have HG := shade hg
  have HBy := shade hB
  have hcap := hB.fits
  have hbig := hB.big
  unfold maxLen at hbig
  clear hg hB
  by_cases hl : 1048576 < n
  · go_enter Tryd.func13, Tryd.ntmps13
    go_wp2_with fail
    go_ret
    exact ⟨rfl, below_of_grown (grown_refl _ _)⟩
  · have HD := shade (DrawLiveWide_any A n cap zs w HBy.out)
    go_enter Tryd.func13, Tryd.ntmps13
    go_wp2_with fail
    refine HD.out.mono ?_
    rintro e w1 ⟨g', k, c, F, x, rfl, hk, ⟨hkc, hcm⟩, hC, hgr⟩
    unfold maxLen at hcm
    have H1 := shade (show SW w1 w1 (some ⟨g', 0, none⟩) k F from ⟨HG.out.below (below_of_grown hgr) (wt_lt HG.out), hC, grown_refl _ _⟩)
    have HW := shade hgr
    clear hC hgr HD HG HBy
    have HIM := shade (fun W (hW : WT W) (hc : Wds W (some ⟨g', 0, none⟩) k F) => (LiveWide_any _ k c x F W hW (by omega) hc).mono fun _ _ h => h.num)
    have HSP := shade (fun W (hc : Wds W (some ⟨g', 0, none⟩) k F) => (SpecLiveWide_any _ k c x F W (by omega) hc).mono fun _ _ h => h.num)
    have HK := shade (nK_or k F x)
    obtain ⟨q, hq⟩ : ∃ q, nK k F x = q := ⟨_, rfl⟩
    rw [hq] at HIM HSP HK
    have hq8 : q ≤ 8 := by rw [← hq]; exact nK_le k F x
    clear hq
    obtain ⟨R, hR⟩ : ∃ R, rowK F x k = R := ⟨_, rfl⟩
    rw [hR] at HIM HSP
    have HRR := shade hR
    clear hR
    go_wp2_with fail
    refine (HIM.out _ H1.out.wt H1.out.wds).mono ?_
    rintro e w2 ⟨A5, c5, rfl, k5, m5, hN, hR, hgr⟩
    unfold maxLen at m5
    have H2 := shade (H1.out.grown hgr); have HN2 := shade hN; have HV2 := shade hR
    clear hgr H1 hN hR
    go_wp2_with fail
    refine (HSP.out _ H2.out.wds).mono ?_
    rintro e w3 ⟨A6, c6, rfl, -, -, -, hR, hgr⟩
    have H3 := shade (H2.out.grown hgr); have HN3 := shade (nums_on HN2.out hgr); have HV3 := shade (HV2.out.grown hgr); have HW3 := shade hR
    clear hgr H2 HN2 HV2 hR
    go_wp2_with fail
    refine (equalInts_rows _ _ _ _ _ _ _ _ _ (by omega) HV3.out HW3.out).mono ?_
    rintro e w4 ⟨rfl, hgr⟩
    have H4 := shade (H3.out.grown hgr); have HN4 := shade (nums_on HN3.out hgr); have HV4 := shade (HV3.out.grown hgr)
    clear hgr H3 HN3 HV3 HW3
    by_cases h0 : q = 0
    · subst h0
      go_wp2_with fail
      refine (HSP.out _ H4.out.wds).mono ?_
      rintro e w5 ⟨A7, c7, rfl, -, -, -, hR, hgr⟩
      have H5 := shade (H4.out.grown hgr); have HV5 := shade (HV4.out.grown hgr); have HW5 := shade hR
      clear hgr H4 HV4 hR
      go_wp2_with fail
      refine (equalInts_rows _ _ _ _ _ _ _ _ _ (by omega) HV5.out HW5.out).mono ?_
      rintro e w6 ⟨rfl, hgr⟩
      have H6 := shade (H5.out.grown hgr)
      clear hgr H5
      go_wp2_with fail
      go_ret
      exact ⟨rfl, below_of_grown (grown_same HW.out H6.out.base)⟩
    · obtain ⟨hqk, hv⟩ := HK.out.resolve_left h0
      subst hqk
      obtain ⟨hvw, y, rfl, hy⟩ := vkB_iff.1 hv
      obtain ⟨m, rfl⟩ : ∃ m, q = m + 1 := ⟨q - 1, by omega⟩
      have hy8 : 2 ^ (m + 1) ≤ 256 := pow8 (by omega)
      have HOK := shade (vwB_iff.1 hvw).1
      have HRJ := shade (fun j => show R j = (rowW F y (m + 1) j : Int) by rw [← HRR.out]; rfl)
      have HLT := shade (fun j (hj : j < m + 1) => rowW_lt (vwB_iff.1 hvw).1 hy j hj)
      obtain ⟨b5, o5, rfl, -⟩ := HN4.out.resolve_left h0
      have h0b : ((m : Int) + 1 == 0) = false := by rw [beq_eq_false_iff_ne]; omega
      clear hv hvw HK HIM HSP HRR
      go_wp2_with fail
      go_loopw [2, 6] (fun _ i wr => ∃ j : Nat, j ≤ m + 1 ∧ i = .int .i64 (j : Int) ∧ w4.grownBy wr none) (fun _ i _ => m + 1 - (intOf i).toNat)
      case atStart => exact ⟨0, Nat.zero_le _, rfl, grown_refl _ _⟩
      case round =>
        obtain ⟨j, hj, rfl, hgw⟩ := hrel
        have HGW := shade hgw
        clear hgw
        by_cases hjm : j < m + 1
        · have q1 := (nums_on HN4.out HGW.out).cell hjm
          rw [HRJ.out j] at q1
          have h1 := HLT.out j hjm
          have h2 := row_own F y (m + 1) j
          have HTK := shade (fun h3 => row_takes F y (m + 1) j h3)
          have h4 : 2 ^ (j + 1) ≤ 256 := pow8 (by omega)
          have HP1 := shade (fun W => show Calls Tryd.prog 47 #[.int .i64 ((j : Int) + 1)] W fun e w' => e = .returned (.int .i64 ((2 ^ (j + 1) : Nat) : Int)) ∧ W = w' from lpower_nat (j + 1) (by omega) W)
          generalize rowW F y (m + 1) j = r at *
          have HB1 := shade (fun W => lbit_nat r j (by omega) (by omega) W)
          rw [h2] at HB1
          generalize 2 ^ (j + 1) = P at *
          have h5 : (r : Int) < (P : Int) := by omega
          have HOK1 := shade (fun h3 => HOK.out (j + 1) h3)
          by_cases hjl : j + 1 < m + 1
          · have hjl2 : (j : Int) + 1 < (m : Int) + 1 := by omega
            obtain ⟨p0, p1, p2, p3⟩ := (H4.out.wds.on HGW.out).four hjl
            have hok := HOK1.out hjl
            have htk := HTK.out hjl
            generalize F (j + 1) = cc at *
            obtain ⟨op, a, b', kk⟩ := cc
            simp only [Nat.zero_add] at p0 p1 p2 p3 hok htk
            have hv := (okW_told op a b' kk (j + 1)).symm.trans hok
            rw [decide_eq_true_iff] at hv
            have hw0 := word0 op.toList
            have QW := shade (H4.out.wds.on HGW.out)
            clear HTK HOK1 hok
            by_cases e0 : wordN op.toList = 0
            · have e1 := hw0.2 e0
              clear hv htk hw0 e0
              go_wp2_with fail
              go_quiet ((first
                | (go_at_call 46; with_reducible exact Calls.quiet_of_same ((HB1.out _).mono fun _ _ h => ⟨h.1, h.2.symm⟩))
                | (go_at_call 47; with_reducible exact Calls.quiet_of_same ((HP1.out _).mono fun _ _ h => ⟨h.1, h.2.symm⟩))))
              go_wp2_with fail
              go_quiet (fail)
              go_wp2_with fail
              go_roundw
              case rel => exact ⟨j + 1, by omega, by go_num, grown_drewN HGW.out _⟩
              case measure => simp [intOf]; omega
            · have e1 : (op.toList == [115, 101, 116]) = false := by
                rw [Bool.eq_false_iff]
                exact fun h => e0 (hw0.1 h)
              obtain ⟨t1, t2⟩ := htk e0
              obtain ⟨a, rfl⟩ := Int.eq_ofNat_of_zero_le (show 0 ≤ a by omega)
              obtain ⟨b', rfl⟩ := Int.eq_ofNat_of_zero_le (show 0 ≤ b' by omega)
              have ha : a < j + 1 := by omega
              have hb : b' < j + 1 := by omega
              simp only [Int.toNat_natCast] at t1 t2
              have HBA := shade (fun W => lbit_nat r a (by omega) (by omega) W)
              have HBB := shade (fun W => lbit_nat r b' (by omega) (by omega) W)
              rw [t1] at HBA
              rw [t2] at HBB
              clear hv htk hw0 e0
              go_wp2_with fail
              go_quiet ((first
                | (go_at_call 46; with_reducible exact Calls.quiet_of_same ((HB1.out _).mono fun _ _ h => ⟨h.1, h.2.symm⟩))
                | (go_at_call 47; with_reducible exact Calls.quiet_of_same ((HP1.out _).mono fun _ _ h => ⟨h.1, h.2.symm⟩))))
              go_upto_region 12 with (fail)
              generalize hwx : wr.drewN _ = wx
              have hgx : w4.grownBy wx none := by rw [← hwx]; exact grown_drewN HGW.out _
              have x0 : wx.cell? ⟨g', (j + 1) * 4, none⟩ = some (.string op) := by rw [← hwx]; exact p0
              have x1 : wx.cell? ⟨g', (j + 1) * 4 + 1, none⟩ = some (.int .i64 (a : Int)) := by rw [← hwx]; exact p1
              have x2 : wx.cell? ⟨g', (j + 1) * 4 + 2, none⟩ = some (.int .i64 (b' : Int)) := by rw [← hwx]; exact p2
              have x3 : wx.cell? ⟨b5, o5 + j, none⟩ = some (.int .i64 (r : Int)) := by rw [← hwx]; exact q1
              clear hwx p0 p1 p2 p3 q1
              go_quiet ((first
                | (go_at_call 46; with_reducible exact Calls.quiet_of_same ((HBA.out _).mono fun _ _ h => ⟨h.1, h.2.symm⟩))
                | (go_at_call 46; with_reducible exact Calls.quiet_of_same ((HBB.out _).mono fun _ _ h => ⟨h.1, h.2.symm⟩))))
              go_wp2_with fail
              go_roundw
              case rel => exact ⟨j + 1, by omega, by go_num, grown_drewN hgx _⟩
              case measure => simp [intOf]; omega
          · obtain rfl : j = m := by omega
            clear HTK HOK1
            go_wp2_with fail
            go_quiet ((first
              | (go_at_call 46; with_reducible exact Calls.quiet_of_same ((HB1.out _).mono fun _ _ h => ⟨h.1, h.2.symm⟩))
              | (go_at_call 47; with_reducible exact Calls.quiet_of_same ((HP1.out _).mono fun _ _ h => ⟨h.1, h.2.symm⟩))))
            go_wp2_with fail
            go_quiet (fail)
            go_wp2_with fail
            go_roundw
            case rel => exact ⟨j + 1, by omega, by go_num, grown_drewN HGW.out _⟩
            case measure => simp [intOf]
        · have hjm2 : j = m + 1 := by omega
          subst hjm2
          have H5 := shade (H4.out.grown HGW.out); have HN5 := shade (nums_on HN4.out HGW.out)
          clear H4 HV4 HN4 HGW
          have q1 := HN5.out.cell (show m < m + 1 by omega)
          rw [HRJ.out m, row_last] at q1
          have hm8 : 2 ^ m ≤ 256 := pow8 (by omega)
          have hm7 : 2 ^ m < 256 := by
            have := pow8 (show m + 1 ≤ 8 by omega)
            rw [Nat.pow_succ] at this
            omega
          have h9 := or63 y (2 ^ m) (by omega) hm7
          have HPM := shade (fun W => lpower_nat m (by omega) W)
          clear HRJ HLT HOK
          generalize y ||| 2 ^ m = z at *
          generalize 2 ^ m = pm at *
          go_wp2_with fail
          go_quiet ((go_at_call 47; with_reducible exact Calls.quiet_of_same ((HPM.out _).mono fun _ _ h => ⟨h.1, h.2.symm⟩)))
          go_wp2_with fail
          go_ret
          exact ⟨rfl, below_of_grown (grown_drewN (grown_same HW.out H5.out.base) _)⟩
end Go.Proofs.YtjjjgjnhiffpnaaDoor
