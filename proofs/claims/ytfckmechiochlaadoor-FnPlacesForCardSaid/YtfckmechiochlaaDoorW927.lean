/- PlacesFor answers as its model for what is drawn; no two that are needed at once have one place. -/
import Derived.Test.YtfckmechiochlaaDoorW922
import Derived.Test.YtfckmechiochlaaDoorW863
import Derived.Test.YtfckmechiochlaaDoorW846
import Derived.Test.YtfckmechiochlaaDoorW920
import Derived.Test.YtfckmechiochlaaDoorW896
import Derived.Test.YtfckmechiochlaaDoorW899
namespace Go.Proofs.YtfckmechiochlaaDoor
open Go.RowKit Go.Shelf
set_option linter.unusedSimpArgs false
set_option maxRecDepth 100000 in
set_option maxHeartbeats 8000000 in
theorem fnPlacesFor_walk (A : Option Addr) (n cap : Nat) (zs : List Int) (w : World) (hg : WT w) (hB : Bys w A n cap zs) :
    Calls Tryd.prog 4 #[.slice A n cap] w fun e w' => e = .returned (.bool true) ∧ Below w.heap.size w w' := by
  have HG := shade hg
  have HBy := shade hB
  have hcap := hB.fits
  have hbig := hB.big
  unfold maxLen at hbig
  clear hg hB
  by_cases hl : 1048576 < n
  · go_enter Tryd.func4, Tryd.ntmps4
    go_wp2_with fail
    go_ret
    exact ⟨rfl, below_of_grown (grown_refl _ _)⟩
  · have HD := shade (DrawPlacesFor_any A n cap zs w HBy.out)
    go_enter Tryd.func4, Tryd.ntmps4
    go_wp2_with fail
    refine HD.out.mono ?_
    rintro e w1 ⟨g', k, c, F, x, rfl, hk, ⟨hkc, hcm⟩, hC, hgr⟩
    unfold maxLen at hcm
    have H1 := shade (show SW w1 w1 (some ⟨g', 0, none⟩) k F from ⟨HG.out.below (below_of_grown hgr) (wt_lt HG.out), hC, grown_refl _ _⟩)
    have HW := shade hgr
    clear hC hgr HD HG HBy
    have HIM := shade (fun W (hW : WT W) (hc : Wds W (some ⟨g', 0, none⟩) k F) => (PlacesFor_any _ k c x F W hW (by omega) hc).mono fun _ _ h => h.num)
    have HSP := shade (fun W (hc : Wds W (some ⟨g', 0, none⟩) k F) => (SpecPlacesFor_any _ k c x F W (by omega) hc).mono fun _ _ h => h.num)
    have HLW := shade (fun W (hW : WT W) (hc : Wds W (some ⟨g', 0, none⟩) k F) => (LiveWide_any _ k c x F W hW (by omega) hc).mono fun _ _ h => h.num)
    have HK := shade (nK_or k F x)
    obtain ⟨q, hq⟩ : ∃ q, nK k F x = q := ⟨_, rfl⟩
    rw [hq] at HIM HSP HK HLW
    have hq8 : q ≤ 8 := by rw [← hq]; exact nK_le k F x
    clear hq
    obtain ⟨R, hR⟩ : ∃ R, rowK F x k = R := ⟨_, rfl⟩
    obtain ⟨p, hp⟩ : ∃ p, plK F x k = p := ⟨_, rfl⟩
    rw [hR] at HLW
    rw [hp] at HIM HSP
    have HRR := shade hR; have HPP := shade hp
    clear hR hp
    go_wp2_with fail
    refine (HIM.out _ H1.out.wt H1.out.wds).mono ?_
    rintro e w2 ⟨A5, c5, rfl, k5, m5, hN, hR, hgr⟩
    unfold maxLen at m5
    have H2 := shade (H1.out.grown hgr); have HN2 := shade hN; have HV2 := shade hR
    clear hgr H1 hN hR
    go_wp2_with fail
    refine (HSP.out _ H2.out.wds).mono ?_
    rintro e w3 ⟨A6, c6, rfl, -, -, -, hR, hgr⟩
    have H3 := shade (H2.out.grown hgr); have HN3 := shade (nums_on HN2.out hgr); have HV3 := shade (HV2.out.grown hgr); have HW3 := shade hR
    clear hgr H2 HN2 HV2 hR
    go_wp2_with fail
    refine (equalInts_rows _ _ _ _ _ _ _ _ _ (by omega) HV3.out HW3.out).mono ?_
    rintro e w4 ⟨rfl, hgr⟩
    have H4 := shade (H3.out.grown hgr); have HN4 := shade (nums_on HN3.out hgr); have HV4 := shade (HV3.out.grown hgr)
    clear hgr H3 HN3 HV3 HW3
    by_cases h0 : q = 0
    · subst h0
      go_wp2_with fail
      refine (HSP.out _ H4.out.wds).mono ?_
      rintro e w5 ⟨A7, c7, rfl, -, -, -, hR, hgr⟩
      have H5 := shade (H4.out.grown hgr); have HV5 := shade (HV4.out.grown hgr); have HW5 := shade hR
      clear hgr H4 HV4 hR
      go_wp2_with fail
      refine (equalInts_rows _ _ _ _ _ _ _ _ _ (by omega) HV5.out HW5.out).mono ?_
      rintro e w6 ⟨rfl, hgr⟩
      have H6 := shade (H5.out.grown hgr)
      clear hgr H5
      go_wp2_with fail
      go_ret
      exact ⟨rfl, below_of_grown (grown_same HW.out H6.out.base)⟩
    · obtain ⟨hqk, hv⟩ := HK.out.resolve_left h0
      subst hqk
      obtain ⟨hvw, y, rfl, hy⟩ := vkB_iff.1 hv
      have hok := (vwB_iff.1 hvw).1
      have hiv := rows_iv hk hok hy
      have HRJ := shade (fun j => show R j = (rowW F y q j : Int) by rw [← HRR.out]; rfl)
      have HPJ := shade (fun j => show p j = ((pl (rowW F y q) j : Nat) : Int) by rw [← HPP.out]; rfl)
      have HLT := shade (fun j (hj : j < q) => show rowW F y q j < 256 from hiv.lt8 j hj)
      have HAP := shade (fun i a b (hi : i < q) (hab : b < a) (ha : (rowW F y q i).testBit a = true) (hb : (rowW F y q i).testBit b = true) => pl_apart hiv hi hab hb ha)
      have HP0 := shade (pl_zero (rowW F y q))
      generalize rowW F y q = RW at *
      generalize pl RW = PL at *
      obtain ⟨b5, o5, rfl, -⟩ := HN4.out.resolve_left h0
      have h0b : ((q : Int) == 0) = false := by rw [beq_eq_false_iff_ne]; omega
      have hq1 : (0 : Int) < (q : Int) := by omega
      clear hv hvw HK HIM HSP HRR HPP hok hiv hy
      go_wp2_with fail
      refine (HLW.out _ H4.out.wt H4.out.wds).mono ?_
      rintro e w5 ⟨A7, c7, rfl, -, -, hM, -, hgr⟩
      have H5 := shade (H4.out.grown hgr); have HN5 := shade (nums_on HN4.out hgr); have HM5 := shade hM
      clear hgr H4 HN4 hM HV4
      obtain ⟨b7, o7, rfl, -⟩ := HM5.out.resolve_left h0
      go_wp2_with fail
      go_loopw [7] (fun i wr => ∃ j : Nat, j ≤ q ∧ i = .int .i64 (j : Int) ∧ w5.grownBy wr none) (fun i _ => q - (intOf i).toNat)
      case atStart => exact ⟨0, Nat.zero_le _, rfl, grown_refl _ _⟩
      case round =>
        obtain ⟨i, hi, rfl, hgw⟩ := hrel
        have HGI := shade hgw
        clear hgw
        by_cases hiq : i < q
        · have iq : (i : Int) < (q : Int) := by omega
          have iq0 : (0 : Int) ≤ (i : Int) := by omega
          have HRI := shade (HRJ.out i)
          have HLI := shade (HLT.out i hiq)
          have HAI := shade (fun a b (hab : b < a) ha hb => HAP.out i a b hiq hab ha hb)
          obtain ⟨wi, hwi⟩ : ∃ wi : World, wi = wr := ⟨_, rfl⟩
          subst hwi
          go_wp2_with fail
          go_loopw [8] (fun u wq => ∃ a : Nat, a ≤ q ∧ u = .int .i64 (a : Int) ∧ wi.grownBy wq none) (fun u _ => q - (intOf u).toNat)
          case atStart => exact ⟨0, Nat.zero_le _, rfl, grown_refl _ _⟩
          case round =>
            obtain ⟨a, ha, rfl, hgw⟩ := hrel
            have HGA := shade hgw
            clear hgw
            by_cases haq : a < q
            · have aq : (a : Int) < (q : Int) := by omega
              have aq0 : (0 : Int) ≤ (a : Int) := by omega
              obtain ⟨wa, hwa⟩ : ∃ wa : World, wa = wr := ⟨_, rfl⟩
              subst hwa
              go_wp2_with fail
              go_loopw [9] (fun u wq => ∃ b : Nat, b ≤ a ∧ u = .int .i64 (b : Int) ∧ wa.grownBy wq none) (fun u _ => a - (intOf u).toNat)
              case atStart => exact ⟨0, Nat.zero_le _, rfl, grown_refl _ _⟩
              case round =>
                obtain ⟨b, hb, rfl, hgw⟩ := hrel
                have HGB := shade hgw
                clear hgw
                have hg5 := grown_same (grown_same HGI.out HGA.out) HGB.out
                by_cases hba : b < a
                · have q1 := (nums_on HM5.out hg5).cell hiq
                  rw [HRI.out] at q1
                  have r1 := (nums_on HN5.out hg5).cell haq
                  have r2 := (nums_on HN5.out hg5).cell (show b < q by omega)
                  rw [HPJ.out a] at r1
                  rw [HPJ.out b] at r2
                  have h1 := HLI.out
                  have HB := shade (fun j (hj : j ≤ 40) W => lbit_nat (RW i) j (by omega) hj W)
                  have HXX := shade (HAI.out a b hba)
                  have bq : (b : Int) < (q : Int) := by omega
                  have bq0 : (0 : Int) ≤ (b : Int) := by omega
                  have bit_iff : ∀ j, (RW i).testBit j = true ↔ RW i / 2 ^ j % 2 = 1 := fun j => by
                    rw [Nat.testBit_eq_decide_div_mod_eq, decide_eq_true_iff]
                  have ea := bit_iff a
                  have eb := bit_iff b
                  rw [ea, eb] at HXX
                  have HBA := shade (HB.out a (by omega))
                  have HBB := shade (HB.out b (by omega))
                  have ma : RW i / 2 ^ a % 2 = 0 ∨ RW i / 2 ^ a % 2 = 1 := by omega
                  have mb : RW i / 2 ^ b % 2 = 0 ∨ RW i / 2 ^ b % 2 = 1 := by omega
                  generalize RW i / 2 ^ a % 2 = xa at *
                  generalize RW i / 2 ^ b % 2 = xb at *
                  generalize RW i = r at *
                  generalize PL a = pa at *
                  generalize PL b = pb at *
                  clear ea eb bit_iff HB
                  rcases ma with rfl | rfl
                  · go_wp2_with fail
                    go_quiet ((first
                      | (go_at_call 18; with_reducible exact Calls.quiet_of_same ((HBA.out _).mono fun _ _ h => ⟨h.1, h.2.symm⟩))
                      | (go_at_call 18; with_reducible exact Calls.quiet_of_same ((HBB.out _).mono fun _ _ h => ⟨h.1, h.2.symm⟩))))
                    go_wp2_with fail
                    go_roundw
                    case rel => exact ⟨b + 1, by omega, by go_num, grown_drewN HGB.out _⟩
                    case measure => simp [intOf]; omega
                  · rcases mb with rfl | rfl
                    · go_wp2_with fail
                      go_quiet ((first
                        | (go_at_call 18; with_reducible exact Calls.quiet_of_same ((HBA.out _).mono fun _ _ h => ⟨h.1, h.2.symm⟩))
                        | (go_at_call 18; with_reducible exact Calls.quiet_of_same ((HBB.out _).mono fun _ _ h => ⟨h.1, h.2.symm⟩))))
                      go_wp2_with fail
                      go_roundw
                      case rel => exact ⟨b + 1, by omega, by go_num, grown_drewN HGB.out _⟩
                      case measure => simp [intOf]; omega
                    · have hne := HXX.out rfl rfl
                      have e1 : ((pa : Int) == (pb : Int)) = false := beq_eq_false_iff_ne.2 (by omega)
                      have e2 : (pa == pb) = false := beq_eq_false_iff_ne.2 (by omega)
                      go_wp2_with fail
                      go_quiet ((first
                        | (go_at_call 18; with_reducible exact Calls.quiet_of_same ((HBA.out _).mono fun _ _ h => ⟨h.1, h.2.symm⟩))
                        | (go_at_call 18; with_reducible exact Calls.quiet_of_same ((HBB.out _).mono fun _ _ h => ⟨h.1, h.2.symm⟩))))
                      go_wp2_with fail
                      go_roundw
                      case rel => exact ⟨b + 1, by omega, by go_num, grown_drewN HGB.out _⟩
                      case measure => simp [intOf]; omega
                · obtain rfl : b = a := by omega
                  have HGX := shade (grown_same HGA.out HGB.out)
                  go_wp2_with fail
                  go_roundw
                  case rel => exact ⟨b + 1, by omega, by go_num, HGX.out⟩
                  case measure => simp [intOf]; omega
            · obtain rfl : a = q := by omega
              have HGX := shade (grown_same HGI.out HGA.out)
              go_wp2_with fail
              go_roundw
              case rel => exact ⟨i + 1, by omega, by go_num, HGX.out⟩
              case measure => simp [intOf]; omega
        · obtain rfl : i = q := by omega
          have r0 := (nums_on HN5.out HGI.out).cell (show 0 < i by omega)
          rw [HPJ.out 0, HP0.out, Nat.add_zero] at r0
          have H6 := shade (H5.out.grown HGI.out)
          go_wp2_with fail
          go_ret
          exact ⟨rfl, below_of_grown (grown_same HW.out H6.out.base)⟩
end Go.Proofs.YtfckmechiochlaaDoor
