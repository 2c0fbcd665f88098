/- StillMisses and CountMisses of the model. -/
import Derived.Test.YtfmcmndhghfoeaaZ30
import Derived.Test.YtfmcmndhghfoeaaW30
namespace Go.Proofs.Ytfmcmndhghfoeaa
open Go.RowKit
set_option maxHeartbeats 2000000 in
theorem SStillMisses_any (AJ : Option Addr) (m cj : Nat) (J : Nat → Bool) (y : Bool) (w : World) (hj : Bols w AJ m J) :
    Calls Try.prog 15 #[.slice AJ m cj, .bool y] w fun e w' => e = .returned (.int .i64 (stillV J m y)) ∧ w = w' := by
  unfold stillV
  have HV := shade (validJumps_any AJ m cj w)
  have H := shade hj
  clear hj
  by_cases hm : m ≤ 300
  · rw [if_pos hm]
    rw [decide_eq_true hm] at HV
    go_enter Try.func15, Try.ntmps15
    go_wp2_with fail
    refine HV.out.mono ?_
    rintro e w1 ⟨rfl, rfl⟩
    go_wp2_with fail
    go_loopw [5, 6] (fun v i wr => ∃ j : Nat, j ≤ m ∧ i = .int .i64 (j : Int) ∧ v = .int .i64 (msB J (fun _ => y) j : Int) ∧ wr = w) (fun _ i _ => m - (intOf i).toNat)
    case atStart => exact ⟨0, Nat.zero_le _, rfl, rfl, rfl⟩
    case round =>
      obtain ⟨j, hj, rfl, rfl, rfl⟩ := hrel
      by_cases hlt : j < m
      · obtain ⟨b, o, rfl, -⟩ := H.out.resolve_left (by omega)
        have hc := H.out.cell hlt
        have hk := msB_le J (fun _ => y) j
        have hs : msB J (fun _ => y) (j + 1) = msB J (fun _ => y) j + (if (J j != y) = true then 1 else 0) := rfl
        have HS := shade hs
        clear hs
        generalize msB J (fun _ => y) j = x at *
        generalize J j = v at *
        have i1 : (j : Int) < (m : Int) := by omega
        have i2 : (0 : Int) ≤ (j : Int) := by omega
        rcases y with _ | _ <;> rcases v with _ | _
        all_goals
          go_wp2_with fail
          go_roundw
          case rel => exact ⟨j + 1, by omega, by go_num, by rw [HS.out]; simp, by trivial⟩
          case measure => simp [intOf]; omega
      · obtain rfl : j = m := by omega
        go_wp2_with fail
        go_ret
        exact ⟨rfl, by trivial⟩
  · rw [if_neg hm]
    rw [decide_eq_false hm] at HV
    go_enter Try.func15, Try.ntmps15
    go_wp2_with fail
    refine HV.out.mono ?_
    rintro e w1 ⟨rfl, rfl⟩
    go_wp2_with fail
    go_ret
    exact ⟨rfl, by trivial⟩
set_option maxHeartbeats 4000000 in
theorem SCount_in (AJ : Option Addr) (m cj : Nat) (J : Nat → Bool) (b : Nat) (f half : Int) (hb : b = 1 ∧ half = 1 ∨ b = 2 ∧ half = 2 ∨ b = 3 ∧ half = 4) (w : World) (hj : Bols w AJ m J) (hm : m ≤ 300) :
    Calls Try.prog 18 #[.slice AJ m cj, .int .i64 (b : Int), .int .i64 f] w fun e w' => e = .returned (.int .i64 (if 0 ≤ f ∧ f ≤ 2 * half - 1 then (msB J (cg (2 * half - 1) f half J) m : Int) else -1)) ∧ w.grownBy w' none := by
  have hpw : ((2 ^ b : Nat) : Int) = 2 * half := by rcases hb with ⟨rfl, rfl⟩ | ⟨rfl, rfl⟩ | ⟨rfl, rfl⟩ <;> rfl
  have HP := shade (fun W => power_any b (by omega) W)
  rw [hpw] at HP
  have hh1 : 1 ≤ half := by omega
  have hh4 : half ≤ 4 := by omega
  have HV := shade (validJumps_any AJ m cj w)
  rw [decide_eq_true hm] at HV
  have HI := shade (fun W => inRange_any (b : Int) 1 3 W)
  have hbi : inB (b : Int) 1 3 = true := by unfold inB; simp; omega
  rw [hbi] at HI
  have HF := shade (fun W => inRange_any f 0 (2 * half - 1) W)
  have H := shade hj
  clear hj hpw hbi hb
  obtain ⟨v, hv⟩ : ∃ v, (if 0 ≤ f ∧ f ≤ 2 * half - 1 then (msB J (cg (2 * half - 1) f half J) m : Int) else -1) = v := ⟨_, rfl⟩
  rw [hv]
  have HR := shade hv
  clear hv
  by_cases hf : 0 ≤ f ∧ f ≤ 2 * half - 1
  · have hfi : inB f 0 (2 * half - 1) = true := by unfold inB; simp [hf.1, hf.2]
    rw [hfi] at HF
    have HC := shade (fun j => ct_rng (from' := f) (most := 2 * half - 1) J hf.1 hf.2 j)
    have HR2 := shade ((if_pos hf).symm.trans HR.out)
    clear hfi HR hf
    go_enter Try.func18, Try.ntmps18
    go_wp2_with fail
    refine HV.out.mono ?_
    rintro e w1 ⟨rfl, rfl⟩
    go_wp2_with fail
    refine (HI.out _).mono ?_
    rintro e w1 ⟨rfl, rfl⟩
    go_wp2_with fail
    refine (HP.out _).mono ?_
    rintro e w1 ⟨rfl, rfl⟩
    go_wp2_with fail
    refine (HF.out _).mono ?_
    rintro e w1 ⟨rfl, rfl⟩
    go_wp2_with fail
    go_loopw [7, 8, 9] (fun v c i wr => ∃ j : Nat, j ≤ m ∧ i = .int .i64 (j : Int) ∧ v = .int .i64 (msB J (cg (2 * half - 1) f half J) j : Int) ∧ c = .int .i64 (ct (2 * half - 1) f J j) ∧ w.grownBy wr none) (fun _ _ i _ => m - (intOf i).toNat)
    case atStart => exact ⟨0, Nat.zero_le _, rfl, rfl, rfl, grown_refl _ _⟩
    case round =>
      obtain ⟨j, hj, rfl, rfl, rfl, hg⟩ := hrel
      have HG := shade hg
      clear hg
      by_cases hlt : j < m
      · obtain ⟨bb, o, rfl, -⟩ := H.out.resolve_left (by omega)
        have hc := (H.out.on HG.out).cell hlt
        have hk := msB_le J (cg (2 * half - 1) f half J) j
        have hr := HC.out j
        have hs : msB J (cg (2 * half - 1) f half J) (j + 1) = msB J (cg (2 * half - 1) f half J) j + (if (J j != decide (half ≤ ct (2 * half - 1) f J j)) = true then 1 else 0) := rfl
        have ht : ct (2 * half - 1) f J (j + 1) = stp (ct (2 * half - 1) f J j) (J j) (2 * half - 1) := rfl
        have HS := shade hs; have HT := shade ht
        clear hs ht
        generalize msB J (cg (2 * half - 1) f half J) j = x at *
        generalize ct (2 * half - 1) f J j = c at *
        obtain ⟨hr0, hr1⟩ := hr
        have HCO := shade (fun W => scount_any c (2 * half - 1) (J j) hr0 hr1 (by omega) W)
        generalize J j = v at *
        have i1 : (j : Int) < (m : Int) := by omega
        have i2 : (0 : Int) ≤ (j : Int) := by omega
        by_cases hh : half ≤ c
        · have hd : decide (half ≤ c) = true := decide_eq_true hh
          have i3 : 2 * half ≤ 2 * c := by omega
          rw [hd] at HS
          rcases v with _ | _
          all_goals
            go_wp2_with fail
            go_quiet ((go_at_call 41; exact Calls.quiet_of_same ((HP.out _).mono fun _ _ h => ⟨h.1, h.2.symm⟩)))
            go_wp2_with fail
            generalize hw5 : World.drewN wr _ = w5
            have hc5 : w5.cell? ⟨bb, o + j, none⟩ = wr.cell? ⟨bb, o + j, none⟩ := by rw [← hw5]; rfl
            rw [hc] at hc5
            have HG5 := shade (show w.grownBy w5 none by rw [← hw5]; exact grown_drewN HG.out _)
            clear hw5 hc
            go_quiet (first | (go_at_call 41; exact Calls.quiet_of_same ((HP.out _).mono fun _ _ h => ⟨h.1, h.2.symm⟩)) | (go_at_call 42; exact Calls.quiet_of_same ((HCO.out _).mono fun _ _ h => ⟨h.1, h.2.symm⟩)))
            go_wp2_with fail
            go_roundw
            case rel => exact ⟨j + 1, by omega, by go_num, by rw [HS.out]; simp, by rw [HT.out], grown_drewN HG5.out _⟩
            case measure => simp [intOf]; omega
        · have hd : decide (half ≤ c) = false := decide_eq_false hh
          have i3 : ¬ 2 * half ≤ 2 * c := by omega
          rw [hd] at HS
          rcases v with _ | _
          all_goals
            go_wp2_with fail
            go_quiet ((go_at_call 41; exact Calls.quiet_of_same ((HP.out _).mono fun _ _ h => ⟨h.1, h.2.symm⟩)))
            go_wp2_with fail
            generalize hw5 : World.drewN wr _ = w5
            have hc5 : w5.cell? ⟨bb, o + j, none⟩ = wr.cell? ⟨bb, o + j, none⟩ := by rw [← hw5]; rfl
            rw [hc] at hc5
            have HG5 := shade (show w.grownBy w5 none by rw [← hw5]; exact grown_drewN HG.out _)
            clear hw5 hc
            go_quiet (first | (go_at_call 41; exact Calls.quiet_of_same ((HP.out _).mono fun _ _ h => ⟨h.1, h.2.symm⟩)) | (go_at_call 42; exact Calls.quiet_of_same ((HCO.out _).mono fun _ _ h => ⟨h.1, h.2.symm⟩)))
            go_wp2_with fail
            go_roundw
            case rel => exact ⟨j + 1, by omega, by go_num, by rw [HS.out]; simp, by rw [HT.out], grown_drewN HG5.out _⟩
            case measure => simp [intOf]; omega
      · obtain rfl : j = m := by omega
        go_wp2_with fail
        go_ret
        exact ⟨by rw [← HR2.out]; rfl, HG.out⟩
  · have hfi : inB f 0 (2 * half - 1) = false := by unfold inB; simp; omega
    rw [hfi] at HF
    have HR2 := shade ((if_neg hf).symm.trans HR.out)
    clear hfi HR hf
    go_enter Try.func18, Try.ntmps18
    go_wp2_with fail
    refine HV.out.mono ?_
    rintro e w1 ⟨rfl, rfl⟩
    go_wp2_with fail
    refine (HI.out _).mono ?_
    rintro e w1 ⟨rfl, rfl⟩
    go_wp2_with fail
    refine (HP.out _).mono ?_
    rintro e w1 ⟨rfl, rfl⟩
    go_wp2_with fail
    refine (HF.out _).mono ?_
    rintro e w1 ⟨rfl, rfl⟩
    go_wp2_with fail
    go_ret
    exact ⟨by rw [← HR2.out]; rfl, grown_refl _ _⟩
theorem SCountMisses_any (AJ : Option Addr) (m cj : Nat) (J : Nat → Bool) (b f : Int) (w : World) (hj : Bols w AJ m J) :
    Calls Try.prog 18 #[.slice AJ m cj, .int .i64 b, .int .i64 f] w fun e w' => e = .returned (.int .i64 (countV J m b f)) ∧ w.grownBy w' none := by
  by_cases hin : m ≤ 300 ∧ 1 ≤ b ∧ b ≤ 3
  · obtain ⟨hm, hb1, hb3⟩ := hin
    have hv : ∀ half : Int, (b = 1 ∧ half = 1 ∨ b = 2 ∧ half = 2 ∨ b = 3 ∧ half = 4) → countV J m b f = (if 0 ≤ f ∧ f ≤ 2 * half - 1 then (msB J (cg (2 * half - 1) f half J) m : Int) else -1) := by
      intro half h
      unfold countV
      rcases h with ⟨rfl, rfl⟩ | ⟨rfl, rfl⟩ | ⟨rfl, rfl⟩
      all_goals
        simp only [hm, true_and, show (1 : Int).toNat = 1 from rfl, show (2 : Int).toNat = 2 from rfl, show (3 : Int).toNat = 3 from rfl, Int.reducePow, Int.reduceSub, Int.reduceMul, Nat.reduceSub, Int.reduceLE]
    obtain ⟨k, rfl⟩ := Int.eq_ofNat_of_zero_le (show 0 ≤ b by omega)
    rcases (show k = 1 ∨ k = 2 ∨ k = 3 by omega) with h | h | h
    · rw [hv 1 (.inl ⟨by omega, rfl⟩)]; exact SCount_in AJ m cj J k f 1 (.inl ⟨h, rfl⟩) w hj hm
    · rw [hv 2 (.inr (.inl ⟨by omega, rfl⟩))]; exact SCount_in AJ m cj J k f 2 (.inr (.inl ⟨h, rfl⟩)) w hj hm
    · rw [hv 4 (.inr (.inr ⟨by omega, rfl⟩))]; exact SCount_in AJ m cj J k f 4 (.inr (.inr ⟨h, rfl⟩)) w hj hm
  · have hv : countV J m b f = -1 := if_neg (fun h => hin ⟨h.1, h.2.1, h.2.2.1⟩)
    rw [hv]
    clear hj
    have HV := shade (validJumps_any AJ m cj w)
    by_cases hm : m ≤ 300
    · rw [decide_eq_true hm] at HV
      have HI := shade (fun W => inRange_any b 1 3 W)
      have hbi : inB b 1 3 = false := by unfold inB; simp; omega
      rw [hbi] at HI
      clear hbi
      go_enter Try.func18, Try.ntmps18
      go_wp2_with fail
      refine HV.out.mono ?_
      rintro e w1 ⟨rfl, rfl⟩
      go_wp2_with fail
      refine (HI.out _).mono ?_
      rintro e w1 ⟨rfl, rfl⟩
      go_wp2_with fail
      go_ret
      exact ⟨rfl, grown_refl _ _⟩
    · rw [decide_eq_false hm] at HV
      go_enter Try.func18, Try.ntmps18
      go_wp2_with fail
      refine HV.out.mono ?_
      rintro e w1 ⟨rfl, rfl⟩
      go_wp2_with fail
      go_ret
      exact ⟨rfl, grown_refl _ _⟩
end Go.Proofs.Ytfmcmndhghfoeaa
