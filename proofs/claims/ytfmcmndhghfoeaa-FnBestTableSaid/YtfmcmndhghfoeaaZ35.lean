/- BestTable of the model. -/
import Derived.Test.YtfmcmndhghfoeaaZ34
import Derived.Test.YtfmcmndhghfoeaaZ23
namespace Go.Proofs.Ytfmcmndhghfoeaa
open Go.RowKit
set_option linter.unusedSimpArgs false
/-- What the model has counted so far. -/
structure SBT (w wr : World) (g1 g2 N s : Nat) (J : Nat → Bool) (j : Nat) : Prop where
  yes : Own wr w.heap.size (some ⟨g1, 0, none⟩) N N (fun i => (yn s J true j i : Int))
  no : Own wr w.heap.size (some ⟨g2, 0, none⟩) N N (fun i => (yn s J false j i : Int))
  low : w.grownBy wr none
theorem yn_up (s : Nat) (J : Nat → Bool) (v : Bool) (j i : Nat) : (yn s J v (j + 1) i : Int) = if i = tw s J j then (yn s J v j (tw s J j) : Int) + (if J j = v then 1 else 0) else (yn s J v j i : Int) := by
  rw [yn_succ]
  by_cases h1 : i = tw s J j <;> by_cases h2 : J j = v <;> simp [h1, h2]
theorem SBT.next {w wr : World} {g1 g2 N s : Nat} {J : Nat → Bool} {j : Nat} (h : SBT w wr g1 g2 N s J j) (h12 : g1 ≠ g2) (g : Nat) (hg : g = if J j = true then g1 else g2) :
    SBT w (wr.setCell ⟨g, tw s J j, none⟩ (.int .i64 ((yn s J (J j) j (tw s J j) : Int) + 1))) g1 g2 N s J (j + 1) := by
  have hB1 := World.ownsRow.lt h.yes g1 rfl
  have hB2 := World.ownsRow.lt h.no g2 rfl
  have hlow : w.grownBy (wr.setCell ⟨g, tw s J j, none⟩ (.int .i64 ((yn s J (J j) j (tw s J j) : Int) + 1))) none := grown_then h.low (grown_set g _ _) (by rw [hg]; split <;> omega)
  rcases hv : J j with _ | _
  · rw [hv] at hg hlow
    rw [if_neg (by decide)] at hg
    subst hg
    refine ⟨?_, ?_, hlow⟩
    · refine (Own.congr (h.yes.keep (grown_set g _ _) (fun e => h12 (Option.some.inj e))) (fun i _ => ?_))
      show _ = (yn s J true (j + 1) i : Int)
      rw [yn_up, hv]
      by_cases e : i = tw s J j
      · rw [if_pos e, e]; simp
      · rw [if_neg e]
    · have hs := (World.ownsRow.stored h.no (tw s J j) (.int .i64 ((yn s J false j (tw s J j) : Int) + 1))).1
      rw [numL_set N _ (fun i => (yn s J false (j + 1) i : Int)) (tw s J j) _ (by
        show (yn s J false (j + 1) (tw s J j) : Int) = _
        rw [yn_up, if_pos rfl, hv]; simp) (fun i _ hne => by
        show (yn s J false j i : Int) = (yn s J false (j + 1) i : Int)
        rw [yn_up, if_neg hne])] at hs
      exact hs
  · rw [hv] at hg hlow
    rw [if_pos rfl] at hg
    subst hg
    refine ⟨?_, ?_, hlow⟩
    · have hs := (World.ownsRow.stored h.yes (tw s J j) (.int .i64 ((yn s J true j (tw s J j) : Int) + 1))).1
      rw [numL_set N _ (fun i => (yn s J true (j + 1) i : Int)) (tw s J j) _ (by
        show (yn s J true (j + 1) (tw s J j) : Int) = _
        rw [yn_up, if_pos rfl, hv]; simp) (fun i _ hne => by
        show (yn s J true j i : Int) = (yn s J true (j + 1) i : Int)
        rw [yn_up, if_neg hne])] at hs
      exact hs
    · refine (Own.congr (h.no.keep (grown_set g _ _) (fun e => h12 (Option.some.inj e).symm)) (fun i _ => ?_))
      show _ = (yn s J false (j + 1) i : Int)
      rw [yn_up, hv]
      by_cases e : i = tw s J j
      · rw [if_pos e, e]; simp
      · rw [if_neg e]
set_option maxRecDepth 100000 in
set_option maxHeartbeats 8000000 in
theorem SBest_in (AJ : Option Addr) (m cj : Nat) (J : Nat → Bool) (s : Nat) (w : World) (hj : Bols w AJ m J) (hm : m ≤ 300) (hs : s ≤ 4) :
    Calls Try.prog 28 #[.slice AJ m cj, .int .i64 (s : Int)] w fun e w' => e = .returned (.int .i64 (bt s J m : Int)) ∧ w.grownBy w' none := by
  have HV := shade (validJumps_any AJ m cj w)
  rw [decide_eq_true hm] at HV
  have HI := shade (fun W => inRange_any (s : Int) 0 4 W)
  have hbi : inB (s : Int) 0 4 = true := by unfold inB; simp; omega
  rw [hbi] at HI
  have H := shade hj
  have HP := shade (fun W => power_any s hs W)
  have hN := two_pow_le hs
  have HT := shade (fun j => tw_lt s J j)
  have HOL := shade (fun j (W : World) => old_any (tw s J j) s (J j) hs (Nat.lt_of_lt_of_le (tw_lt s J j) hN) W)
  have HBT := shade (show bt s J m = sumN (fun i => min (yn s J true m i) (yn s J false m i)) (2 ^ s) from rfl)
  generalize hNN : (2 ^ s : Nat) = N at *
  have HNN := shade hNN
  clear hNN
  obtain ⟨i0, hi, hz0, hz1, hz2⟩ := info_parts info3
  clear hbi hj
  go_enter Try.func28, Try.ntmps28
  go_wp2_with fail
  refine HV.out.mono ?_
  rintro e w1 ⟨rfl, rfl⟩
  go_wp2_with fail
  refine (HI.out _).mono ?_
  rintro e w1 ⟨rfl, rfl⟩
  go_wp2_with fail
  refine (HP.out _).mono ?_
  rintro e w1 ⟨rfl, rfl⟩
  go_wp2_with (first
    | (at_make; refine wpList_make_full _ rfl _ _ 47 rfl w.heap.size 3 i0 (.int .i64 0) 1 Try.underlying47 hi hz0 hz1 .i64 .i64 N N N rfl rfl rfl rfl (by rw [hz2]; omega) (by unfold maxLen; omega) (Nat.le_refl _) ?_)
    | fail)
  intro w1 hown1 hgr1
  simp only [made_zero] at hown1
  have HO1 := shade (show Own w1 w.heap.size (some ⟨w.heap.size, 0, none⟩) N N (fun _ => 0) from hown1)
  have HG1 := shade hgr1
  have HL1 := shade (World.ownsRow.lt hown1 w.heap.size rfl)
  clear hown1 hgr1
  go_wp2_with fail
  refine (HP.out _).mono ?_
  rintro e w2 ⟨rfl, rfl⟩
  go_wp2_with (first
    | (at_make; refine wpList_make_full _ rfl _ _ 47 rfl w1.heap.size 3 i0 (.int .i64 0) 1 Try.underlying47 hi hz0 hz1 .i64 .i64 N N N rfl rfl rfl rfl (by rw [hz2]; omega) (by unfold maxLen; omega) (Nat.le_refl _) ?_)
    | fail)
  intro w2 hown2 hgr2
  simp only [made_zero] at hown2
  have l1 := HG1.out.size
  have HM := shade (show SBT w w2 w.heap.size w1.heap.size N s J 0 from ⟨(HO1.out.keep hgr2 (by intro e; cases e)), Own.lower (show Own w2 w1.heap.size (some ⟨w1.heap.size, 0, none⟩) N N (fun _ => 0) from hown2) l1, grown_same HG1.out hgr2⟩)
  have HNE := shade (show w.heap.size ≠ w1.heap.size by have := HL1.out; omega)
  clear hown2 hgr2 l1 HO1 HG1 HL1 hi hz0 hz1 hz2 HP HV HI
  obtain ⟨g1, hg1⟩ : ∃ g, w.heap.size = g := ⟨_, rfl⟩
  obtain ⟨g2, hg2⟩ : ∃ g, w1.heap.size = g := ⟨_, rfl⟩
  rw [hg1, hg2] at HM HNE
  rw [hg1, hg2]
  clear hg1 hg2
  go_wp2_with fail
  go_loopw [7, 8] (fun y i wx => ∃ j : Nat, j ≤ m ∧ i = .int .i64 (j : Int) ∧ y = .int .i64 (tw s J j : Int) ∧ SBT w wx g1 g2 N s J j) (fun _ i _ => m - (intOf i).toNat)
  case atStart => exact ⟨0, Nat.zero_le _, rfl, rfl, HM.out⟩
  case round =>
    clear HM
    obtain ⟨j, hj, rfl, rfl, hP⟩ := hrel
    have HPG := shade hP
    by_cases hlt : j < m
    · obtain ⟨b, o, rfl, -⟩ := H.out.resolve_left (by omega)
      have hc := (H.out.on hP.low).cell hlt
      have ht := HT.out j
      have c1 := hP.yes.nums.cell ht
      have c2 := hP.no.nums.cell ht
      rw [Nat.zero_add] at c1 c2
      have f1 := World.ownsRow.frozenAt hP.yes (tw s J j)
      have f2 := World.ownsRow.frozenAt hP.no (tw s J j)
      have n1 := yn_le s J true j (tw s J j)
      have n2 := yn_le s J false j (tw s J j)
      have HNX := shade (fun g hg => hP.next HNE.out g hg)
      have HOO := shade (HOL.out j)
      have HTW := shade (show tw s J (j + 1) = (2 * tw s J j + (J j).toNat) % N by rw [← HNN.out]; rfl)
      clear hP HPG
      generalize tw s J j = y at *
      have i1 : (j : Int) < (m : Int) := by omega
      have i2 : (0 : Int) ≤ (j : Int) := by omega
      have i3 : (y : Int) < (N : Int) := by omega
      have i4 : (0 : Int) ≤ (y : Int) := by omega
      rcases hv : J j with _ | _
      all_goals
        rw [hv] at hc HNX HOO HTW
        generalize yn s J true j y = x1 at *
        generalize yn s J false j y = x2 at *
        first
          | (have HN2 := shade (HNX.out g1 rfl); skip)
          | (have HN2 := shade (HNX.out g2 rfl); skip)
        have hc9 := (H.out.on HN2.out.low).cell hlt
        rw [hv] at hc9
        clear hv
        go_wp2_with fail
        refine (HOO.out _).mono ?_
        rintro e w3 ⟨rfl, rfl⟩
        clear hc9
        go_wp2_with fail
        go_roundw
        case rel => exact ⟨j + 1, by omega, by go_num, by rw [HTW.out]; simp, HN2.out⟩
        case measure => simp [intOf]; omega
    · obtain rfl : j = m := by omega
      clear hP
      go_wp2_with fail
      go_loopw [9, 10] (fun v i wx => ∃ k : Nat, k ≤ N ∧ i = .int .i64 (k : Int) ∧ v = .int .i64 (sumN (fun i => min (yn s J true j i) (yn s J false j i)) k : Int) ∧ ∃ q : Nat, wx = wr.drewN q) (fun _ i _ => N - (intOf i).toNat)
      case atStart => exact ⟨0, Nat.zero_le _, rfl, rfl, 0, rfl⟩
      case round =>
        obtain ⟨k, hk, rfl, rfl, q, rfl⟩ := hrel
        have hP2 : SBT w (wr.drewN q) g1 g2 N s J j := ⟨HPG.out.yes, HPG.out.no, grown_drewN HPG.out.low q⟩
        have HP2 := shade hP2
        by_cases hk2 : k < N
        · have c1 := hP2.yes.nums.cell hk2
          have c2 := hP2.no.nums.cell hk2
          rw [Nat.zero_add] at c1 c2
          have i1 : (k : Int) < (N : Int) := by omega
          have i2 : (0 : Int) ≤ (k : Int) := by omega
          have hb2 := bt_le s J j
          have hb3 := sumN_grow (fun i => min (yn s J true j i) (yn s J false j i)) (k + 1) N (by omega)
          rw [HBT.out] at hb2
          have hsum : sumN (fun i => min (yn s J true j i) (yn s J false j i)) (k + 1) = sumN (fun i => min (yn s J true j i) (yn s J false j i)) k + min (yn s J true j k) (yn s J false j k) := rfl
          have hb4 : sumN (fun i => min (yn s J true j i) (yn s J false j i)) k + min (yn s J true j k) (yn s J false j k) ≤ 300 := by omega
          have HS := shade hsum
          clear hb2 hb3 hsum hP2
          generalize yn s J true j k = x1 at *
          generalize yn s J false j k = x2 at *
          generalize sumN (fun i => min (yn s J true j i) (yn s J false j i)) k = z at *
          generalize hw7 : World.drewN wr q = w7 at *
          rcases (show x1 < x2 ∨ x1 = x2 ∨ x2 < x1 by omega) with h | h | h
          · have e1 : min x1 x2 = x1 := by omega
            rw [e1] at hb4 HS
            have i3 : (x1 : Int) < (x2 : Int) := by omega
            have i4 : min (x1 : Int) (x2 : Int) = (x1 : Int) := by omega
            go_wp2_with fail
            go_region_with (fail)
            all_goals (first | (exfalso; omega) | skip)
            all_goals
              go_wp2_with fail
              go_roundw
              case rel => exact ⟨k + 1, by omega, by go_num, by rw [HS.out]; go_num, q + 1, by rw [← hw7]; rfl⟩
              case measure => simp [intOf]; omega
          · subst h
            have e1 : min x1 x1 = x1 := by omega
            rw [e1] at hb4 HS
            go_wp2_with fail
            go_region_with (fail)
            all_goals (first | (exfalso; omega) | skip)
            all_goals
              go_wp2_with fail
              go_roundw
              case rel => exact ⟨k + 1, by omega, by go_num, by rw [HS.out]; go_num, q + 1, by rw [← hw7]; rfl⟩
              case measure => simp [intOf]; omega
          · have e1 : min x1 x2 = x2 := by omega
            rw [e1] at hb4 HS
            have i3 : (x2 : Int) < (x1 : Int) := by omega
            have i4 : min (x1 : Int) (x2 : Int) = (x2 : Int) := by omega
            go_wp2_with fail
            go_region_with (fail)
            all_goals (first | (exfalso; omega) | skip)
            all_goals
              go_wp2_with fail
              go_roundw
              case rel => exact ⟨k + 1, by omega, by go_num, by rw [HS.out]; go_num, q + 1, by rw [← hw7]; rfl⟩
              case measure => simp [intOf]; omega
        · obtain rfl : k = N := by omega
          rw [← HBT.out]
          clear hP2
          go_wp2_with fail
          go_ret
          exact ⟨rfl, HP2.out.low⟩
theorem SBest_any (AJ : Option Addr) (m cj : Nat) (J : Nat → Bool) (s : Int) (w : World) (hj : Bols w AJ m J) :
    Calls Try.prog 28 #[.slice AJ m cj, .int .i64 s] w fun e w' => e = .returned (.int .i64 (bestV J m s)) ∧ w.grownBy w' none := by
  by_cases h : m ≤ 300 ∧ 0 ≤ s ∧ s ≤ 4
  · have hv : bestV J m s = (bt s.toNat J m : Int) := if_pos h
    rw [hv]
    obtain ⟨k, rfl⟩ := Int.eq_ofNat_of_zero_le h.2.1
    exact SBest_in AJ m cj J k w hj h.1 (by omega)
  · have hv : bestV J m s = -1 := if_neg h
    rw [hv]
    clear hj hv
    have HV := shade (validJumps_any AJ m cj w)
    by_cases hm : m ≤ 300
    · rw [decide_eq_true hm] at HV
      have HI := shade (fun W => inRange_any s 0 4 W)
      have hbi : inB s 0 4 = false := by unfold inB; simp; omega
      rw [hbi] at HI
      clear hbi h
      go_enter Try.func28, Try.ntmps28
      go_wp2_with fail
      refine HV.out.mono ?_
      rintro e w1 ⟨rfl, rfl⟩
      go_wp2_with fail
      refine (HI.out _).mono ?_
      rintro e w1 ⟨rfl, rfl⟩
      go_wp2_with fail
      go_ret
      exact ⟨rfl, grown_refl _ _⟩
    · rw [decide_eq_false hm] at HV
      clear h
      go_enter Try.func28, Try.ntmps28
      go_wp2_with fail
      refine HV.out.mono ?_
      rintro e w1 ⟨rfl, rfl⟩
      go_wp2_with fail
      go_ret
      exact ⟨rfl, grown_refl _ _⟩
end Go.Proofs.Ytfmcmndhghfoeaa
