/- LiveOf answers as its model for the drawn program; runs that agree on what is needed end alike. -/
import Derived.Test.YtjeflaodeafhbaaDoorG580
import Derived.Test.YtjeflaodeafhbaaDoorW714
import Derived.BigRegion
namespace Go.Proofs.YtjeflaodeafhbaaDoor
open Go.RowKit Go.Shelf
set_option linter.unusedSimpArgs false
theorem wrap63 (a : Nat) (h : a < 2 ^ 63) : IntKind.i64.wrap (a : Int) = (a : Int) := by
  simp [IntKind.wrap, IntKind.bits, IntKind.signed]
  omega
theorem wrap64_63 (a : Nat) (h : a < 2 ^ 63) : wrap64 (a : Int) = (a : Int) := by
  unfold wrap64
  omega
theorem pow40 {t : Nat} (h : t ≤ 40) : 2 ^ t ≤ 2 ^ 40 := Nat.pow_le_pow_right (by omega) h
set_option maxHeartbeats 4000000 in
theorem lpower_nat (n : Nat) (hn : n ≤ 40) (w : World) : Calls Tryd.prog 45 #[.int .i64 (n : Int)] w fun e w' => e = .returned (.int .i64 ((2 ^ n : Nat) : Int)) ∧ w = w' := by
  go_enter Tryd.func45, Tryd.ntmps45
  go_wp2
  go_loopw [0, 3] (fun q o w2 => ∃ (m k : Nat), m + k = n ∧ q = .int .i64 (m : Int) ∧ o = .int .i64 ((2 ^ k : Nat) : Int) ∧ w = w2) (fun q _ _ => (intOf q).toNat)
  case atStart => exact ⟨n, 0, by omega, rfl, rfl, rfl⟩
  case round =>
    obtain ⟨m, k, hmk, rfl, rfl, rfl⟩ := hrel
    rcases m with _ | m
    · obtain rfl : k = n := by omega
      go_wp2
      go_ret
      exact ⟨rfl, rfl⟩
    · have h40 : 2 ^ k ≤ 2 ^ 40 := pow40 (by omega)
      have e1 : ((2 ^ (k + 1) : Nat) : Int) = 2 * ((2 ^ k : Nat) : Int) := by rw [Nat.pow_succ]; omega
      have HE := shade e1
      clear e1
      generalize 2 ^ k = x at *
      have b1 : 0 ≤ 2 * (x : Int) := by omega
      have b2 : 2 * (x : Int) ≤ 9223372036854775807 := by omega
      have b3 : (m : Int) ≤ 40 := by omega
      go_wp2
      go_roundw
      case rel => exact ⟨m, k + 1, by omega, by go_num, by rw [HE.out], trivial⟩
      case measure => simp [intOf]

set_option maxHeartbeats 4000000 in
theorem lbit_nat (x j : Nat) (hx : x < 2 ^ 62) (hj : j ≤ 40) (w : World) : Calls Tryd.prog 15 #[.int .i64 (x : Int), .int .i64 (j : Int)] w fun e w' => e = .returned (.int .i64 ((x / 2 ^ j % 2 : Nat) : Int)) ∧ w = w' := by
  have HP := shade (lpower_nat j hj w)
  have h40 : 2 ^ j ≤ 2 ^ 40 := pow40 hj
  have h0 : 0 < 2 ^ j := Nat.two_pow_pos j
  obtain ⟨p, hp⟩ : ∃ p : Nat, 2 ^ j = p := ⟨_, rfl⟩
  rw [hp] at HP h40 h0 ⊢
  clear hp
  have e0 : ((p : Int) == 0) = false := beq_eq_false_iff_ne.2 (by omega)
  have e1 : Int.tdiv (x : Int) (p : Int) = ((x / p : Nat) : Int) := rfl
  have e2 : Int.tmod ((x / p : Nat) : Int) 2 = ((x / p % 2 : Nat) : Int) := rfl
  have e3 : x / p ≤ x := Nat.div_le_self x p
  go_enter Tryd.func15, Tryd.ntmps15
  go_wp2_with fail
  refine HP.out.mono ?_
  rintro e w1 ⟨rfl, rfl⟩
  go_wp2_with fail
  go_ret
  refine ⟨?_, rfl⟩
  rw [show wrap64 ((x : Int) / (p : Int)) = ((x / p : Nat) : Int) from wrap64_63 (x / p) (by omega), e2]
  rfl
set_option maxRecDepth 100000 in
set_option maxHeartbeats 4000000 in
theorem DrawLiveOf_any (A : Option Addr) (n cap : Nat) (zs : List Int) (w : World) (h : Bys w A n cap zs) :
    Calls Tryd.prog 10 #[.slice A n cap] w (DrwC w) := by
  have HN := shade (newReader_any A n cap zs w h)
  clear h
  go_enter Tryd.func10, Tryd.ntmps10
  go_wp2_with fail
  refine HN.out.mono ?_
  rintro e w1 ⟨m, rfl, hR, hb1⟩
  have HG1 := shade (grown_of_below hb1)
  have HR1 := shade hR
  clear hb1 hR HN
  go_wp2_with fail
  refine (someCode_rd HR1.out (by omega)).mono ?_
  rintro e w2 ⟨g', k, c, f, rfl, hk, hC, hG, hg', q, hq, hR⟩
  have HG2 := shade (grown_row HG1.out hG (fun j e => by injection e; omega))
  have HC2 := shade hC
  clear hC hG hR HR1 HG1
  go_wp2_with fail
  go_ret
  exact ⟨_, k, c, f, rfl, hk, HC2.out, HG2.out⟩
theorem equalIntsD_rows (lo1 hi1 lo2 hi2 K : Nat) (v1 v2 : Value) (f : Nat → Int) (w : World) (hK : K ≤ 300) (h1 : RowO w lo1 hi1 3 v1 K (numL K f)) (h2 : RowO w lo2 hi2 3 v2 K (numL K f)) :
    Calls Tryd.prog 12 #[v1, v2] w fun e w' => e = .returned (.bool true) ∧ w.grownBy w' none := by
  obtain ⟨A1, c1, rfl, hn1⟩ := h1.nums
  obtain ⟨A2, c2, rfl, hn2⟩ := h2.nums
  refine (equalInts_any A1 A2 c1 c2 K f f w (by omega) hn1 hn2 (fun _ _ => rfl)).mono ?_
  rintro e w' ⟨rfl, m, rfl⟩
  exact ⟨rfl, grown_drewN (grown_refl _ _) _⟩
set_option maxRecDepth 100000 in
set_option maxHeartbeats 16000000 in
theorem fnLiveOf_walk (A : Option Addr) (n cap : Nat) (zs : List Int) (w : World) (hg : WT w) (hB : Bys w A n cap zs) :
    Calls Tryd.prog 3 #[.slice A n cap] w fun e w' => e = .returned (.bool true) ∧ Below w.heap.size w w' := by
  have HG := shade hg
  have HBy := shade hB
  have hcap := hB.fits
  have hbig := hB.big
  unfold maxLen at hbig
  clear hg hB
  by_cases hl : 1048576 < n
  · go_enter Tryd.func3, Tryd.ntmps3
    go_wp2_with fail
    go_ret
    exact ⟨rfl, rfl, rfl, rfl, Nat.le_refl _, fun _ _ => rfl⟩
  · have HD := shade (DrawLiveOf_any A n cap zs w HBy.out)
    go_enter Tryd.func3, Tryd.ntmps3
    go_wp2_with fail
    refine HD.out.mono ?_
    rintro e w1 ⟨Al, k, c, F, rfl, hk, hC, hgr⟩
    obtain ⟨K, f, hK, HSp, HIm, hcase⟩ := live_told k F (by omega)
    have HSP := shade HSp; have HIM := shade HIm; have HCA := shade hcase
    have HC := shade hC
    have HL := shade hgr
    clear HSp HIm hcase hC hgr HD
    go_wp2_with fail
    refine (HIM.out _ _ _ (HG.out.below (below_of_grown HL.out) (wt_lt HG.out)) HC.out).mono ?_
    rintro e w2 h5
    obtain ⟨v5, rfl, hR, hgr⟩ := NumRes.row h5
    have HN2 := shade hR
    obtain ⟨A5, c5, rfl, hN⟩ := hR.nums
    have HC2 := shade (HC.out.on hgr); have HL2 := shade (grown_same HL.out hgr); have HV2 := shade hN
    clear hgr hR hN h5 HC HL
    go_wp2_with fail
    refine (HSP.out _ _ _ HC2.out).mono ?_
    rintro e w3 h5
    obtain ⟨v1, rfl, hR, hgr⟩ := NumRes.row h5
    have HC3 := shade (HC2.out.on hgr); have HL3 := shade (grown_same HL2.out hgr); have HV3 := shade (nums_on HV2.out hgr); have HW3 := shade hR; have HN3 := shade (HN2.out.grown hgr)
    clear hgr hR h5 HC2 HL2 HV2 HN2
    go_wp2_with fail
    refine (equalIntsD_rows _ _ _ _ _ _ _ _ _ hK HN3.out HW3.out).mono ?_
    rintro e w4 ⟨rfl, hgr⟩
    have HC4 := shade (HC3.out.on hgr); have HL4 := shade (grown_same HL3.out hgr); have HV4 := shade (nums_on HV3.out hgr); have HN4 := shade (HN3.out.grown hgr)
    clear hgr HC3 HL3 HV3 HW3 HN3
    by_cases h0 : K = 0
    · have h0b : ((K : Int) == 0) = true := by rw [h0]; rfl
      clear h0
      go_wp2_with fail
      refine (HSP.out _ _ _ HC4.out).mono ?_
      rintro e w5 h5
      obtain ⟨v2, rfl, hR, hgr⟩ := NumRes.row h5
      have HL5 := shade (grown_same HL4.out hgr); have HV5 := shade (HN4.out.grown hgr); have HW5 := shade hR
      clear hgr hR h5
      go_wp2_with fail
      refine (equalIntsD_rows _ _ _ _ _ _ _ _ _ hK HV5.out HW5.out).mono ?_
      rintro e w6 ⟨rfl, hgr⟩
      have HL6 := shade (grown_same HL5.out hgr)
      clear hgr
      go_wp2_with fail
      go_ret
      exact ⟨rfl, below_of_grown HL6.out⟩
    · have h0b : ((K : Int) == 0) = false := by rw [beq_eq_false_iff_ne]; omega
      obtain ⟨hv, hKk, hgx⟩ := HCA.out.resolve_left (fun h => h0 h.2)
      have HVT := shade hv; have HGX := shade hgx
      obtain ⟨b5, o5, rfl, -⟩ := HV4.out.resolve_left h0
      subst hKk
      clear HN4 HSP HIM HCA hv hgx h0
      go_wp2_with fail
      go_loopw [5] (fun r wr => ∃ q : Nat, q ≤ 3 ∧ r = .int .i64 (4 * (q : Int)) ∧ w4.grownBy wr none) (fun r _ => 12 - (intOf r).toNat)
      case atStart => exact ⟨0, by omega, rfl, grown_refl _ _⟩
      case round =>
        obtain ⟨q, hq, rfl, hgw⟩ := hrel
        have HGW := shade hgw
        clear hgw
        by_cases hq3 : q < 3
        · have HTRI := shade (fun W => trial_any (4 * (q : Int)) (by omega) W)
          obtain ⟨wo, rfl⟩ : ∃ wo : World, wo = wr := ⟨_, rfl⟩
          go_wp2_with fail
          obtain ⟨t, ht⟩ : ∃ t : Int, 4 * (q : Int) = t := ⟨_, rfl⟩
          rw [ht] at HTRI ⊢
          have HT := shade ht
          clear ht
          refine (HTRI.out _).mono ?_
          rintro e w5 ⟨g1, d1, g2, d2, rfl, hne, ho1, ho2, hgr⟩
          have hga := World.grownBy_alloc w5 (.cells #[.int .i64 0, .slice (some ⟨g1, 0, none⟩) 4 d1, .slice (some ⟨g2, 0, none⟩) 8 d2] 29) none
          have HG5 := shade (grown_same HGW.out (grown_same hgr hga))
          have HM5 := shade (Holds5.fresh w5 29 #[.int .i64 0, .slice (some ⟨g1, 0, none⟩) 4 d1, .slice (some ⟨g2, 0, none⟩) 8 d2])
          have HO1 := shade (nums_on (Own.nums ho1) hga); have HO2 := shade (nums_on (Own.nums ho2) hga)
          have l1 := ho1.lt.2; have l2 := ho2.lt.2
          clear hgr ho1 ho2 HGW hne hga
          go_wp2_with fail
          refine (HTRI.out _).mono ?_
          rintro e w6 ⟨g3, d3, g4, d4, rfl, hne, ho3, ho4, hgr⟩
          have hga := World.grownBy_alloc w6 (.cells #[.int .i64 0, .slice (some ⟨g3, 0, none⟩) 4 d3, .slice (some ⟨g4, 0, none⟩) 8 d4] 29) none
          have hgg := grown_same hgr hga
          have l3 := ho3.lt; have l4 := ho4.lt
          rw [World.size_alloc] at l3 l4
          have hs5 := HG5.out.size
          rw [World.size_alloc] at hs5
          have HOT := shade (show Oth w4 (w6.alloc (.cells #[.int .i64 0, .slice (some ⟨g3, 0, none⟩) 4 d3, .slice (some ⟨g4, 0, none⟩) 8 d4] 29)) w5.heap.size w6.heap.size g1 d1 g2 d2 g3 d3 g4 d4 t (othR (f 0) t 0) from
            ⟨grown_same HG5.out hgg, HM5.out.grown hgg (by intro e; cases e), Holds5.fresh _ _ _, nums_on HO1.out hgg, nums_on HO2.out hgg, nums_on (Own.nums ho4) hga,
              Own.congr (World.ownsRow.mono (World.ownsRow.kept ho3 hga (Classical.em _)) (by rw [World.size_alloc]; exact hs5)) (fun j _ => by unfold othR; rw [if_neg (fun h => absurd h.1 (Nat.not_lt_zero j))]), by omega, by omega, by omega, by omega, fun e => hne e.symm⟩)
          clear hgr hga hgg ho3 ho4 hne HO1 HO2 HM5 HG5 l1 l2 l3 l4 hs5 HTRI
          obtain ⟨bm, hbm⟩ : ∃ bm, w5.heap.size = bm := ⟨_, rfl⟩
          obtain ⟨bo, hbo⟩ : ∃ bo, w6.heap.size = bo := ⟨_, rfl⟩
          rw [hbm, hbo] at HOT
          go_wp2_with fail
          clear hbm hbo
          obtain ⟨y, hy⟩ : ∃ y : Nat, f 0 = (y : Int) := ⟨(f 0).toNat, by have := (HGX.out 0).1.1; omega⟩
          have hy16 : y < 16 := by have := (HGX.out 0).1.2; omega
          have HY := shade hy
          obtain ⟨wo2, rfl⟩ : ∃ wo2 : World, wo2 = wo := ⟨_, rfl⟩
          go_loopw [8] (fun rr wr => ∃ r : Nat, r ≤ 4 ∧ rr = .int .i64 (r : Int) ∧ Oth w4 wr bm bo g1 d1 g2 d2 g3 d3 g4 d4 t (othR (f 0) t r)) (fun rr _ => 4 - (intOf rr).toNat)
          case atStart => exact ⟨0, by omega, rfl, HOT.out⟩
          case round =>
            clear HOT
            obtain ⟨r, hr, rfl, hp⟩ := hrel
            have HP := shade hp
            clear hp
            by_cases hr4 : r < 4
            · have s0 := (nums_on HV4.out HP.out.low).cell (show 0 < k + 1 by omega)
              rw [hy, Nat.add_zero] at s0
              have HBT := shade (fun W => lbit_nat y r (by omega) (by omega) W)
              have hbn := bt_nat y r
              clear hy
              go_wp2_with fail
              refine (HBT.out _).mono ?_
              rintro e w7 ⟨rfl, rfl⟩
              rcases hb : bt (y : Int) r with _ | _
              · rw [hb] at hbn
                have hbn2 : (((y / 2 ^ r % 2 : Nat) : Int) == 0) = true := hbn
                have HN := shade (HP.out.set (f4 := othR (f 0) t (r + 1)) r ((trR t r + 91) % 256) (by unfold othR; rw [HY.out, hb, if_pos ⟨Nat.lt_succ_self r, rfl⟩]) (fun j hj hne => by
                  unfold othR
                  by_cases e : j < r ∧ bt (f 0) j = false
                  · rw [if_pos e, if_pos ⟨by omega, e.2⟩]
                  · rw [if_neg e, if_neg (fun h => e ⟨by omega, h.2⟩)]))
                have q0 := HP.out.o.look 0; have q1 := HP.out.o.look 1; have q2 := HP.out.o.look 2
                simp at q0 q1 q2
                have c0 := HP.out.own.nums.cell (j := r) (by omega)
                have hcr : othR (f 0) t r r = trR t r := by unfold othR; rw [if_neg (fun h => absurd h.1 (Nat.lt_irrefl r))]
                rw [Nat.zero_add, hcr] at c0
                have c1 := World.ownsRow.frozenAt HP.out.own r
                have hin := trR_in t r
                clear hb hbn hcr
                generalize y / 2 ^ r % 2 = z at *
                generalize trR t r = v at *
                go_upto_region 16 with (fail)
                go_region_with (fail)
                all_goals (go_wp2_with fail)
                all_goals (exact ⟨⟨r + 1, by omega, by go_num, HN.out.on (grown_drewN (grown_refl _ _) 1)⟩, by simp [intOf]; omega⟩)
              · rw [hb] at hbn
                have hbn2 : (((y / 2 ^ r % 2 : Nat) : Int) == 0) = false := hbn
                have HN := shade (HP.out.keep (f4 := othR (f 0) t (r + 1)) (fun j hj => by
                  unfold othR
                  by_cases e : j < r ∧ bt (f 0) j = false
                  · rw [if_pos e, if_pos ⟨by omega, e.2⟩]
                  · rw [if_neg e, if_neg (fun h => e ⟨by
                      have hne : j ≠ r := fun e2 => by
                        have h2 := h.2
                        rw [HY.out, e2, hb] at h2
                        cases h2
                      omega, h.2⟩)]))
                clear hb hbn
                generalize y / 2 ^ r % 2 = z at *
                go_wp2_with fail
                go_roundw
                case rel => exact ⟨r + 1, by omega, by go_num, HN.out⟩
                case measure => simp [intOf]; omega
            · obtain rfl : r = 4 := by omega
              obtain ⟨K1, hK1⟩ := runEnd_some k F ⟨0, trR t, trM t⟩ 100
              have hal := oth_alike (F := F) (n := k) (y := f 0) (t := t) (fun r hr => (HGX.out 0).2 r hr)
              obtain ⟨hK2, hme, hha⟩ := hal.stop HVT.out (try_ok t) hK1
              have HR1 := shade (fun (W : World) (hW : w4.grownBy W none) h1 h2 => (show Calls Tryd.prog 16 #[.slice Al k c, MV 0 (some ⟨g1, 0, none⟩) 4 d1 (some ⟨g2, 0, none⟩) 8 d2, .int .i64 100] W (RunMRes W (sN F ⟨0, trR t, trM t⟩ K1).at' 4 8 (sN F ⟨0, trR t, trM t⟩ K1).r (sN F ⟨0, trR t, trM t⟩ K1).m K1 (sHalt k F (sN F ⟨0, trR t, trM t⟩ K1))) from
                runs_told Al k c F ⟨0, trR t, trM t⟩ g1 d1 g2 d2 100 K1 W (HG.out.below (below_of_grown (grown_same HL4.out hW)) (wt_lt HG.out)) (HC4.out.on hW) h1 h2 HVT.out (try_vm t) (by omega) hK1))
              have HR2 := shade (fun (W : World) (hW : w4.grownBy W none) h1 h2 => (show Calls Tryd.prog 16 #[.slice Al k c, MV 0 (some ⟨g3, 0, none⟩) 4 d3 (some ⟨g4, 0, none⟩) 8 d4, .int .i64 100] W (RunMRes W (sN F ⟨0, othR (f 0) t 4, trM t⟩ K1).at' 4 8 (sN F ⟨0, othR (f 0) t 4, trM t⟩ K1).r (sN F ⟨0, othR (f 0) t 4, trM t⟩ K1).m K1 (sHalt k F (sN F ⟨0, othR (f 0) t 4, trM t⟩ K1))) from
                runs_told Al k c F ⟨0, othR (f 0) t 4, trM t⟩ g3 d3 g4 d4 100 K1 W (HG.out.below (below_of_grown (grown_same HL4.out hW)) (wt_lt HG.out)) (HC4.out.on hW) h1 h2 HVT.out (oth_vm _ _ _) (by omega) hK2))
              rw [hme, hha] at HR2
              have hkl := hK1.le
              obtain ⟨at2, hat⟩ : ∃ x, (sN F ⟨0, trR t, trM t⟩ K1).at' = x := ⟨_, rfl⟩
              obtain ⟨rr2, hr2⟩ : ∃ x, (sN F ⟨0, trR t, trM t⟩ K1).r = x := ⟨_, rfl⟩
              obtain ⟨mm2, hm2⟩ : ∃ x, (sN F ⟨0, trR t, trM t⟩ K1).m = x := ⟨_, rfl⟩
              obtain ⟨d, hd⟩ : ∃ x, sHalt k F (sN F ⟨0, trR t, trM t⟩ K1) = x := ⟨_, rfl⟩
              obtain ⟨at3, hat3⟩ : ∃ x, (sN F ⟨0, othR (f 0) t 4, trM t⟩ K1).at' = x := ⟨_, rfl⟩
              obtain ⟨rr3, hr3⟩ : ∃ x, (sN F ⟨0, othR (f 0) t 4, trM t⟩ K1).r = x := ⟨_, rfl⟩
              rw [hat, hr2, hm2, hd] at HR1
              rw [hat3, hr3, hm2, hd] at HR2
              have q0 := HP.out.m.look 0; have q1 := HP.out.m.look 1; have q2 := HP.out.m.look 2
              simp at q0 q1 q2
              clear hat hr2 hm2 hd hat3 hr3 hK1 hK2 hme hha hal hy
              go_wp2_with fail
              refine (HR1.out _ HP.out.low HP.out.n1 HP.out.n2).mono ?_
              rintro e w7 h5
              obtain ⟨ra, da, rb, db, rfl, o1, o2, hg⟩ := RunMRes.open h5
              have hga := World.grownBy_alloc w7 (.cells #[.int .i64 at2, .slice (some ⟨ra, 0, none⟩) 4 da, .slice (some ⟨rb, 0, none⟩) 8 db] 29) none
              have hgg := grown_same hg hga
              have HG7 := shade (grown_same HP.out.low hgg)
              have hO := HP.out.o.grown hgg (by intro e; cases e)
              have HN3 := shade (nums_on HP.out.own.nums hgg); have HN4 := shade (nums_on HP.out.n4 hgg)
              have HA7 := shade (Holds5.fresh w7 29 #[.int .i64 at2, .slice (some ⟨ra, 0, none⟩) 4 da, .slice (some ⟨rb, 0, none⟩) 8 db])
              have HP7 := shade (nums_on o2.nums hga)
              obtain ⟨W7, hW7⟩ : ∃ W7, w7.alloc (.cells #[.int .i64 at2, .slice (some ⟨ra, 0, none⟩) 4 da, .slice (some ⟨rb, 0, none⟩) 8 db] 29) = W7 := ⟨_, rfl⟩
              clear h5 o1 o2 hg hga hgg q0 q1 q2 HP HR1
              go_upto_region 18 with (fail)
              rw [hW7] at HG7 hO HN3 HN4 HA7 HP7
              clear hW7
              have q0 := hO.look 0; have q1 := hO.look 1; have q2 := hO.look 2
              simp at q0 q1 q2
              clear hO
              go_wp2_with fail
              refine (HR2.out _ HG7.out HN3.out HN4.out).mono ?_
              rintro e w8 h5
              obtain ⟨r3a, d3a, r3b, d3b, rfl, o1, o2, hg⟩ := RunMRes.open h5
              have hga := World.grownBy_alloc w8 (.cells #[.int .i64 at3, .slice (some ⟨r3a, 0, none⟩) 4 d3a, .slice (some ⟨r3b, 0, none⟩) 8 d3b] 29) none
              have hgg := grown_same hg hga
              have HG8 := shade (grown_same HG7.out hgg)
              have HA8 := shade (HA7.out.grown hgg (by intro e; cases e))
              have HP8 := shade (nums_on HP7.out hgg)
              have HB8 := shade (Holds5.fresh w8 29 #[.int .i64 at3, .slice (some ⟨r3a, 0, none⟩) 4 d3a, .slice (some ⟨r3b, 0, none⟩) 8 d3b])
              have HQ8 := shade (nums_on o2.nums hga)
              obtain ⟨W8, hW8⟩ : ∃ W8, w8.alloc (.cells #[.int .i64 at3, .slice (some ⟨r3a, 0, none⟩) 4 d3a, .slice (some ⟨r3b, 0, none⟩) 8 d3b] 29) = W8 := ⟨_, rfl⟩
              clear h5 o1 o2 hg hga hgg q0 q1 q2 HG7 HA7 HP7 HN3 HN4 HR2
              go_upto_region 19 with (fail)
              rw [hW8] at HG8 HA8 HP8 HB8 HQ8
              clear hW8
              have q0 := HA8.out.look 0; have q1 := HA8.out.look 1; have q2 := HA8.out.look 2
              have p0 := HB8.out.look 0; have p1 := HB8.out.look 1; have p2 := HB8.out.look 2
              simp at q0 q1 q2 p0 p1 p2
              have hkk : ((K1 : Int) != (K1 : Int)) = false := by simp
              have hdd : (d != d) = false := by cases d <;> rfl
              have HEQ := shade (equalInts_any (some ⟨rb, 0, none⟩) (some ⟨r3b, 0, none⟩) db d3b 8 mm2 mm2 W8 (by omega) HP8.out HQ8.out (fun _ _ => rfl))
              clear HP8 HQ8 HA8 HB8
              go_wp2_with fail
              refine HEQ.out.mono ?_
              rintro e w9 ⟨rfl, m, rfl⟩
              have HG9 := shade (grown_drewN HG8.out m)
              have hT := HT.out
              subst hT
              go_wp2_with fail
              go_roundw
              case rel =>
                repeat apply Exists.intro
                refine ⟨⟨q + 1, by omega, ?_, HG9.out⟩, rfl⟩
                go_num
              case measure => simp [intOf]; omega
        · obtain rfl : q = 3 := by omega
          rw [show (4 : Int) * ((3 : Nat) : Int) = 12 from rfl]
          have s0 := (nums_on HV4.out HGW.out).cell (show k < k + 1 by omega)
          have s9 := HGX.out k
          have hz : f k = 0 := S4.ext s9.1 S4.zero (fun r hr => by
            rw [bt_zero, Bool.eq_false_iff, Ne, s9.2 r hr]
            exact need_end r)
          rw [hz] at s0
          clear s9 hz
          go_wp2_with fail
          go_ret
          exact ⟨rfl, below_of_grown (grown_same HL4.out HGW.out)⟩
end Go.Proofs.YtjeflaodeafhbaaDoor
