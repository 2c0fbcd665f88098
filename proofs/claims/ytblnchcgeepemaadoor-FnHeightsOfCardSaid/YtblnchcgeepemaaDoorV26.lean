/- HeightsOf answers as its model for what is drawn; they are at least the ticks, and at least what one waits and the number of this one. -/
import Derived.Test.YtblnchcgeepemaaDoorV16
import Derived.Test.YtblnchcgeepemaaDoorV25
import Derived.Test.YtblnchcgeepemaaDoorW997
import Derived.Test.YtblnchcgeepemaaDoorW25
namespace Go.Proofs.YtblnchcgeepemaaDoor
open Go.RowKit
set_option linter.unusedSimpArgs false
theorem Rws.cell {wr : World} {lo hi g K c : Nat} {AS : Nat → Value} {len : Nat → Nat} {R : Nat → Nat → Int} (h : Rws wr lo hi (.slice (some ⟨g, 0, none⟩) K c) K AS len R) {j : Nat} (hj : j < K) : wr.cell? ⟨g, j, none⟩ = some (AS j) := by
  have := World.ownsRow.cellAt h.out.own j (by omega)
  rw [this]
  simp [hj]
theorem hgt_tick (F : Nat → Ins) (n i : Nat) : latF F i ≤ hgt F n i := (hgt_le.1 (Int.le_refl _)).1
theorem hgt_wait (F : Nat → Ins) {n i k : Nat} (hk : k < n) (hi : i < k) (h : 0 < wtR F k i) : wtR F k i + hgt F n k ≤ hgt F n i := (hgt_le.1 (Int.le_refl _)).2 k hk hi h
theorem wtR_rng (F : Nat → Ins) (k i : Nat) : 0 ≤ wtR F k i ∧ wtR F k i ≤ 3 := wtI_rng (F i) (F k)
theorem latF_rng26 (F : Nat → Ins) (j : Nat) : 1 ≤ latF F j ∧ latF F j ≤ 3 := lat_rng (F j).op.toList
theorem tk_lat {F : Nat → Ins} {j : Nat} (h : vI (F j) = true) : tkI (F j) = latF F j := by
  unfold tkI
  rw [h]
  rfl
set_option maxRecDepth 100000 in
set_option maxHeartbeats 8000000 in
theorem fnHeightsOf_walk (A : Option Addr) (n cap : Nat) (zs : List Int) (w : World) (hg : WT w) (hB : Bys w A n cap zs) :
    Calls Tryd.prog 3 #[.slice A n cap] w fun e w' => e = .returned (.bool true) ∧ Below w.heap.size w w' := by
  have HG := shade hg
  have HBy := shade hB
  have hcap := hB.fits
  have hbig := hB.big
  unfold maxLen at hbig
  clear hg hB
  by_cases hl : 1048576 < n
  · go_enter Tryd.func3, Tryd.ntmps3
    go_wp2
    go_ret
    exact ⟨rfl, by go_grown⟩
  · have HD := shade (DrawHeightsOf_any A n cap zs w HBy.out)
    go_enter Tryd.func3, Tryd.ntmps3
    go_wp2_with fail
    refine HD.out.mono ?_
    rintro e w1 ⟨g', k, c, F, rfl, hk, hkc, hC, hgr⟩
    have HG1 := shade hgr; have HC := shade hC
    clear hgr hC HD HBy
    have HW := shade (fun W (hg : w.grownBy W none) => HG.out.below (below_of_grown hg) (wt_lt HG.out))
    have HIM := shade (fun W (hg : w1.grownBy W none) (hw : w.grownBy W none) => IHeightsOf_any (some ⟨g', 0, none⟩) k c F W (HW.out W hw) (by omega) hkc (HC.out.on hg))
    have HSP := shade (fun W (hg : w1.grownBy W none) => SHeightsOf_any (some ⟨g', 0, none⟩) k c F W (by omega) (HC.out.on hg))
    have HWA := shade (fun W (hg : w1.grownBy W none) (hw : w.grownBy W none) => IWaitsOf_any (some ⟨g', 0, none⟩) k c F W (HW.out W hw) (by omega) hkc (HC.out.on hg))
    by_cases hK : nB k F = 0
    · rw [hK] at HIM HSP
      clear HWA hK
      go_wp2_with fail
      refine (HIM.out _ (grown_refl _ _) HG1.out).mono ?_
      rintro e w2 h2
      obtain ⟨v, rfl, hR, hg2⟩ := NumRes.row h2
      obtain ⟨A2, c2, rfl, -⟩ := hR.nums
      have HR2 := shade hR; have HG2 := shade hg2
      clear h2 hR hg2
      go_wp2_with fail
      refine (HSP.out _ HG2.out).mono ?_
      rintro e w3 h3
      obtain ⟨v, rfl, hR, hg3⟩ := NumRes.row h3
      obtain ⟨A3, c3, rfl, -⟩ := hR.nums
      have HR3 := shade hR; have HR2 := shade (HR2.out.grown hg3); have HG3 := shade (grown_same HG2.out hg3)
      clear h3 hR hg3
      go_wp2_with fail
      refine (equalInts_row _ _ _ _ 0 _ _ _ _ (by omega) HR2.out HR3.out).mono ?_
      rintro e w4 ⟨rfl, hg4⟩
      have HG4 := shade (grown_same HG3.out hg4); have HR2 := shade (HR2.out.grown hg4)
      clear hg4
      go_wp2_with fail
      refine (HSP.out _ HG4.out).mono ?_
      rintro e w5 h5
      obtain ⟨v, rfl, hR, hg5⟩ := NumRes.row h5
      obtain ⟨A5, c5, rfl, -⟩ := hR.nums
      have HR5 := shade hR; have HR2 := shade (HR2.out.grown hg5); have HG5 := shade (grown_same HG4.out hg5)
      clear h5 hR hg5
      go_wp2_with fail
      refine (equalInts_row _ _ _ _ 0 _ _ _ _ (by omega) HR2.out HR5.out).mono ?_
      rintro e w6 ⟨rfl, hg6⟩
      have HG6 := shade (grown_same HG5.out hg6)
      clear hg6
      go_wp2_with fail
      go_ret
      exact ⟨rfl, below_of_grown (grown_same HG1.out HG6.out)⟩
    · have hv : blB k F = true := by
        rcases hv : blB k F with _ | _
        · rw [nB_no hv] at hK
          exact absurd rfl hK
        · rfl
      rw [nB_yes hv] at HIM HSP HWA hK
      have HV := shade (fun j (hj : j < k) => blI_v (blB_at hv hj))
      have hkp : 0 < k := by omega
      have e0 : ((k : Int) == 0) = false := beq_eq_false_iff_ne.2 (by omega)
      clear hv
      go_wp2_with fail
      refine (HIM.out _ (grown_refl _ _) HG1.out).mono ?_
      rintro e w2 h2
      obtain ⟨v, rfl, hR, hg2⟩ := NumRes.row h2
      obtain ⟨A2, c2, rfl, -⟩ := hR.nums
      have HR2 := shade hR; have HG2 := shade hg2
      clear h2 hR hg2
      go_wp2_with fail
      refine (HSP.out _ HG2.out).mono ?_
      rintro e w3 h3
      obtain ⟨v, rfl, hR, hg3⟩ := NumRes.row h3
      obtain ⟨A3, c3, rfl, -⟩ := hR.nums
      have HR3 := shade hR; have HR2 := shade (HR2.out.grown hg3); have HG3 := shade (grown_same HG2.out hg3)
      clear h3 hR hg3
      go_wp2_with fail
      refine (equalInts_row _ _ _ _ k _ _ _ _ (by omega) HR2.out HR3.out).mono ?_
      rintro e w4 ⟨rfl, hg4⟩
      have HG4 := shade (grown_same HG3.out hg4); have HR2 := shade (HR2.out.grown hg4)
      clear hg4
      go_wp2_with fail
      refine (HWA.out _ HG4.out (grown_same HG1.out HG4.out)).mono ?_
      rintro e w5 h5
      obtain ⟨v, AS, rfl, hR, hg5⟩ := RwsRes.row h5
      obtain ⟨A5, c5, rfl, hs⟩ := hR.shape
      obtain ⟨g5, rfl, -⟩ := hs.resolve_left (by omega)
      have HG5 := shade (grown_same HG4.out hg5)
      obtain ⟨A2', c2', e2, hN⟩ := (HR2.out.grown hg5).nums
      injection e2 with ea eb ec
      subst ea ec
      obtain ⟨b2, o2, rfl, -⟩ := hN.resolve_left (by omega)
      have HN := shade hN; have HRS := shade hR
      clear h5 hR hg5 hN HR2 HR3 HIM HSP HWA HG2 HG3 HG4
      go_wp2_with fail
      go_loopw [6] (fun u wr => ∃ q : Nat, q ≤ k ∧ u = .int .i64 (q : Int) ∧ w5.grownBy wr none) (fun u _ => k - (intOf u).toNat)
      case atStart => exact ⟨0, Nat.zero_le _, rfl, grown_refl _ _⟩
      case round =>
        obtain ⟨q, hq, rfl, hgw⟩ := hrel
        have HGW := shade hgw
        clear hgw
        by_cases hqk : q < k
        · go_wp2_with fail
          go_loopw [7] (fun u wq => ∃ i m : Nat, i ≤ q ∧ u = .int .i64 (i : Int) ∧ wq = wr.drewN m) (fun u _ => q - (intOf u).toNat)
          case atStart => exact ⟨0, 0, Nat.zero_le _, rfl, rfl⟩
          case round =>
            obtain ⟨i, m, hi, rfl, rfl⟩ := hrel
            have HGM := shade (grown_same HGW.out (grown_drewN (grown_refl wr none) m))
            by_cases hiq : i < q
            · have hrr := HRS.out.grown HGW.out
              have c0 := hrr.cell hqk
              obtain ⟨B1, d1, f1, nb⟩ := hrr.nums hqk
              obtain ⟨bb, bo, rfl, -⟩ := nb.resolve_left (show ¬ lnW q = 0 by unfold lnW; omega)
              have c1 := nb.cell (show i < lnW q from hiq)
              have hNW := HN.out.grown HGW.out (by intro _ _ _ e; cases e)
              have x1 := hNW.cell (show i < k by omega)
              have x2 := hNW.cell hqk
              rw [f1] at c0
              have hr1 := wtR_rng F q i
              have hr2 := hgt_rng F hk i
              have hr3 := hgt_rng F hk q
              have hw1 := hgt_wait F (n := k) hqk hiq
              obtain ⟨x, hx⟩ : ∃ x, wtR F q i = x := ⟨_, rfl⟩
              obtain ⟨y, hy⟩ : ∃ y, hgt F k i = y := ⟨_, rfl⟩
              obtain ⟨z, hz⟩ : ∃ z, hgt F k q = z := ⟨_, rfl⟩
              rw [hx] at c1 hr1
              rw [hx, hy, hz] at hw1
              rw [hy] at x1 hr2
              rw [hz] at x2 hr3
              have hwz : IntKind.i64.wrap (x + z) = x + z := by rw [IntKind.wrap_i64]; omega
              have i0 : (i : Int) < (q : Int) := by omega
              have i1 : (0 : Int) ≤ (i : Int) := by omega
              have i2 : (i : Int) < (lnW q : Int) := by unfold lnW; omega
              have i3 : (i : Int) < (k : Int) := by omega
              have i4 : (0 : Int) ≤ (q : Int) := by omega
              have i5 : (q : Int) < (k : Int) := by omega
              clear hrr nb f1 hNW hx hy hz
              by_cases hx0 : 0 < x
              · have hw2 : ¬ y < x + z := by have := hw1 hx0; omega
                have hw3 : ¬ y < IntKind.i64.wrap (x + z) := by rw [hwz]; exact hw2
                go_wp2_with fail
                go_quiet (fail)
                go_wp2_with fail
                go_roundw
                case rel => exact ⟨i + 1, _, by omega, by go_num, rfl⟩
                case measure => simp [intOf]; omega
              · obtain rfl : x = 0 := by omega
                go_wp2_with fail
                go_quiet (fail)
                go_wp2_with fail
                go_roundw
                case rel => exact ⟨i + 1, _, by omega, by go_num, rfl⟩
                case measure => simp [intOf]; omega
            · obtain rfl : i = q := by omega
              have HTK := shade (fun W (hg : w.grownBy W none) => ITicksOf_any (F i).op (F i).d (F i).a (F i).b (F i).k W (HW.out W hg))
              have hr3 := hgt_rng F hk i
              have hlt := hgt_tick F k i
              have hlr := latF_rng26 F i
              have htl : tkI ⟨(F i).op, (F i).d, (F i).a, (F i).b, (F i).k⟩ = latF F i := tk_lat (HV.out i hqk)
              rw [htl] at HTK
              have HSS := shade (show ∀ W : World, w5.grownBy W none → W.cell? ⟨b2, o2 + i, none⟩ = some (.int .i64 (hgt F k i)) ∧ W.cell? ⟨g', i * 5, none⟩ = some (.string (F i).op) ∧ W.cell? ⟨g', i * 5 + 1, none⟩ = some (.int .i64 (F i).d) ∧ W.cell? ⟨g', i * 5 + 2, none⟩ = some (.int .i64 (F i).a) ∧ W.cell? ⟨g', i * 5 + 3, none⟩ = some (.int .i64 (F i).b) ∧ W.cell? ⟨g', i * 5 + 4, none⟩ = some (.int .i64 (F i).k) from fun W hg => by
                obtain ⟨q0, q1, q2, q3, q4⟩ := (HC.out.on (grown_same HG5.out hg)).five hqk
                simp only [Nat.zero_add] at q0 q1 q2 q3 q4
                exact ⟨(HN.out.grown hg (by intro _ _ _ e; cases e)).cell hqk, q0, q1, q2, q3, q4⟩)
              obtain ⟨z, hz⟩ : ∃ z, hgt F k i = z := ⟨_, rfl⟩
              obtain ⟨y, hy⟩ : ∃ y, latF F i = y := ⟨_, rfl⟩
              rw [hy] at HTK hlt hlr
              rw [hz] at HSS hr3 hlt
              have hzy : ¬ z < y := by omega
              have i4 : (0 : Int) ≤ (i : Int) := by omega
              have i5 : (i : Int) < (k : Int) := by omega
              have HGX := shade (grown_same HGM.out (grown_drew1 _))
              clear hz hy htl
              go_wp2_with fail
              go_region_held3 (fun w' => w'.cell? ⟨b2, o2 + i, none⟩ = some (.int .i64 z) ∧ w'.cell? ⟨g', i * 5, none⟩ = some (.string (F i).op) ∧ w'.cell? ⟨g', i * 5 + 1, none⟩ = some (.int .i64 (F i).d) ∧ w'.cell? ⟨g', i * 5 + 2, none⟩ = some (.int .i64 (F i).a) ∧ w'.cell? ⟨g', i * 5 + 3, none⟩ = some (.int .i64 (F i).b) ∧ w'.cell? ⟨g', i * 5 + 4, none⟩ = some (.int .i64 (F i).k))
                (exact HSS.out _ HGX.out)
                ((go_at_call 10; refine (HTK.out _ (grown_same HG1.out (grown_same HG5.out HGX.out))).mono ?_; rintro e w7 ⟨rfl, hg7⟩; have HGX := shade (grown_same HGX.out hg7); clear hg7))
              rename_i hHeld
              clear hHeld
              go_wp2_with fail
              go_roundw
              case rel => exact ⟨i + 1, by omega, by go_num, HGX.out⟩
              case measure => simp [intOf]; omega
        · obtain rfl : q = k := by omega
          go_wp2_with fail
          go_ret
          exact ⟨rfl, below_of_grown (grown_same HG1.out (grown_same HG5.out HGW.out))⟩
end Go.Proofs.YtblnchcgeepemaaDoor
