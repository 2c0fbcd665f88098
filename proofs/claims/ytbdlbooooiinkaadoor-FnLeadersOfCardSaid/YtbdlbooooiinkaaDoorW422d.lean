/- NextOf answers as its model for the drawn program and number, and what comes next is in the program. -/
import Derived.Test.YtbdlbooooiinkaaDoorW421d
import Derived.Test.YtbdlbooooiinkaaDoorW440d
import Derived.Deep.QuietTactic
import Derived.BigQuiet
import Derived.IntWalk
namespace Go.Proofs.YtbdlbooooiinkaaDoor
open Go.RowKit
set_option linter.unusedSimpArgs false
theorem equalInts_rows (lo1 hi1 lo2 hi2 K : Nat) (v1 v2 : Value) (f : Nat → Int) (w : World) (hK : K ≤ 300) (h1 : RowO w lo1 hi1 3 v1 K (numL K f)) (h2 : RowO w lo2 hi2 3 v2 K (numL K f)) :
    Calls Tryd.prog 18 #[v1, v2] w fun e w' => e = .returned (.bool true) ∧ w.grownBy w' none := by
  obtain ⟨A1, c1, rfl, hn1⟩ := h1.nums
  obtain ⟨A2, c2, rfl, hn2⟩ := h2.nums
  refine (equalInts_any A1 A2 c1 c2 K f f w (by omega) hn1 hn2 (fun _ _ => rfl)).mono ?_
  rintro e w' ⟨rfl, m, rfl⟩
  exact ⟨rfl, grown_drewN (grown_refl _ _) _⟩
theorem nums_on {w w' : World} {A : Option Addr} {n : Nat} {f : Nat → Int} (h : Nums w A n f) (hg : w.grownBy w' none) : Nums w' A n f := h.grown hg (by intro _ _ _ e; cases e)
theorem NumRes.num {k : Nat} {f : Nat → Int} {w w' : World} {e : Ending} (h : NumRes k f w e w') : ∃ A c, e = .returned (.slice A k c) ∧ Nums w' A k f ∧ RowO w' w.heap.size w'.heap.size 3 (.slice A k c) k (numL k f) ∧ w.grownBy w' none := by
  obtain ⟨v, rfl, hR, hg⟩ := NumRes.row h
  obtain ⟨A, c, rfl, hn⟩ := hR.nums
  exact ⟨A, c, rfl, hn, hR, hg⟩
/-- What is told of what comes next. -/
theorem nxA_told (n : Nat) (F : Nat → Ins) (i : Int) : (nxA n F i).length ≤ 2 ∧ (∀ j, j < (nxA n F i).length → 0 ≤ (nxA n F i).getD j 0 ∧ (nxA n F i).getD j 0 ≤ n) ∧ ((nxA n F i).length = 2 → (nxA n F i).getD 0 0 = i + 1 ∧ (nxA n F i).getD 1 0 ≠ i + 1) := by
  refine ⟨nxA_le n F i, ?_⟩
  unfold nxA
  split
  · rename_i h
    obtain ⟨hv, h0, h1⟩ := h
    refine ⟨fun j hj => ?_, fun h2 => ?_⟩
    · obtain ⟨y, e, hy⟩ := nx_in (x := i.toNat) (z := (nxI (F i.toNat) i.toNat).getD j 0) hv (by omega) (by rw [List.getD_eq_getElem?_getD, List.getElem?_eq_getElem hj]; exact List.getElem_mem _)
      rw [e]
      omega
    · have ei : ((i.toNat : Nat) : Int) = i := Int.toNat_of_nonneg h0
      unfold nxI at h2 ⊢
      rw [ei] at h2 ⊢
      split at h2
      · cases h2
      · rename_i h9
        rw [if_neg h9]
        split at h2
        · cases h2
        · rename_i h8
          rw [if_neg h8]
          split at h2
          · rename_i h7
            rw [if_pos h7]
            split at h2
            · cases h2
            · rename_i hk
              rw [if_neg hk]
              refine ⟨rfl, fun e => hk ?_⟩
              have e' : (F i.toNat).k = i + 1 := e
              rw [e']
              exact beq_self_eq_true _
          · cases h2
  · exact ⟨(fun j hj => absurd hj (Nat.not_lt_zero j)), (fun h => absurd h (by simp))⟩
set_option maxRecDepth 100000 in
set_option maxHeartbeats 8000000 in
theorem fnNextOf_walk (A : Option Addr) (n cap : Nat) (zs : List Int) (w : World) (hg : WT w) (hB : Bys w A n cap zs) :
    Calls Tryd.prog 5 #[.slice A n cap] w fun e w' => e = .returned (.bool true) ∧ Below w.heap.size w w' := by
  have HG := shade hg
  have HBy := shade hB
  have hcap := hB.fits
  have hbig := hB.big
  unfold maxLen at hbig
  clear hg hB
  by_cases hl : 1048576 < n
  · go_enter Tryd.func5, Tryd.ntmps5
    go_wp2_with fail
    go_ret
    exact ⟨rfl, rfl, rfl, rfl, Nat.le_refl _, fun _ _ => rfl⟩
  · have HD := shade (DrawNextOf_any A n cap zs w HBy.out)
    go_enter Tryd.func5, Tryd.ntmps5
    go_wp2_with fail
    refine HD.out.mono ?_
    rintro e w1 ⟨Al, k, c, F, i, rfl, hk, hC, ⟨hi0, hi1⟩, hgr⟩
    obtain ⟨ht1, ht2, ht3⟩ := nxA_told k F i
    have HIM := shade (fun W (hW : WT W) (hc : Code W Al k F) => (INextOf_any Al k c F i W hW (by omega) hc).mono fun _ _ h => h.num)
    have HSP := shade (fun W (hc : Code W Al k F) => (SNextOf_any Al k c F i W (by omega) hc).mono fun _ _ h => h.num)
    obtain ⟨l0, hl0⟩ : ∃ l0, nxA k F i = l0 := ⟨_, rfl⟩
    rw [hl0] at HIM HSP ht1 ht2 ht3
    clear hl0
    have HT2 := shade ht2
    have HT3 := shade ht3
    have HC := shade hC
    have HL := shade hgr
    clear hC hgr HD ht2 ht3
    go_wp2_with fail
    refine (HIM.out _ (HG.out.below (below_of_grown HL.out) (wt_lt HG.out)) HC.out).mono ?_
    rintro e w2 h5
    obtain ⟨A5, c5, rfl, hN, hR, hgr⟩ := h5.num
    have HC2 := shade (HC.out.on hgr); have HL2 := shade (grown_same HL.out hgr); have HV2 := shade hR; have HN2 := shade hN
    clear hgr hR hN h5 HC HL
    go_wp2_with fail
    refine (HSP.out _ HC2.out).mono ?_
    rintro e w3 h5
    obtain ⟨v1, rfl, hR, hgr⟩ := NumRes.row h5
    have HC3 := shade (HC2.out.on hgr); have HL3 := shade (grown_same HL2.out hgr); have HV3 := shade (HV2.out.grown hgr); have HW3 := shade hR; have HN3 := shade (nums_on HN2.out hgr)
    clear hgr hR h5 HC2 HL2 HV2 HN2
    go_wp2_with fail
    refine (equalInts_rows _ _ _ _ _ _ _ _ _ (by omega) HV3.out HW3.out).mono ?_
    rintro e w4 ⟨rfl, hgr⟩
    have HC4 := shade (HC3.out.on hgr); have HL4 := shade (grown_same HL3.out hgr); have HV4 := shade (HV3.out.grown hgr); have HN4 := shade (nums_on HN3.out hgr)
    clear hgr HC3 HL3 HV3 HW3 HN3
    by_cases h0 : l0.length = 0
    · have h0b : ((l0.length : Int) == 0) = true := by rw [h0]; rfl
      clear h0
      go_wp2_with fail
      refine (HSP.out _ HC4.out).mono ?_
      rintro e w5 h5
      obtain ⟨v2, rfl, hR, hgr⟩ := NumRes.row h5
      have HL5 := shade (grown_same HL4.out hgr); have HV5 := shade (HV4.out.grown hgr); have HW5 := shade hR
      clear hgr hR h5
      go_wp2_with fail
      refine (equalInts_rows _ _ _ _ _ _ _ _ _ (by omega) HV5.out HW5.out).mono ?_
      rintro e w6 ⟨rfl, hgr⟩
      have HL6 := shade (grown_same HL5.out hgr)
      clear hgr
      go_wp2_with fail
      go_ret
      exact ⟨rfl, below_of_grown HL6.out⟩
    · have h0b : ((l0.length : Int) == 0) = false := by rw [beq_eq_false_iff_ne]; omega
      obtain ⟨b5, o5, rfl, -⟩ := HN4.out.resolve_left h0
      clear HV4 HC4 HSP HIM
      go_wp2_with fail
      go_loopw [6] (fun r wr => ∃ j m : Nat, j ≤ l0.length ∧ r = .int .i64 (j : Int) ∧ wr = w4.drewN m) (fun r _ => l0.length - (intOf r).toNat)
      case atStart => exact ⟨0, 0, Nat.zero_le _, rfl, rfl⟩
      case round =>
        obtain ⟨j, m, hj, rfl, rfl⟩ := hrel
        by_cases hjl : j < l0.length
        · have y0 := HN4.out.cell hjl
          obtain ⟨z0, z1⟩ := HT2.out j hjl
          generalize l0.getD j 0 = z at *
          go_wp2_with fail
          try (go_quiet (fail); go_wp2_with fail)
          go_roundw
          case rel => exact ⟨j + 1, _, by omega, by go_num, rfl⟩
          case measure => simp [intOf]; omega
        · obtain rfl : j = l0.length := by omega
          by_cases h1 : l0.length = 1
          · have b1 : decide ((l0.length : Int) ≤ 2) = true := decide_eq_true (by omega)
            have b2 : decide ((l0.length : Int) < 2) = true := decide_eq_true (by omega)
            clear h0 h1 h0b ht1
            go_wp2_with fail
            go_quiet (fail)
            go_wp2_with fail
            go_ret
            exact ⟨rfl, below_of_grown (grown_drewN (grown_drewN HL4.out _) _)⟩
          · have h2 : l0.length = 2 := by omega
            obtain ⟨e1, e2⟩ := HT3.out h2
            have y0 := HN4.out.cell (show 0 < l0.length by omega)
            have y1 := HN4.out.cell (show 1 < l0.length by omega)
            rw [e1, Nat.add_zero] at y0
            obtain ⟨z, hz⟩ : ∃ z, l0.getD 1 0 = z := ⟨_, rfl⟩
            rw [hz] at e2 y1
            have b1 : decide ((l0.length : Int) ≤ 2) = true := decide_eq_true (by omega)
            have b2 : decide ((l0.length : Int) < 2) = false := decide_eq_false (by omega)
            have b3 : ((i + 1) != z) = true := by rw [bne_iff_ne]; exact fun e => e2 e.symm
            clear h0 h1 h0b ht1 e1 e2 hz
            have hw : IntKind.i64.wrap (i + 1) = i + 1 := IntWalk.i64_in _ (by omega)
            go_wp2_with fail
            go_quiet (fail)
            go_wp2_with fail
            go_ret
            exact ⟨rfl, below_of_grown (grown_drewN (grown_drewN HL4.out _) _)⟩
end Go.Proofs.YtbdlbooooiinkaaDoor
