/- Wide instructions that are valid: the model's and the program's answer, for every slice. -/
import Derived.Test.YtehjfnfpebdidaaDoorW811
namespace Go.Proofs.YtehjfnfpebdidaaDoor
open Go.RowKit
set_option linter.unusedSimpArgs false
theorem validWide_any (A : Option Addr) (n c : Nat) (f : Nat → Wid) (w : World) (hn : n ≤ 9223372036854775807) (h : Wds w A n f) :
    Calls Tryd.prog 24 #[.slice A n c] w fun e w' => e = .returned (.bool (vwB n f)) ∧ w.grownBy w' none := by
  by_cases h0 : n = 0
  · subst h0
    exact validWide_zero A c f w
  · obtain ⟨b, off, rfl, _⟩ := h.resolve_left h0
    exact validWide_at b off n c f w hn h
theorem ValidWide_big (A : Option Addr) (n c : Nat) (w : World) (h : 8 < n) (hn : n ≤ 9223372036854775807) :
    Calls Tryd.prog 10 #[.slice A n c] w fun e w' => e = .returned (.bool false) ∧ w.grownBy w' none := by
  go_enter Tryd.func10, Tryd.ntmps10
  go_wp2
  go_ret
  exact ⟨rfl, World.grownBy.refl _ _⟩
theorem ValidWide_zero (A : Option Addr) (c : Nat) (w : World) :
    Calls Tryd.prog 10 #[.slice A 0 c] w fun e w' => e = .returned (.bool true) ∧ w.grownBy w' none := by
  go_enter Tryd.func10, Tryd.ntmps10
  go_wp2
  refine wp_loop_rounds 1 ?_
  rw [rounds_succ]
  go_wp2
  go_ret
  exact ⟨rfl, World.grownBy.refl _ _⟩
set_option maxHeartbeats 8000000 in
theorem ValidWide_at (b off n c : Nat) (f : Nat → Wid) (w : World) (hg : WT w) (hn : n ≤ 8) (h : Wds w (some ⟨b, off, none⟩) n f) :
    Calls Tryd.prog 10 #[.slice (some ⟨b, off, none⟩) n c] w fun e w' => e = .returned (.bool (vwB n f)) ∧ w.grownBy w' none := by
  have H := shade h
  have HG := shade hg
  clear h hg
  go_enter Tryd.func10, Tryd.ntmps10
  go_wp2
  go_loopw [10] (fun i wr => ∃ k : Nat, k ≤ n ∧ i = .int .i64 k ∧ (∀ j, j < k → okW j (f j) = true) ∧ w.grownBy wr none) (fun i _ => n - (intOf i).toNat)
  case atStart => exact ⟨0, Nat.zero_le _, rfl, fun j hj => absurd hj (by omega), World.grownBy.refl _ _⟩
  case round =>
    obtain ⟨k, hk, rfl, hall, hgr⟩ := hrel
    have HA := shade hall
    clear hall
    by_cases hkn : k < n
    · obtain ⟨q0, q1, q2, q3⟩ := (H.out.on hgr).four hkn
      have HR := shade hgr
      clear hgr
      generalize hc : f k = cc at *
      obtain ⟨op, a, b', kk⟩ := cc
      simp only [] at q0 q1 q2 q3
      have HC := shade hc
      clear hc
      have HN := shade (fun (h : okW k (f k) = true) j (hj : j < k + 1) => show okW j (f j) = true by
        by_cases e : j = k
        · rw [e]; exact h
        · exact HA.out j (by omega))
      have HW := shade (isWide_any op a b' kk k)
      rw [← HC.out] at HW
      go_wp2_with fail
      refine (HW.out _ ((HG.out.below (below_of_grown HR.out) (wt_lt HG.out)).alloc _)).mono ?_
      rintro e w2 ⟨rfl, hg2⟩
      have HR2 := shade (grown_same (grown_alloc HR.out _) hg2)
      clear hg2
      rcases ho : okW k (f k) with _ | _
      · have HO := shade ho
        clear ho
        go_wp2
        go_ret
        exact ⟨ret_b (vwB_no hkn HO.out).symm, HR2.out⟩
      · have HO := shade ho
        clear ho
        go_wp2
        go_roundw
        case rel => exact ⟨k + 1, by omega, by go_num, HN.out HO.out, HR2.out⟩
        case measure => simp [intOf]; omega
    · have hkn2 : k = n := by omega
      subst hkn2
      have HR := shade hgr
      clear hgr
      go_wp2
      go_ret
      exact ⟨ret_b (by rw [vwB_all HA.out]; exact (decide_eq_true hn).symm), HR.out⟩
theorem ValidWide_any (A : Option Addr) (n c : Nat) (f : Nat → Wid) (w : World) (hg : WT w) (hn : n ≤ 9223372036854775807) (h : Wds w A n f) :
    Calls Tryd.prog 10 #[.slice A n c] w fun e w' => e = .returned (.bool (vwB n f)) ∧ w.grownBy w' none := by
  by_cases hb : 8 < n
  · rw [vwB_big hb]
    exact ValidWide_big A n c w hb hn
  by_cases h0 : n = 0
  · subst h0
    exact ValidWide_zero A c w
  · obtain ⟨b, off, rfl, _⟩ := h.resolve_left h0
    exact ValidWide_at b off n c f w hg (by omega) h
end Go.Proofs.YtehjfnfpebdidaaDoor
