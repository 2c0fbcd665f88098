/- The laws' marks over slices of wide instructions. -/
import Derived.Test.YtehjfnfpebdidaaDoorW802
import Derived.Deep.RegionHeld3
namespace Go.Proofs.YtehjfnfpebdidaaDoor
open Go.RowKit
set_option linter.unusedSimpArgs false
theorem markWideS_zero (A : Option Addr) (c : Nat) (m : Int) (w : World) :
    Calls Tryd.prog 16 #[.slice A 0 c, .int .i64 m] w fun e w' => e = .returned (.int .i64 m) ∧ w = w' := by
  go_enter Tryd.func16, Tryd.ntmps16
  go_wp2
  refine wp_loop_rounds 1 ?_
  rw [rounds_succ]
  go_wp2
  go_ret
  exact ⟨rfl, rfl⟩
set_option maxHeartbeats 8000000 in
theorem markWideS_at (B g n cap : Nat) (f : Nat → Wid) (m : Int) (w : World) (hn : n ≤ 1048576) (hm0 : 0 < m) (hm : m ≤ 1000) (h : OwnW w B (some ⟨g, 0, none⟩) n cap f) :
    Calls Tryd.prog 16 #[.slice (some ⟨g, 0, none⟩) n cap, .int .i64 m] w fun e w' => e = .returned (.int .i64 (m + 4 * (n : Int))) ∧ (∃ f', OwnW w' B (some ⟨g, 0, none⟩) n cap f') ∧ w.grownBy w' (some g) := by
  have H := shade h
  clear h
  go_enter Tryd.func16, Tryd.ntmps16
  go_wp2
  go_loopw [1, 5] (fun q i wr => ∃ (k : Nat) (f : Nat → Wid), k ≤ n ∧ i = .int .i64 k ∧ q = .int .i64 (m + 4 * (k : Int)) ∧ OwnW wr B (some ⟨g, 0, none⟩) n cap f ∧ w.grownBy wr (some g)) (fun _ i _ => n - (intOf i).toNat)
  case atStart => exact ⟨0, f, Nat.zero_le _, rfl, by simp, H.out, ⟨rfl, rfl, rfl, Nat.le_refl _, fun _ _ _ => rfl⟩⟩
  case round =>
    clear H
    obtain ⟨k, f, hk, rfl, rfl, hown, hgr⟩ := hrel
    have HO := shade hown
    have HR := shade hgr
    clear hown hgr
    by_cases hkn : k < n
    · go_wp2_with fail
      refine (markText_any (m + 4 * (k : Int)) _ (by omega) (by omega)).mono ?_
      rintro e w2 ⟨s, rfl, hg⟩
      have ho : OwnW w2 B (some ⟨g, 0, none⟩) n cap f := World.ownsRow.kept HO.out hg (.inr (by
        show some g ≠ none
        simp))
      obtain ⟨p0, p1, p2, p3⟩ := ho.wds.four hkn
      have t0 := World.ownsRow.frozenAt ho (k * 4); have t1 := World.ownsRow.frozenAt ho (k * 4 + 1); have t2 := World.ownsRow.frozenAt ho (k * 4 + 2); have t3 := World.ownsRow.frozenAt ho (k * 4 + 3)
      simp only [Nat.zero_add] at p0 p1 p2 p3
      have HO2 := shade ho
      have HR2 := shade (grown_then_some HR.out hg)
      clear hg ho HO HR
      go_wp2_with fail
      go_roundw
      case rel =>
        refine ⟨k + 1, _, by omega, by go_num, by go_num, OwnW.put HO2.out k ⟨s, m + 4 * (k : Int) + 1, m + 4 * (k : Int) + 1 + 1, m + 4 * (k : Int) + 1 + 1 + 1⟩, ?_⟩
        exact grown_same (grown_same (grown_same (grown_same HR2.out (grown_set _ _ _)) (grown_set _ _ _)) (grown_set _ _ _)) (grown_set _ _ _)
      case measure => simp [intOf]; omega
    · have hkn2 : k = n := by omega
      subst hkn2
      go_wp2
      go_ret
      exact ⟨rfl, ⟨f, HO.out⟩, HR.out⟩
end Go.Proofs.YtehjfnfpebdidaaDoor
