/- Rows of numbers compared by the laws. -/
import Derived.Test.YtblnchcgeepemaaDoorW400d
import Derived.Deep.QuietTactic
import Derived.BigQuiet
import Derived.IntWalk
namespace Go.Proofs.YtblnchcgeepemaaDoor
open Go.RowKit
set_option linter.unusedSimpArgs false
theorem equalInts_zero (A1 A2 : Option Addr) (c1 c2 : Nat) (w : World) :
    Calls Tryd.prog 7 #[.slice A1 0 c1, .slice A2 0 c2] w fun e w' => e = .returned (.bool true) ∧ ∃ m : Nat, w.drewN m = w' := by
  go_enter Tryd.func7, Tryd.ntmps7
  go_wp2
  refine wp_loop_rounds 1 ?_
  rw [rounds_succ]
  go_wp2
  go_ret
  exact ⟨rfl, 0, rfl⟩
set_option maxHeartbeats 1000000 in
theorem equalInts_at (b1 o1 b2 o2 c1 c2 n : Nat) (f g : Nat → Int) (w : World) (hn : n ≤ 9223372036854775807) (h1 : Nums w (some ⟨b1, o1, none⟩) n f) (h2 : Nums w (some ⟨b2, o2, none⟩) n g) (he : ∀ j, j < n → f j = g j) :
    Calls Tryd.prog 7 #[.slice (some ⟨b1, o1, none⟩) n c1, .slice (some ⟨b2, o2, none⟩) n c2] w fun e w' => e = .returned (.bool true) ∧ ∃ m : Nat, w.drewN m = w' := by
  have H1 := shade h1
  have H2 := shade h2
  have HE := shade he
  clear h1 h2 he
  go_enter Tryd.func7, Tryd.ntmps7
  go_wp2
  go_loopw [5] (fun i wr => ∃ k m : Nat, k ≤ n ∧ i = .int .i64 k ∧ wr = w.drewN m) (fun i _ => n - (intOf i).toNat)
  case atStart => exact ⟨0, 0, Nat.zero_le _, rfl, rfl⟩
  case round =>
    obtain ⟨k, m, hk, rfl, rfl⟩ := hrel
    by_cases hkn : k < n
    · have q1 := H1.out.cell hkn
      have q2 := H2.out.cell hkn
      rw [HE.out k hkn] at q1
      go_wp2
      go_quiet (fail)
      go_wp2
      go_roundw
      case rel => exact ⟨k + 1, _, by omega, by go_num, rfl⟩
      case measure => simp [intOf]; omega
    · have hkn2 : k = n := by omega
      subst hkn2
      go_wp2
      go_ret
      exact ⟨rfl, m, rfl⟩
theorem equalInts_any (A1 A2 : Option Addr) (c1 c2 n : Nat) (f g : Nat → Int) (w : World) (hn : n ≤ 9223372036854775807) (h1 : Nums w A1 n f) (h2 : Nums w A2 n g) (he : ∀ j, j < n → f j = g j) :
    Calls Tryd.prog 7 #[.slice A1 n c1, .slice A2 n c2] w fun e w' => e = .returned (.bool true) ∧ ∃ m : Nat, w.drewN m = w' := by
  by_cases h0 : n = 0
  · subst h0
    exact equalInts_zero A1 A2 c1 c2 w
  · obtain ⟨b1, o1, rfl, _⟩ := h1.resolve_left h0
    obtain ⟨b2, o2, rfl, _⟩ := h2.resolve_left h0
    exact equalInts_at b1 o1 b2 o2 c1 c2 n f g w hn h1 h2 he


theorem equalInts_row (lo1 hi1 lo2 hi2 K : Nat) (v1 v2 : Value) (f : Nat → Int) (w : World) (hK : K ≤ 300) (h1 : RowO w lo1 hi1 3 v1 K (numL K f)) (h2 : RowO w lo2 hi2 3 v2 K (numL K f)) :
    Calls Tryd.prog 7 #[v1, v2] w fun e w' => e = .returned (.bool true) ∧ w.grownBy w' none := by
  obtain ⟨A1, c1, rfl, hn1⟩ := h1.nums
  obtain ⟨A2, c2, rfl, hn2⟩ := h2.nums
  refine (equalInts_any A1 A2 c1 c2 K f f w (by omega) hn1 hn2 (fun _ _ => rfl)).mono ?_
  rintro e w' ⟨rfl, m, rfl⟩
  exact ⟨rfl, grown_drewN (grown_refl _ _) _⟩
end Go.Proofs.YtblnchcgeepemaaDoor
