/- How many are in a set. -/
import Derived.Test.YtfckmechiochlaaDoorW841
namespace Go.Proofs.YtfckmechiochlaaDoor
open Go.RowKit
set_option linter.unusedSimpArgs false
/-- How many are in a set of eight. -/
def popc (s : Nat) : Nat := s % 2 + s / 2 % 2 + s / 4 % 2 + s / 8 % 2 + s / 16 % 2 + s / 32 % 2 + s / 64 % 2 + s / 128 % 2
theorem popc_half (s : Nat) (hs : s < 256) : popc s = s % 2 + popc (s / 2) := by
  unfold popc
  omega
theorem popc_le (s : Nat) : popc s ≤ 8 := by
  unfold popc
  omega
theorem OnesCount64_any (s : Nat) (w : World) (hs : s < 256) : Calls Tryd.prog 102 #[.int .u64 s] w fun e w' => e = .returned (.int .i64 (popc s : Nat)) ∧ w = w' := by
  go_enter Tryd.func102, Tryd.ntmps102
  go_wp2
  go_ret
  refine ⟨congrArg (fun z => Ending.returned (.int .i64 z)) ?_, rfl⟩
  clear w
  revert hs
  revert s
  decide +kernel
theorem OnesCount_any (s : Nat) (w : World) (hs : s < 256) : Calls Tryd.prog 81 #[.int .u64 s] w fun e w' => e = .returned (.int .i64 (popc s : Nat)) ∧ w = w' := by
  have h64 := OnesCount64_any s
  go_enter Tryd.func81, Tryd.ntmps81
  go_wp2_with (first
    | (go_at_call 102; refine (h64 _ hs).mono ?_; rintro e w' ⟨rfl, rfl⟩)
    | go_in)
  go_ret
  exact ⟨rfl, rfl⟩
theorem size_any (s : Nat) (w : World) (hs : s < 256) : Calls Tryd.prog 49 #[.int .i64 s] w fun e w' => e = .returned (.int .i64 (popc s : Nat)) ∧ w = w' := by
  have hc := OnesCount_any s
  go_enter Tryd.func49, Tryd.ntmps49
  go_wp2_with (first
    | (go_at_call 81; refine (hc _ hs).mono ?_; rintro e w' ⟨rfl, rfl⟩)
    | go_in)
  go_ret
  exact ⟨rfl, rfl⟩
theorem ones_any (s : Nat) (w : World) (hs : s < 256) : Calls Tryd.prog 83 #[.int .i64 s] w fun e w' => e = .returned (.int .i64 (popc s : Nat)) ∧ w = w' := by
  go_enter Tryd.func83, Tryd.ntmps83
  go_wp2
  go_loopw [0, 3] (fun x n wr => ∃ (y k : Nat), y < 256 ∧ x = .int .i64 (y : Int) ∧ n = .int .i64 (k : Int) ∧ k + popc y = popc s ∧ w = wr) (fun x _ _ => (intOf x).toNat)
  case atStart => exact ⟨s, 0, hs, rfl, rfl, by omega, rfl⟩
  case round =>
    obtain ⟨y, k, hy, rfl, rfl, hk, rfl⟩ := hrel
    by_cases h0 : 0 < y
    · have hh := popc_half y hy
      have hp := popc_le s
      have HK := shade (show k + y % 2 + popc (y / 2) = popc s by omega)
      have hkb : k ≤ 8 := by omega
      clear hk hh hp
      go_wp2
      go_roundw
      case rel => exact ⟨y / 2, k + y % 2, by omega, by go_num, by go_num, HK.out, trivial⟩
      case measure => simp [intOf]; omega
    · obtain rfl : y = 0 := by omega
      have e : k = popc s := by
        have : popc 0 = 0 := rfl
        omega
      subst e
      go_wp2
      go_ret
      exact ⟨rfl, rfl⟩
end Go.Proofs.YtfckmechiochlaaDoor
