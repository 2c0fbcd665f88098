/- The model's step: what it answers for each word, for a valid instruction and a machine of words. The model's StepMachine: it answers as stepB, stAt, stRegs and stMem say. -/
import Derived.Test.YtjeflaodeafhbaaDoorW70
import Derived.Test.YtjeflaodeafhbaaDoorG73
namespace Go.Proofs.YtjeflaodeafhbaaDoor
open Go.RowKit
set_option linter.unusedSimpArgs false


set_option maxHeartbeats 1000000 in
theorem compute_1 (a b : Int) (w : World) (a0 : 0 ≤ a) (a1 : a ≤ 255) (b0 : 0 ≤ b) (b1 : b ≤ 255) : Calls Tryd.prog 99 #[.string ⟨#[97, 100, 100]⟩, .int .i64 a, .int .i64 b] w fun e w' => e = .returned (.int .i64 ((a + b) % 256)) ∧ w = w' := by
  have hh := a0; have hh1 := a1; have hh2 := b0; have hh3 := b1
  go_enter Tryd.func99, Tryd.ntmps99
  go_wp2
  go_ret
  exact ⟨rfl, rfl⟩


set_option maxHeartbeats 1000000 in
theorem compute_2 (a b : Int) (w : World) (a0 : 0 ≤ a) (a1 : a ≤ 255) (b0 : 0 ≤ b) (b1 : b ≤ 255) : Calls Tryd.prog 99 #[.string ⟨#[115, 117, 98]⟩, .int .i64 a, .int .i64 b] w fun e w' => e = .returned (.int .i64 ((a - b) % 256)) ∧ w = w' := by
  have hh := a0; have hh1 := a1; have hh2 := b0; have hh3 := b1
  have hq : (a - b + 256) % 256 = (a - b) % 256 := by omega
  have HQ := shade hq
  clear hq
  go_enter Tryd.func99, Tryd.ntmps99
  go_wp2
  refine bodyPost_ret (results_tmp rfl _ _ _) rfl ⟨?_, rfl⟩
  rw [← HQ.out]
  rfl


set_option maxHeartbeats 1000000 in
theorem compute_3 (a b : Int) (w : World) (a0 : 0 ≤ a) (a1 : a ≤ 255) (b0 : 0 ≤ b) (b1 : b ≤ 255) : Calls Tryd.prog 99 #[.string ⟨#[109, 117, 108]⟩, .int .i64 a, .int .i64 b] w fun e w' => e = .returned (.int .i64 ((a * b) % 256)) ∧ w = w' := by
  have hh := a0; have hh1 := a1; have hh2 := b0; have hh3 := b1
  have m0 : 0 ≤ a * b := Int.mul_nonneg a0 b0
  have m1 : a * b ≤ 255 * 255 := Int.mul_le_mul a1 b1 b0 (by omega)
  have m2 : a * b ≤ 65025 := m1
  clear m1
  go_enter Tryd.func99, Tryd.ntmps99
  go_wp2
  go_ret
  exact ⟨rfl, rfl⟩


set_option maxHeartbeats 1000000 in
theorem compute_4 (a b : Int) (w : World) (a0 : 0 ≤ a) (a1 : a ≤ 255) (b0 : 0 ≤ b) (b1 : b ≤ 255) : Calls Tryd.prog 99 #[.string ⟨#[108, 116]⟩, .int .i64 a, .int .i64 b] w fun e w' => e = .returned (.int .i64 (if a < b then 1 else 0)) ∧ w = w' := by
  have hh := a0; have hh1 := a1; have hh2 := b0; have hh3 := b1
  by_cases h : a < b
  · rw [if_pos h]
    go_enter Tryd.func99, Tryd.ntmps99
    go_wp2
    go_ret
    exact ⟨rfl, rfl⟩
  · rw [if_neg h]
    have h : b ≤ a := by omega
    go_enter Tryd.func99, Tryd.ntmps99
    go_wp2
    go_ret
    exact ⟨rfl, rfl⟩


end Go.Proofs.YtjeflaodeafhbaaDoor

namespace Go.Proofs.YtjeflaodeafhbaaDoor
open Go.RowKit
set_option linter.unusedSimpArgs false
end Go.Proofs.YtjeflaodeafhbaaDoor
