/- The model's small functions: ranges, powers, counters, ways. -/
import Derived.Test.YtfmcmndhghfoeaaZ19
namespace Go.Proofs.Ytfmcmndhghfoeaa
open Go.RowKit
set_option linter.unusedSimpArgs false
set_option maxHeartbeats 1000000 in
theorem power_any (s : Nat) (hs : s ≤ 4) (w : World) :
    Calls Try.prog 41 #[.int .i64 (s : Int)] w fun e w' => e = .returned (.int .i64 ((2 ^ s : Nat) : Int)) ∧ w = w' := by
  go_enter Try.func41, Try.ntmps41
  go_wp2
  go_loopw [0, 3] (fun i v wr => ∃ k : Nat, k ≤ s ∧ i = .int .i64 ((s : Int) - (k : Int)) ∧ v = .int .i64 ((2 ^ k : Nat) : Int) ∧ wr = w) (fun i _ _ => (intOf i).toNat)
  case atStart => exact ⟨0, Nat.zero_le _, by go_num, rfl, rfl⟩
  case round =>
    obtain ⟨k, hk, rfl, rfl, rfl⟩ := hrel
    by_cases hlt : k < s
    · have i1 : (0 : Int) < (s : Int) - (k : Int) := by omega
      have hp : (2 ^ k : Nat) ≤ 16 := Nat.le_trans (Nat.pow_le_pow_right (by omega) (show k ≤ 4 by omega)) (by decide)
      have hq : (2 ^ (k + 1) : Nat) = 2 * 2 ^ k := by rw [Nat.pow_succ]; omega
      have HQ := shade hq
      clear hq
      generalize (2 ^ k : Nat) = p at *
      go_wp2
      go_roundw
      case rel => exact ⟨k + 1, by omega, by go_num, by rw [HQ.out]; go_num, by trivial⟩
      case measure => simp [intOf]; omega
    · obtain rfl : k = s := by omega
      have i1 : ¬ (0 : Int) < (k : Int) - (k : Int) := by omega
      go_wp2
      go_ret
      exact ⟨rfl, by trivial⟩
set_option maxHeartbeats 1000000 in
theorem lpower_any (s : Nat) (hs : s ≤ 4) (w : World) :
    Calls Try.prog 19 #[.int .i64 (s : Int)] w fun e w' => e = .returned (.int .i64 ((2 ^ s : Nat) : Int)) ∧ w = w' := by
  go_enter Try.func19, Try.ntmps19
  go_wp2
  go_loopw [0, 3] (fun i v wr => ∃ k : Nat, k ≤ s ∧ i = .int .i64 ((s : Int) - (k : Int)) ∧ v = .int .i64 ((2 ^ k : Nat) : Int) ∧ wr = w) (fun i _ _ => (intOf i).toNat)
  case atStart => exact ⟨0, Nat.zero_le _, by go_num, rfl, rfl⟩
  case round =>
    obtain ⟨k, hk, rfl, rfl, rfl⟩ := hrel
    by_cases hlt : k < s
    · have i1 : (0 : Int) < (s : Int) - (k : Int) := by omega
      have hp : (2 ^ k : Nat) ≤ 16 := Nat.le_trans (Nat.pow_le_pow_right (by omega) (show k ≤ 4 by omega)) (by decide)
      have hq : (2 ^ (k + 1) : Nat) = 2 * 2 ^ k := by rw [Nat.pow_succ]; omega
      have HQ := shade hq
      clear hq
      generalize (2 ^ k : Nat) = p at *
      go_wp2
      go_roundw
      case rel => exact ⟨k + 1, by omega, by go_num, by rw [HQ.out]; go_num, by trivial⟩
      case measure => simp [intOf]; omega
    · obtain rfl : k = s := by omega
      have i1 : ¬ (0 : Int) < (k : Int) - (k : Int) := by omega
      go_wp2
      go_ret
      exact ⟨rfl, by trivial⟩

def inB (n lo hi : Int) : Bool := decide (lo ≤ n) && decide (n ≤ hi)
theorem inRange_any (n lo hi : Int) (w : World) :
    Calls Try.prog 40 #[.int .i64 n, .int .i64 lo, .int .i64 hi] w fun e w' => e = .returned (.bool (inB n lo hi)) ∧ w = w' := by
  go_enter Try.func40, Try.ntmps40
  go_wp2
  all_goals
    go_ret
    exact ⟨by simp [inB]; try omega, rfl⟩
theorem validJumps_any (AJ : Option Addr) (m cj : Nat) (w : World) :
    Calls Try.prog 36 #[.slice AJ m cj] w fun e w' => e = .returned (.bool (decide (m ≤ 300))) ∧ w = w' := by
  rcases (show m ≤ 300 ∨ ¬ m ≤ 300 by omega) with h | h
  · rw [decide_eq_true h]
    have i1 : (m : Int) ≤ 300 := by omega
    go_enter Try.func36, Try.ntmps36
    go_wp2
    go_ret
    exact ⟨by simp, rfl⟩
  · rw [decide_eq_false h]
    have i1 : ¬ (m : Int) ≤ 300 := by omega
    go_enter Try.func36, Try.ntmps36
    go_wp2
    go_ret
    exact ⟨by simp, rfl⟩
set_option maxHeartbeats 1000000 in
theorem scount_any (x m : Int) (b : Bool) (hx0 : 0 ≤ x) (hx : x ≤ m) (hm : m ≤ 7) (w : World) :
    Calls Try.prog 42 #[.int .i64 x, .bool b, .int .i64 m] w fun e w' => e = .returned (.int .i64 (stp x b m)) ∧ w = w' := by
  unfold stp
  rcases b with _ | _
  · rw [if_neg (by decide)]
    rcases (show 0 < x ∨ x = 0 by omega) with h | h
    · have e1 : max (x - 1) 0 = x - 1 := by omega
      have i1 : 0 ≤ x - 1 := by omega
      rw [e1]
      go_enter Try.func42, Try.ntmps42
      go_wp2
      all_goals (first | (exfalso; omega) | skip)
      all_goals
        go_ret
        exact ⟨by go_num, rfl⟩
    · subst h
      have e1 : max ((0 : Int) - 1) 0 = 0 := by omega
      rw [e1]
      go_enter Try.func42, Try.ntmps42
      go_wp2
      go_ret
      exact ⟨rfl, rfl⟩
  · rw [if_pos rfl]
    have hw : IntKind.i64.wrap (x + 1) = x + 1 := by rw [IntKind.wrap_i64]; omega
    rcases (show x < m ∨ x = m by omega) with h | h
    · have e1 : min (x + 1) m = x + 1 := by omega
      have i1 : x + 1 ≤ m := by omega
      rw [e1]
      go_enter Try.func42, Try.ntmps42
      go_wp2
      all_goals (first | (exfalso; omega) | skip)
      all_goals
        go_ret
        exact ⟨by (try simp only [hw]); go_num, rfl⟩
    · subst h
      have e1 : min (x + 1) x = x := by omega
      rw [e1]
      go_enter Try.func42, Try.ntmps42
      go_wp2
      all_goals (first | (exfalso; omega) | skip)
      all_goals
        go_ret
        exact ⟨by (try simp only [hw]); go_num, rfl⟩
set_option maxHeartbeats 1000000 in
theorem old_any (y s : Nat) (b : Bool) (hs : s ≤ 4) (hy : y < 16) (w : World) :
    Calls Try.prog 51 #[.int .i64 (y : Int), .bool b, .int .i64 (s : Int)] w fun e w' => e = .returned (.int .i64 (((2 * y + b.toNat) % 2 ^ s : Nat) : Int)) ∧ w = w' := by
  have HP := shade (power_any s hs w)
  obtain ⟨z, hz⟩ : ∃ z : Nat, (2 * y + b.toNat) % 2 ^ s = z := ⟨_, rfl⟩
  rw [hz]
  rcases b with _ | _
  · have hz' : (2 * y + 0) % 2 ^ s = z := hz
    clear hz
    rcases (show s = 0 ∨ s = 1 ∨ s = 2 ∨ s = 3 ∨ s = 4 by omega) with rfl | rfl | rfl | rfl | rfl
    all_goals
      have HZ := shade hz'
      clear hz'
      go_enter Try.func51, Try.ntmps51
      go_wp2_with fail
      refine HP.out.mono ?_
      rintro e w1 ⟨rfl, rfl⟩
      go_wp2_with fail
      have hz := HZ.out
      simp only [Nat.reducePow] at hz
      go_ret
      exact ⟨by go_num, rfl⟩
  · have hz' : (2 * y + 1) % 2 ^ s = z := hz
    clear hz
    rcases (show s = 0 ∨ s = 1 ∨ s = 2 ∨ s = 3 ∨ s = 4 by omega) with rfl | rfl | rfl | rfl | rfl
    all_goals
      have HZ := shade hz'
      clear hz'
      go_enter Try.func51, Try.ntmps51
      go_wp2_with fail
      refine HP.out.mono ?_
      rintro e w1 ⟨rfl, rfl⟩
      go_wp2_with fail
      have hz := HZ.out
      simp only [Nat.reducePow] at hz
      go_ret
      exact ⟨by go_num, rfl⟩
end Go.Proofs.Ytfmcmndhghfoeaa
