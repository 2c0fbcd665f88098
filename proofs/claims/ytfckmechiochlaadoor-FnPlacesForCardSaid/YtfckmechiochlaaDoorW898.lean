/- The draws of wide instructions and of what is kept; powers and bits of the laws. -/
import Derived.Test.YtfckmechiochlaaDoorW892
import Derived.Test.YtfckmechiochlaaDoorW846
namespace Go.Proofs.YtfckmechiochlaaDoor
open Go.RowKit Go.Shelf
set_option linter.unusedSimpArgs false
set_option maxHeartbeats 4000000 in
theorem lpower_nat (n : Nat) (hn : n ≤ 40) (w : World) : Calls Tryd.prog 21 #[.int .i64 (n : Int)] w fun e w' => e = .returned (.int .i64 ((2 ^ n : Nat) : Int)) ∧ w = w' := by
  go_enter Tryd.func21, Tryd.ntmps21
  go_wp2
  go_loopw [0, 3] (fun q o w2 => ∃ (m k : Nat), m + k = n ∧ q = .int .i64 (m : Int) ∧ o = .int .i64 ((2 ^ k : Nat) : Int) ∧ w = w2) (fun q _ _ => (intOf q).toNat)
  case atStart => exact ⟨n, 0, by omega, rfl, rfl, rfl⟩
  case round =>
    obtain ⟨m, k, hmk, rfl, rfl, rfl⟩ := hrel
    rcases m with _ | m
    · obtain rfl : k = n := by omega
      go_wp2
      go_ret
      exact ⟨rfl, rfl⟩
    · have h40 : 2 ^ k ≤ 2 ^ 40 := pow40 (by omega)
      have e1 : ((2 ^ (k + 1) : Nat) : Int) = 2 * ((2 ^ k : Nat) : Int) := by rw [Nat.pow_succ]; omega
      have HE := shade e1
      clear e1
      generalize 2 ^ k = x at *
      have b1 : 0 ≤ 2 * (x : Int) := by omega
      have b2 : 2 * (x : Int) ≤ 9223372036854775807 := by omega
      have b3 : (m : Int) ≤ 40 := by omega
      go_wp2
      go_roundw
      case rel => exact ⟨m, k + 1, by omega, by go_num, by rw [HE.out], trivial⟩
      case measure => simp [intOf]

set_option maxHeartbeats 4000000 in
theorem lbit_nat (x j : Nat) (hx : x < 2 ^ 62) (hj : j ≤ 40) (w : World) : Calls Tryd.prog 18 #[.int .i64 (x : Int), .int .i64 (j : Int)] w fun e w' => e = .returned (.int .i64 ((x / 2 ^ j % 2 : Nat) : Int)) ∧ w = w' := by
  have HP := shade (lpower_nat j hj w)
  have h40 : 2 ^ j ≤ 2 ^ 40 := pow40 hj
  have h0 : 0 < 2 ^ j := Nat.two_pow_pos j
  obtain ⟨p, hp⟩ : ∃ p : Nat, 2 ^ j = p := ⟨_, rfl⟩
  rw [hp] at HP h40 h0 ⊢
  clear hp
  have e0 : ((p : Int) == 0) = false := beq_eq_false_iff_ne.2 (by omega)
  have e1 : Int.tdiv (x : Int) (p : Int) = ((x / p : Nat) : Int) := rfl
  have e2 : Int.tmod ((x / p : Nat) : Int) 2 = ((x / p % 2 : Nat) : Int) := rfl
  have e3 : x / p ≤ x := Nat.div_le_self x p
  go_enter Tryd.func18, Tryd.ntmps18
  go_wp2_with fail
  refine HP.out.mono ?_
  rintro e w1 ⟨rfl, rfl⟩
  go_wp2_with fail
  go_ret
  refine ⟨?_, rfl⟩
  rw [show wrap64 ((x : Int) / (p : Int)) = ((x / p : Nat) : Int) from wrap64_63 (x / p) (by omega), e2]
  rfl
/-- What is drawn: some wide instructions and a number; nothing that was there has changed. -/
def DrawX (w : World) (e : Ending) (w' : World) : Prop :=
  ∃ (g' k c : Nat) (f : Nat → Wid) (x : Int), e = .returned (.tuple #[.slice (some ⟨g', 0, none⟩) k c, .int .i64 x]) ∧ k ≤ 8 ∧ (k ≤ c ∧ c ≤ maxLen) ∧ Wds w' (some ⟨g', 0, none⟩) k f ∧ w.grownBy w' none
theorem bit_one {s i : Nat} (h : s.testBit i = true) : s / 2 ^ i % 2 = 1 := by
  rw [Nat.testBit_eq_decide_div_mod_eq, decide_eq_true_iff] at h
  exact h
theorem row_own (F : Nat → Wid) (y n i : Nat) : rowW F y n i / 2 ^ i % 2 = 1 := by
  apply bit_one
  unfold rowW
  rw [Nat.testBit_or, Nat.testBit_two_pow_self, Bool.or_true]
theorem row_takes (F : Nat → Wid) (y n i : Nat) (hi : i + 1 < n) (h0 : wordN (F (i + 1)).op.toList ≠ 0) : rowW F y n i / 2 ^ (F (i + 1)).a.toNat % 2 = 1 ∧ rowW F y n i / 2 ^ (F (i + 1)).b.toNat % 2 = 1 := by
  have h := lvl_step F y n (i + 1) hi
  rw [show n - (i + 1) = n - 1 - i by omega] at h
  constructor
  all_goals
    apply bit_one
    unfold rowW
    rw [h, Nat.testBit_or, Nat.testBit_or]
    unfold tk
    rw [if_neg h0, Nat.testBit_or, Nat.testBit_two_pow_self]
    simp
theorem row_last (F : Nat → Wid) (y n : Nat) : rowW F y (n + 1) n = y ||| 2 ^ n := by
  unfold rowW
  rw [show n + 1 - 1 - n = 0 by omega]
  rfl
end Go.Proofs.YtfckmechiochlaaDoor
