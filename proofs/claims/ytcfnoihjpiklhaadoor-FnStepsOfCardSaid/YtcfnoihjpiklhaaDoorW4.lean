/- The model’s inRange and validInstr return what the definitions here say, one word at a time, no conditions. -/
import Derived.Test.YtcfnoihjpiklhaaDoorW2
namespace Go.Proofs.YtcfnoihjpiklhaaDoor
open Go.RowKit
set_option linter.unusedSimpArgs false
/-- When an instruction is valid. -/
def VI (l : List UInt8) (d a b k : Int) : Prop :=
  (0 ≤ d ∧ d < 4) ∧ (0 ≤ a ∧ a < 4) ∧ (0 ≤ b ∧ b < 4) ∧
  ((wordN l = 0 ∧ a = 0 ∧ b = 0 ∧ 0 ≤ k ∧ k ≤ 255) ∨ (1 ≤ wordN l ∧ wordN l ≤ 4 ∧ k = 0) ∨ (5 ≤ wordN l ∧ wordN l ≤ 6 ∧ b = 0 ∧ 0 ≤ k ∧ k ≤ 7) ∨
   (wordN l = 7 ∧ d = 0 ∧ b = 0 ∧ 0 ≤ k ∧ k ≤ 40) ∨ (wordN l = 8 ∧ d = 0 ∧ a = 0 ∧ b = 0 ∧ 0 ≤ k ∧ k ≤ 40) ∨ (wordN l = 9 ∧ d = 0 ∧ a = 0 ∧ b = 0 ∧ k = 0))
instance (l : List UInt8) (d a b k : Int) : Decidable (VI l d a b k) := by unfold VI; infer_instance
/-- The same as a test. -/
def vB (l : List UInt8) (d a b k : Int) : Bool := decide (VI l d a b k)
theorem vB_true {l : List UInt8} {d a b k : Int} : vB l d a b k = true ↔ VI l d a b k := by simp [vB]
/-- Is it in a range? -/
def inB (n lo hi : Int) : Bool := decide (lo ≤ n) && decide (n ≤ hi)

set_option maxHeartbeats 400000 in
theorem inRange_any (n lo hi : Int) (w : World) :
    Calls Tryd.prog 51 #[.int .i64 n, .int .i64 lo, .int .i64 hi] w fun e w' => e = .returned (.bool (inB n lo hi)) ∧ w = w' := by
  go_enter Tryd.func51, Tryd.ntmps51
  go_wp2
  all_goals
    go_ret
    exact ⟨by simp [inB]; try omega, rfl⟩

theorem wordN_at0 : wordN [115, 101, 116] = 0 := by rfl
theorem wordN_at1 : wordN [97, 100, 100] = 1 := by rfl
theorem wordN_at2 : wordN [115, 117, 98] = 2 := by rfl
theorem wordN_at3 : wordN [109, 117, 108] = 3 := by rfl
theorem wordN_at4 : wordN [108, 116] = 4 := by rfl
theorem wordN_at5 : wordN [108, 100] = 5 := by rfl
theorem wordN_at6 : wordN [115, 116] = 6 := by rfl
theorem wordN_at7 : wordN [98, 122] = 7 := by rfl
theorem wordN_at8 : wordN [106, 109, 112] = 8 := by rfl
theorem wordN_at9 : wordN [104, 108, 116] = 9 := by rfl
theorem wordN_none (l : List UInt8) (h0 : (l == [115, 101, 116]) = false) (h1 : (l == [97, 100, 100]) = false) (h2 : (l == [115, 117, 98]) = false) (h3 : (l == [109, 117, 108]) = false) (h4 : (l == [108, 116]) = false) (h5 : (l == [108, 100]) = false) (h6 : (l == [115, 116]) = false) (h7 : (l == [98, 122]) = false) (h8 : (l == [106, 109, 112]) = false) (h9 : (l == [104, 108, 116]) = false) : wordN l = -1 := by
  simp only [beq_eq_false_iff_ne, ne_eq] at h0 h1 h2 h3 h4 h5 h6 h7 h8 h9
  simp [wordN, beq_iff_eq, eq_comm (b := l), h0, h1, h2, h3, h4, h5, h6, h7, h8, h9]
theorem wordN_range (l : List UInt8) : -1 ≤ wordN l ∧ wordN l ≤ 9 := by
  unfold wordN
  repeat' split
  all_goals omega

theorem toList_0 : (⟨#[115, 101, 116]⟩ : ByteArray).toList = [115, 101, 116] := by decide +kernel
set_option maxHeartbeats 2000000 in
theorem validInstr_w0 (d a b k : Int) (w : World) :
    Calls Tryd.prog 60 #[IV (⟨#[115, 101, 116]⟩ : ByteArray) d a b k] w fun e w' => e = .returned (.bool (vB (⟨#[115, 101, 116]⟩ : ByteArray).toList d a b k)) ∧ ∃ o, w.alloc o = w' := by
  go_enter Tryd.func60, Tryd.ntmps60
  go_wp2_with (first | (go_at_call 51; refine (inRange_any _ _ _ _).mono ?_; rintro e w' ⟨rfl, rfl⟩))
  all_goals
    go_ret
    refine ⟨congrArg (fun z => Ending.returned (.bool z)) ?_, _, rfl⟩
    rw [Bool.eq_iff_iff, vB_true]
    simp only [VI, toList_0, wordN_at0, inB, beq_iff_eq, Bool.and_eq_true, Bool.not_eq_true', Bool.not_eq_false', Bool.and_eq_false_iff, decide_eq_true_eq, decide_eq_false_iff_not, Bool.false_eq_true, false_iff, true_iff, true_and, and_true] at *
    omega

theorem toList_1 : (⟨#[97, 100, 100]⟩ : ByteArray).toList = [97, 100, 100] := by decide +kernel
set_option maxHeartbeats 2000000 in
theorem validInstr_w1 (d a b k : Int) (w : World) :
    Calls Tryd.prog 60 #[IV (⟨#[97, 100, 100]⟩ : ByteArray) d a b k] w fun e w' => e = .returned (.bool (vB (⟨#[97, 100, 100]⟩ : ByteArray).toList d a b k)) ∧ ∃ o, w.alloc o = w' := by
  go_enter Tryd.func60, Tryd.ntmps60
  go_wp2_with (first | (go_at_call 51; refine (inRange_any _ _ _ _).mono ?_; rintro e w' ⟨rfl, rfl⟩))
  all_goals
    go_ret
    refine ⟨congrArg (fun z => Ending.returned (.bool z)) ?_, _, rfl⟩
    rw [Bool.eq_iff_iff, vB_true]
    simp only [VI, toList_1, wordN_at1, inB, beq_iff_eq, Bool.and_eq_true, Bool.not_eq_true', Bool.not_eq_false', Bool.and_eq_false_iff, decide_eq_true_eq, decide_eq_false_iff_not, Bool.false_eq_true, false_iff, true_iff, true_and, and_true] at *
    omega

theorem toList_2 : (⟨#[115, 117, 98]⟩ : ByteArray).toList = [115, 117, 98] := by decide +kernel
set_option maxHeartbeats 2000000 in
theorem validInstr_w2 (d a b k : Int) (w : World) :
    Calls Tryd.prog 60 #[IV (⟨#[115, 117, 98]⟩ : ByteArray) d a b k] w fun e w' => e = .returned (.bool (vB (⟨#[115, 117, 98]⟩ : ByteArray).toList d a b k)) ∧ ∃ o, w.alloc o = w' := by
  go_enter Tryd.func60, Tryd.ntmps60
  go_wp2_with (first | (go_at_call 51; refine (inRange_any _ _ _ _).mono ?_; rintro e w' ⟨rfl, rfl⟩))
  all_goals
    go_ret
    refine ⟨congrArg (fun z => Ending.returned (.bool z)) ?_, _, rfl⟩
    rw [Bool.eq_iff_iff, vB_true]
    simp only [VI, toList_2, wordN_at2, inB, beq_iff_eq, Bool.and_eq_true, Bool.not_eq_true', Bool.not_eq_false', Bool.and_eq_false_iff, decide_eq_true_eq, decide_eq_false_iff_not, Bool.false_eq_true, false_iff, true_iff, true_and, and_true] at *
    omega

theorem toList_3 : (⟨#[109, 117, 108]⟩ : ByteArray).toList = [109, 117, 108] := by decide +kernel
set_option maxHeartbeats 2000000 in
theorem validInstr_w3 (d a b k : Int) (w : World) :
    Calls Tryd.prog 60 #[IV (⟨#[109, 117, 108]⟩ : ByteArray) d a b k] w fun e w' => e = .returned (.bool (vB (⟨#[109, 117, 108]⟩ : ByteArray).toList d a b k)) ∧ ∃ o, w.alloc o = w' := by
  go_enter Tryd.func60, Tryd.ntmps60
  go_wp2_with (first | (go_at_call 51; refine (inRange_any _ _ _ _).mono ?_; rintro e w' ⟨rfl, rfl⟩))
  all_goals
    go_ret
    refine ⟨congrArg (fun z => Ending.returned (.bool z)) ?_, _, rfl⟩
    rw [Bool.eq_iff_iff, vB_true]
    simp only [VI, toList_3, wordN_at3, inB, beq_iff_eq, Bool.and_eq_true, Bool.not_eq_true', Bool.not_eq_false', Bool.and_eq_false_iff, decide_eq_true_eq, decide_eq_false_iff_not, Bool.false_eq_true, false_iff, true_iff, true_and, and_true] at *
    omega

theorem toList_4 : (⟨#[108, 116]⟩ : ByteArray).toList = [108, 116] := by decide +kernel
set_option maxHeartbeats 2000000 in
theorem validInstr_w4 (d a b k : Int) (w : World) :
    Calls Tryd.prog 60 #[IV (⟨#[108, 116]⟩ : ByteArray) d a b k] w fun e w' => e = .returned (.bool (vB (⟨#[108, 116]⟩ : ByteArray).toList d a b k)) ∧ ∃ o, w.alloc o = w' := by
  go_enter Tryd.func60, Tryd.ntmps60
  go_wp2_with (first | (go_at_call 51; refine (inRange_any _ _ _ _).mono ?_; rintro e w' ⟨rfl, rfl⟩))
  all_goals
    go_ret
    refine ⟨congrArg (fun z => Ending.returned (.bool z)) ?_, _, rfl⟩
    rw [Bool.eq_iff_iff, vB_true]
    simp only [VI, toList_4, wordN_at4, inB, beq_iff_eq, Bool.and_eq_true, Bool.not_eq_true', Bool.not_eq_false', Bool.and_eq_false_iff, decide_eq_true_eq, decide_eq_false_iff_not, Bool.false_eq_true, false_iff, true_iff, true_and, and_true] at *
    omega

theorem toList_5 : (⟨#[108, 100]⟩ : ByteArray).toList = [108, 100] := by decide +kernel
set_option maxHeartbeats 2000000 in
theorem validInstr_w5 (d a b k : Int) (w : World) :
    Calls Tryd.prog 60 #[IV (⟨#[108, 100]⟩ : ByteArray) d a b k] w fun e w' => e = .returned (.bool (vB (⟨#[108, 100]⟩ : ByteArray).toList d a b k)) ∧ ∃ o, w.alloc o = w' := by
  go_enter Tryd.func60, Tryd.ntmps60
  go_wp2_with (first | (go_at_call 51; refine (inRange_any _ _ _ _).mono ?_; rintro e w' ⟨rfl, rfl⟩))
  all_goals
    go_ret
    refine ⟨congrArg (fun z => Ending.returned (.bool z)) ?_, _, rfl⟩
    rw [Bool.eq_iff_iff, vB_true]
    simp only [VI, toList_5, wordN_at5, inB, beq_iff_eq, Bool.and_eq_true, Bool.not_eq_true', Bool.not_eq_false', Bool.and_eq_false_iff, decide_eq_true_eq, decide_eq_false_iff_not, Bool.false_eq_true, false_iff, true_iff, true_and, and_true] at *
    omega

theorem toList_6 : (⟨#[115, 116]⟩ : ByteArray).toList = [115, 116] := by decide +kernel
set_option maxHeartbeats 2000000 in
theorem validInstr_w6 (d a b k : Int) (w : World) :
    Calls Tryd.prog 60 #[IV (⟨#[115, 116]⟩ : ByteArray) d a b k] w fun e w' => e = .returned (.bool (vB (⟨#[115, 116]⟩ : ByteArray).toList d a b k)) ∧ ∃ o, w.alloc o = w' := by
  go_enter Tryd.func60, Tryd.ntmps60
  go_wp2_with (first | (go_at_call 51; refine (inRange_any _ _ _ _).mono ?_; rintro e w' ⟨rfl, rfl⟩))
  all_goals
    go_ret
    refine ⟨congrArg (fun z => Ending.returned (.bool z)) ?_, _, rfl⟩
    rw [Bool.eq_iff_iff, vB_true]
    simp only [VI, toList_6, wordN_at6, inB, beq_iff_eq, Bool.and_eq_true, Bool.not_eq_true', Bool.not_eq_false', Bool.and_eq_false_iff, decide_eq_true_eq, decide_eq_false_iff_not, Bool.false_eq_true, false_iff, true_iff, true_and, and_true] at *
    omega

theorem toList_7 : (⟨#[98, 122]⟩ : ByteArray).toList = [98, 122] := by decide +kernel
set_option maxHeartbeats 2000000 in
theorem validInstr_w7 (d a b k : Int) (w : World) :
    Calls Tryd.prog 60 #[IV (⟨#[98, 122]⟩ : ByteArray) d a b k] w fun e w' => e = .returned (.bool (vB (⟨#[98, 122]⟩ : ByteArray).toList d a b k)) ∧ ∃ o, w.alloc o = w' := by
  go_enter Tryd.func60, Tryd.ntmps60
  go_wp2_with (first | (go_at_call 51; refine (inRange_any _ _ _ _).mono ?_; rintro e w' ⟨rfl, rfl⟩))
  all_goals
    go_ret
    refine ⟨congrArg (fun z => Ending.returned (.bool z)) ?_, _, rfl⟩
    rw [Bool.eq_iff_iff, vB_true]
    simp only [VI, toList_7, wordN_at7, inB, beq_iff_eq, Bool.and_eq_true, Bool.not_eq_true', Bool.not_eq_false', Bool.and_eq_false_iff, decide_eq_true_eq, decide_eq_false_iff_not, Bool.false_eq_true, false_iff, true_iff, true_and, and_true] at *
    omega

theorem toList_8 : (⟨#[106, 109, 112]⟩ : ByteArray).toList = [106, 109, 112] := by decide +kernel
set_option maxHeartbeats 2000000 in
theorem validInstr_w8 (d a b k : Int) (w : World) :
    Calls Tryd.prog 60 #[IV (⟨#[106, 109, 112]⟩ : ByteArray) d a b k] w fun e w' => e = .returned (.bool (vB (⟨#[106, 109, 112]⟩ : ByteArray).toList d a b k)) ∧ ∃ o, w.alloc o = w' := by
  go_enter Tryd.func60, Tryd.ntmps60
  go_wp2_with (first | (go_at_call 51; refine (inRange_any _ _ _ _).mono ?_; rintro e w' ⟨rfl, rfl⟩))
  all_goals
    go_ret
    refine ⟨congrArg (fun z => Ending.returned (.bool z)) ?_, _, rfl⟩
    rw [Bool.eq_iff_iff, vB_true]
    simp only [VI, toList_8, wordN_at8, inB, beq_iff_eq, Bool.and_eq_true, Bool.not_eq_true', Bool.not_eq_false', Bool.and_eq_false_iff, decide_eq_true_eq, decide_eq_false_iff_not, Bool.false_eq_true, false_iff, true_iff, true_and, and_true] at *
    omega

theorem toList_9 : (⟨#[104, 108, 116]⟩ : ByteArray).toList = [104, 108, 116] := by decide +kernel
set_option maxHeartbeats 2000000 in
theorem validInstr_w9 (d a b k : Int) (w : World) :
    Calls Tryd.prog 60 #[IV (⟨#[104, 108, 116]⟩ : ByteArray) d a b k] w fun e w' => e = .returned (.bool (vB (⟨#[104, 108, 116]⟩ : ByteArray).toList d a b k)) ∧ ∃ o, w.alloc o = w' := by
  go_enter Tryd.func60, Tryd.ntmps60
  go_wp2_with (first | (go_at_call 51; refine (inRange_any _ _ _ _).mono ?_; rintro e w' ⟨rfl, rfl⟩))
  all_goals
    go_ret
    refine ⟨congrArg (fun z => Ending.returned (.bool z)) ?_, _, rfl⟩
    rw [Bool.eq_iff_iff, vB_true]
    simp only [VI, toList_9, wordN_at9, inB, beq_iff_eq, Bool.and_eq_true, Bool.not_eq_true', Bool.not_eq_false', Bool.and_eq_false_iff, decide_eq_true_eq, decide_eq_false_iff_not, Bool.false_eq_true, false_iff, true_iff, true_and, and_true] at *
    omega

set_option maxHeartbeats 2000000 in
theorem validInstr_none (op : ByteArray) (h0 : (op.toList == [115, 101, 116]) = false) (h1 : (op.toList == [97, 100, 100]) = false) (h2 : (op.toList == [115, 117, 98]) = false) (h3 : (op.toList == [109, 117, 108]) = false) (h4 : (op.toList == [108, 116]) = false) (h5 : (op.toList == [108, 100]) = false) (h6 : (op.toList == [115, 116]) = false) (h7 : (op.toList == [98, 122]) = false) (h8 : (op.toList == [106, 109, 112]) = false) (h9 : (op.toList == [104, 108, 116]) = false) (d a b k : Int) (w : World) :
    Calls Tryd.prog 60 #[IV op d a b k] w fun e w' => e = .returned (.bool (vB op.toList d a b k)) ∧ ∃ o, w.alloc o = w' := by
  have hw := shade (wordN_none op.toList h0 h1 h2 h3 h4 h5 h6 h7 h8 h9)
  go_enter Tryd.func60, Tryd.ntmps60
  go_wp2_with (first | (go_at_call 51; refine (inRange_any _ _ _ _).mono ?_; rintro e w' ⟨rfl, rfl⟩))
  all_goals
    go_ret
    refine ⟨congrArg (fun z => Ending.returned (.bool z)) ?_, _, rfl⟩
    rw [Bool.eq_iff_iff, vB_true]
    simp only [VI, hw.out, inB, beq_iff_eq, Bool.and_eq_true, Bool.not_eq_true', Bool.not_eq_false', Bool.and_eq_false_iff, decide_eq_true_eq, decide_eq_false_iff_not, Bool.false_eq_true, false_iff, true_iff, true_and, and_true] at *
    omega

end Go.Proofs.YtcfnoihjpiklhaaDoor