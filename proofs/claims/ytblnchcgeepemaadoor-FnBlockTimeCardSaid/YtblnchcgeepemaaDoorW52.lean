/- ValidCode and its model: what they answer, for every program whose cells can be read. -/
import Derived.Test.YtblnchcgeepemaaDoorW51
namespace Go.Proofs.YtblnchcgeepemaaDoor
open Go.RowKit
/-- Is it a jump? -/
def jmpB (l : List UInt8) : Bool := (l == [98, 122]) || (l == [106, 109, 112])
/-- Is the instruction one of a program of n? -/
def okI (n : Nat) (c : Ins) : Bool := vB c.op.toList c.d c.a c.b c.k && !(jmpB c.op.toList && decide ((n : Int) < c.k))
/-- Is it a program? -/
def vcB (n : Nat) (f : Nat → Ins) : Bool := ((List.range n).all fun j => okI n (f j)) && decide (n ≤ 40)
theorem allI_iff {n : Nat} {f : Nat → Ins} {m : Nat} : ((List.range n).all fun j => okI m (f j)) = true ↔ ∀ j, j < n → okI m (f j) = true := by
  simp [List.all_eq_true]
theorem vcB_no {n k : Nat} {f : Nat → Ins} (hk : k < n) (h : okI n (f k) = false) : vcB n f = false := by
  rw [Bool.eq_false_iff]
  intro hv
  simp only [vcB, Bool.and_eq_true] at hv
  rw [allI_iff.1 hv.1 k hk] at h
  cases h
theorem vcB_all {n : Nat} {f : Nat → Ins} (h : ∀ j, j < n → okI n (f j) = true) : vcB n f = decide (n ≤ 40) := by
  unfold vcB
  rw [allI_iff.2 h]
  rfl
theorem ret_b {x y : Bool} (h : x = y) : Ending.returned (.bool x) = .returned (.bool y) := by rw [h]
theorem word7 (l : List UInt8) : (wordN l == 7) = (l == [98, 122]) := by
  rw [Bool.eq_iff_iff, beq_iff_eq, beq_iff_eq]
  constructor
  · intro h
    rcases word_is l 7 (by omega) h with h | h | h | h | h | h | h | h | h | h
    all_goals first
      | exact absurd h.1 (by omega)
      | exact (beq_iff_eq.1 h.2).symm
  · intro h
    rw [h]
    exact wordN_at7
theorem word8 (l : List UInt8) : (wordN l == 8) = (l == [106, 109, 112]) := by
  rw [Bool.eq_iff_iff, beq_iff_eq, beq_iff_eq]
  constructor
  · intro h
    rcases word_is l 8 (by omega) h with h | h | h | h | h | h | h | h | h | h
    all_goals first
      | exact absurd h.1 (by omega)
      | exact (beq_iff_eq.1 h.2).symm
  · intro h
    rw [h]
    exact wordN_at8
set_option maxHeartbeats 1000000 in
theorem isJump_any (op : ByteArray) (d a b k : Int) (w : World) (hg : WT w) :
    Calls Tryd.prog 44 #[IV op d a b k] w fun e w' => e = .returned (.bool (jmpB op.toList)) ∧ w.grownBy w' none := by
  have HG := shade hg
  clear hg
  have h7 := word7 op.toList
  have h8 := word8 op.toList
  unfold jmpB
  generalize (op.toList == [98, 122]) = x at *
  generalize (op.toList == [106, 109, 112]) = y at *
  have HW := shade (fun W (hW : WT W) => wordOf_any op W hW)
  generalize wordN op.toList = n at *
  rcases x with _ | _
  · rcases y with _ | _
    all_goals
      go_enter Tryd.func44, Tryd.ntmps44
      go_wp2_with (first | (go_at_call 23; refine (HW.out _ (HG.out.alloc _)).mono ?_; rintro e w' ⟨rfl, rfl⟩))
      go_ret
      exact ⟨rfl, World.grownBy_alloc _ _ _⟩
  · go_enter Tryd.func44, Tryd.ntmps44
    go_wp2_with (first | (go_at_call 23; refine (HW.out _ (HG.out.alloc _)).mono ?_; rintro e w' ⟨rfl, rfl⟩))
    go_ret
    exact ⟨by cases y <;> rfl, World.grownBy_alloc _ _ _⟩
theorem vcB_big {n : Nat} {f : Nat → Ins} (h : 40 < n) : vcB n f = false := by
  unfold vcB
  rw [show decide (n ≤ 40) = false from decide_eq_false (by omega), Bool.and_false]
end Go.Proofs.YtblnchcgeepemaaDoor
