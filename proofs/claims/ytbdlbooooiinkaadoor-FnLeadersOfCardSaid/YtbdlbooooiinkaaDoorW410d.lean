/- Where blocks begin: plain facts. -/
import Derived.Test.YtbdlbooooiinkaaDoorW400d
namespace Go.Proofs.YtbdlbooooiinkaaDoor
open Go.RowKit
/-- Does a block end here? -/
def stopB (l : List UInt8) : Bool := jmpB l || (l == [104, 108, 116])
/-- What is marked behind the first i instructions. -/
def bgB (F : Nat → Ins) : Nat → Nat → Bool
  | 0, j => j == 0
  | i + 1, j => bgB F i j || ((jmpB (F i).op.toList && ((F i).k == (j : Int))) || (stopB (F i).op.toList && (j == i + 1)))
/-- Is it K of one of the first jumps? -/
def jkB (F : Nat → Ins) : Nat → Nat → Bool
  | 0, _ => false
  | k + 1, j => jkB F k j || (jmpB (F k).op.toList && ((F k).k == (j : Int)))
/-- Is it the first one, or behind an end? -/
def hdB (F : Nat → Ins) : Nat → Bool
  | 0 => true
  | i + 1 => stopB (F i).op.toList
theorem bgB_eq (F : Nat → Ins) (j : Nat) : ∀ m, bgB F m j = ((j == 0 || (decide (1 ≤ j ∧ j ≤ m) && hdB F j)) || jkB F m j) := by
  intro m
  induction m with
  | zero =>
    show (j == 0) = _
    have : decide (1 ≤ j ∧ j ≤ 0) = false := decide_eq_false (by omega)
    rw [this]
    simp [jkB]
  | succ m ih =>
    show (bgB F m j || ((jmpB (F m).op.toList && ((F m).k == (j : Int))) || (stopB (F m).op.toList && (j == m + 1)))) = ((j == 0 || (decide (1 ≤ j ∧ j ≤ m + 1) && hdB F j)) || (jkB F m j || (jmpB (F m).op.toList && ((F m).k == (j : Int)))))
    rw [ih]
    generalize (jmpB (F m).op.toList && ((F m).k == (j : Int))) = x
    generalize jkB F m j = y
    by_cases e : j = m + 1
    · subst e
      rw [decide_eq_false (show ¬ (1 ≤ m + 1 ∧ m + 1 ≤ m) by omega), decide_eq_true (show 1 ≤ m + 1 ∧ m + 1 ≤ m + 1 by omega)]
      rw [show (m + 1 == m + 1) = true from beq_self_eq_true _]
      rw [show (m + 1 == 0) = false from beq_eq_false_iff_ne.2 (by omega)]
      show _ = (((false || (true && stopB (F m).op.toList)) || (y || x)))
      generalize stopB (F m).op.toList = z
      cases x <;> cases y <;> cases z <;> rfl
    · rw [show (j == m + 1) = false from beq_eq_false_iff_ne.2 e]
      rw [show decide (1 ≤ j ∧ j ≤ m + 1) = decide (1 ≤ j ∧ j ≤ m) from by
        apply decide_eq_decide.2
        omega]
      generalize stopB (F m).op.toList = z
      generalize (j == 0 || (decide (1 ≤ j ∧ j ≤ m) && hdB F j)) = u
      cases x <;> cases y <;> cases z <;> cases u <;> rfl
/-- Does a block begin here? -/
def ldB (F : Nat → Ins) (n i : Nat) : Bool := hdB F i || jkB F n i
theorem lead_eq (F : Nat → Ins) (n j : Nat) (hj : j ≤ n) : bgB F n j = ldB F n j := by
  rw [bgB_eq]
  unfold ldB
  cases j with
  | zero => rfl
  | succ j =>
    rw [decide_eq_true (show 1 ≤ j + 1 ∧ j + 1 ≤ n by omega), show (j + 1 == 0) = false from beq_eq_false_iff_ne.2 (by omega)]
    generalize hdB F (j + 1) = u
    cases u <;> rfl
/-- The numbers below n that are marked. -/
def pickL (g : Nat → Bool) : Nat → List Int
  | 0 => []
  | i + 1 => pickL g i ++ (if g i = true then [(i : Int)] else [])
theorem pickL_le (g : Nat → Bool) : ∀ i, (pickL g i).length ≤ i := by
  intro i
  induction i with
  | zero => exact Nat.le_refl _
  | succ i ih =>
    show (pickL g i ++ _).length ≤ i + 1
    rw [List.length_append]
    split
    · simp
      omega
    · simp
      omega
theorem pickL_congr (f g : Nat → Bool) : ∀ i, (∀ j, j < i → f j = g j) → pickL f i = pickL g i := by
  intro i
  induction i with
  | zero =>
    intro _
    rfl
  | succ i ih =>
    intro h
    show pickL f i ++ _ = pickL g i ++ _
    rw [ih (fun j hj => h j (by omega)), h i (by omega)]
theorem pickL_yes (g : Nat → Bool) (i : Nat) (h : g i = true) : pickL g (i + 1) = pickL g i ++ [(i : Int)] := by
  show pickL g i ++ _ = _
  rw [if_pos h]
theorem pickL_no (g : Nat → Bool) (i : Nat) (h : g i = false) : pickL g (i + 1) = pickL g i := by
  show pickL g i ++ _ = _
  rw [h, if_neg (by simp), List.append_nil]
/-- Where blocks begin. -/
def ldL (F : Nat → Ins) (n : Nat) : List Int := pickL (ldB F n) n
end Go.Proofs.YtbdlbooooiinkaaDoor
