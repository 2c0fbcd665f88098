/- What an instruction of a block takes, and how long one waits for another; plain facts. The small words of blocks: ticks, and what is a block. -/
import Derived.Test.YtlmjbflnfpccdaaDoorW52
import Derived.Test.YtlmjbflnfpccdaaDoorW17
namespace Go.Proofs.YtlmjbflnfpccdaaDoor
open Go.RowKit
theorem word3 (l : List UInt8) : (wordN l == 3) = (l == [109, 117, 108]) := by
  rw [Bool.eq_iff_iff, beq_iff_eq, beq_iff_eq]
  constructor
  · intro h
    rcases word_is l 3 (by omega) h with h | h | h | h | h | h | h | h | h | h
    all_goals first
      | exact absurd h.1 (by omega)
      | exact (beq_iff_eq.1 h.2).symm
  · intro h
    rw [h]
    exact wordN_at3
theorem word5 (l : List UInt8) : (wordN l == 5) = (l == [108, 100]) := by
  rw [Bool.eq_iff_iff, beq_iff_eq, beq_iff_eq]
  constructor
  · intro h
    rcases word_is l 5 (by omega) h with h | h | h | h | h | h | h | h | h | h
    all_goals first
      | exact absurd h.1 (by omega)
      | exact (beq_iff_eq.1 h.2).symm
  · intro h
    rw [h]
    exact wordN_at5
theorem word6 (l : List UInt8) : (wordN l == 6) = (l == [115, 116]) := by
  rw [Bool.eq_iff_iff, beq_iff_eq, beq_iff_eq]
  constructor
  · intro h
    rcases word_is l 6 (by omega) h with h | h | h | h | h | h | h | h | h | h
    all_goals first
      | exact absurd h.1 (by omega)
      | exact (beq_iff_eq.1 h.2).symm
  · intro h
    rw [h]
    exact wordN_at6
theorem word9' (l : List UInt8) : (wordN l == 9) = (l == [104, 108, 116]) := by
  rw [Bool.eq_iff_iff, beq_iff_eq, beq_iff_eq]
  constructor
  · intro h
    rcases word_is l 9 (by omega) h with h | h | h | h | h | h | h | h | h | h
    all_goals first
      | exact absurd h.1 (by omega)
      | exact (beq_iff_eq.1 h.2).symm
  · intro h
    rw [h]
    exact wordN_at9
/-- How many ticks. -/
def lat (l : List UInt8) : Int := if (l == [108, 100]) = true then 3 else if (l == [109, 117, 108]) = true then 2 else 1
theorem lat_rng (l : List UInt8) : 1 ≤ lat l ∧ lat l ≤ 3 := by
  unfold lat
  repeat' split
  all_goals omega
theorem lat_is (l : List UInt8) : lat l = 1 ∨ lat l = 2 ∨ lat l = 3 := by
  have := lat_rng l
  omega
/-- Is it valid? -/
def vI (c : Ins) : Bool := vB c.op.toList c.d c.a c.b c.k
def tkI (c : Ins) : Int := if vI c = true then lat c.op.toList else -1
/-- What is read and what is written. -/
def rdI (c : Ins) : Int := usesR (wordN c.op.toList).toNat c.d c.a c.b
def wrI (c : Ins) : Int := usesW (wordN c.op.toList).toNat c.d
/-- Two that may meet in memory. -/
def memB (x y : List UInt8) : Bool := ((x == [115, 116]) && ((y == [115, 116]) || (y == [108, 100]))) || ((x == [108, 100]) && (y == [115, 116]))
theorem memB_comm (x y : List UInt8) : memB x y = memB y x := by
  unfold memB
  cases x == [115, 116] <;> cases y == [115, 116] <;> cases x == [108, 100] <;> cases y == [108, 100] <;> rfl
/-- How long b waits for a, which is ahead of it. -/
def wtI (a b : Ins) : Int :=
  if (bits .and .i64 (wrI a) (rdI b) != 0) = true then lat a.op.toList
  else if (bits .and .i64 (wrI a) (wrI b) != 0) = true then max 1 (lat a.op.toList - lat b.op.toList + 1)
  else if ((bits .and .i64 (rdI a) (wrI b) != 0) || memB a.op.toList b.op.toList) = true then 1 else 0
theorem wtI_rng (a b : Ins) : 0 ≤ wtI a b ∧ wtI a b ≤ 3 := by
  have h1 := lat_rng a.op.toList
  have h2 := lat_rng b.op.toList
  unfold wtI
  repeat' split
  all_goals omega
theorem and_comm_i (x y : Int) : bits .and .i64 x y = bits .and .i64 y x := by
  show IntKind.i64.wrap ((BitVec.ofInt 64 x &&& BitVec.ofInt 64 y).toNat : Int) = IntKind.i64.wrap ((BitVec.ofInt 64 y &&& BitVec.ofInt 64 x).toNat : Int)
  rw [BitVec.and_comm]
theorem wtI_zero {a b : Ins} : wtI a b = 0 ↔ ((bits .and .i64 (wrI a) (rdI b) != 0) = false ∧ (bits .and .i64 (wrI a) (wrI b) != 0) = false ∧ (bits .and .i64 (rdI a) (wrI b) != 0) = false ∧ memB a.op.toList b.op.toList = false) := by
  have h1 := lat_rng a.op.toList
  have h2 := lat_rng b.op.toList
  unfold wtI
  rcases e1 : (bits .and .i64 (wrI a) (rdI b) != 0) with _ | _
  · rcases e2 : (bits .and .i64 (wrI a) (wrI b) != 0) with _ | _
    · rcases e3 : (bits .and .i64 (rdI a) (wrI b) != 0) with _ | _
      · rcases e4 : memB a.op.toList b.op.toList with _ | _ <;> simp
      · simp
    · simp
      omega
  · simp
    omega
theorem wtI_comm {a b : Ins} : wtI a b = 0 ↔ wtI b a = 0 := by
  rw [wtI_zero, wtI_zero, memB_comm a.op.toList b.op.toList, and_comm_i (wrI a) (rdI b), and_comm_i (wrI a) (wrI b), and_comm_i (rdI a) (wrI b)]
  constructor
  · rintro ⟨h1, h2, h3, h4⟩
    exact ⟨h3, h2, h1, h4⟩
  · rintro ⟨h1, h2, h3, h4⟩
    exact ⟨h3, h2, h1, h4⟩
/-- Is it one of a block? -/
def blI (c : Ins) : Bool := vI c && (!jmpB c.op.toList && !(c.op.toList == [104, 108, 116]))
/-- Is it a block? -/
def blB (n : Nat) (F : Nat → Ins) : Bool := ((List.range n).all fun j => blI (F j)) && decide (n ≤ 6)
theorem allB_iff {n : Nat} {F : Nat → Ins} : ((List.range n).all fun j => blI (F j)) = true ↔ ∀ j, j < n → blI (F j) = true := by
  simp [List.all_eq_true]
theorem blB_no {n k : Nat} {F : Nat → Ins} (hk : k < n) (h : blI (F k) = false) : blB n F = false := by
  rw [Bool.eq_false_iff]
  intro hv
  simp only [blB, Bool.and_eq_true] at hv
  rw [allB_iff.1 hv.1 k hk] at h
  cases h
theorem blB_all {n : Nat} {F : Nat → Ins} (h : ∀ j, j < n → blI (F j) = true) : blB n F = decide (n ≤ 6) := by
  unfold blB
  rw [allB_iff.2 h]
  rfl
theorem blB_big {n : Nat} {F : Nat → Ins} (h : 6 < n) : blB n F = false := by
  unfold blB
  rw [show decide (n ≤ 6) = false from decide_eq_false (by omega), Bool.and_false]
theorem blB_6 {n : Nat} {F : Nat → Ins} (h : blB n F = true) : n ≤ 6 := by
  simp only [blB, Bool.and_eq_true, decide_eq_true_eq] at h
  exact h.2
theorem blB_at {n : Nat} {F : Nat → Ins} (h : blB n F = true) {j : Nat} (hj : j < n) : blI (F j) = true := by
  simp only [blB, Bool.and_eq_true] at h
  exact allB_iff.1 h.1 j hj
theorem blI_v {c : Ins} (h : blI c = true) : vI c = true := by
  unfold blI at h
  simp only [Bool.and_eq_true] at h
  exact h.1
/-- A valid one has a word. -/
theorem vI_word {c : Ins} (h : vI c = true) : 0 ≤ wordN c.op.toList ∧ wordN c.op.toList < 10 := by
  have h2 := vB_true.1 h
  unfold VI at h2
  omega
end Go.Proofs.YtlmjbflnfpccdaaDoor

namespace Go.Proofs.YtlmjbflnfpccdaaDoor
open Go.RowKit
set_option linter.unusedSimpArgs false
end Go.Proofs.YtlmjbflnfpccdaaDoor
