/- Where blocks begin: plain facts. Where blocks begin, by the program. -/
import Derived.Test.YtbjhlilhbeiogaaDoorG400
import Derived.Test.YtbjhlilhbeiogaaDoorW110
namespace Go.Proofs.YtbjhlilhbeiogaaDoor
open Go.RowKit
/-- Does a block end here? -/
def stopB (l : List UInt8) : Bool := jmpB l || (l == [104, 108, 116])
/-- What is marked behind the first i instructions. -/
def bgB (F : Nat → Ins) : Nat → Nat → Bool
  | 0, j => j == 0
  | i + 1, j => bgB F i j || ((jmpB (F i).op.toList && ((F i).k == (j : Int))) || (stopB (F i).op.toList && (j == i + 1)))
/-- Is it K of one of the first jumps? -/
def jkB (F : Nat → Ins) : Nat → Nat → Bool
  | 0, _ => false
  | k + 1, j => jkB F k j || (jmpB (F k).op.toList && ((F k).k == (j : Int)))
/-- Is it the first one, or behind an end? -/
def hdB (F : Nat → Ins) : Nat → Bool
  | 0 => true
  | i + 1 => stopB (F i).op.toList
theorem bgB_eq (F : Nat → Ins) (j : Nat) : ∀ m, bgB F m j = ((j == 0 || (decide (1 ≤ j ∧ j ≤ m) && hdB F j)) || jkB F m j) := by
  intro m
  induction m with
  | zero =>
    show (j == 0) = _
    have : decide (1 ≤ j ∧ j ≤ 0) = false := decide_eq_false (by omega)
    rw [this]
    simp [jkB]
  | succ m ih =>
    show (bgB F m j || ((jmpB (F m).op.toList && ((F m).k == (j : Int))) || (stopB (F m).op.toList && (j == m + 1)))) = ((j == 0 || (decide (1 ≤ j ∧ j ≤ m + 1) && hdB F j)) || (jkB F m j || (jmpB (F m).op.toList && ((F m).k == (j : Int)))))
    rw [ih]
    generalize (jmpB (F m).op.toList && ((F m).k == (j : Int))) = x
    generalize jkB F m j = y
    by_cases e : j = m + 1
    · subst e
      rw [decide_eq_false (show ¬ (1 ≤ m + 1 ∧ m + 1 ≤ m) by omega), decide_eq_true (show 1 ≤ m + 1 ∧ m + 1 ≤ m + 1 by omega)]
      rw [show (m + 1 == m + 1) = true from beq_self_eq_true _]
      rw [show (m + 1 == 0) = false from beq_eq_false_iff_ne.2 (by omega)]
      show _ = (((false || (true && stopB (F m).op.toList)) || (y || x)))
      generalize stopB (F m).op.toList = z
      cases x <;> cases y <;> cases z <;> rfl
    · rw [show (j == m + 1) = false from beq_eq_false_iff_ne.2 e]
      rw [show decide (1 ≤ j ∧ j ≤ m + 1) = decide (1 ≤ j ∧ j ≤ m) from by
        apply decide_eq_decide.2
        omega]
      generalize stopB (F m).op.toList = z
      generalize (j == 0 || (decide (1 ≤ j ∧ j ≤ m) && hdB F j)) = u
      cases x <;> cases y <;> cases z <;> cases u <;> rfl
/-- Does a block begin here? -/
def ldB (F : Nat → Ins) (n i : Nat) : Bool := hdB F i || jkB F n i
theorem lead_eq (F : Nat → Ins) (n j : Nat) (hj : j ≤ n) : bgB F n j = ldB F n j := by
  rw [bgB_eq]
  unfold ldB
  cases j with
  | zero => rfl
  | succ j =>
    rw [decide_eq_true (show 1 ≤ j + 1 ∧ j + 1 ≤ n by omega), show (j + 1 == 0) = false from beq_eq_false_iff_ne.2 (by omega)]
    generalize hdB F (j + 1) = u
    cases u <;> rfl
/-- The numbers below n that are marked. -/
def pickL (g : Nat → Bool) : Nat → List Int
  | 0 => []
  | i + 1 => pickL g i ++ (if g i = true then [(i : Int)] else [])
theorem pickL_le (g : Nat → Bool) : ∀ i, (pickL g i).length ≤ i := by
  intro i
  induction i with
  | zero => exact Nat.le_refl _
  | succ i ih =>
    show (pickL g i ++ _).length ≤ i + 1
    rw [List.length_append]
    split
    · simp
      omega
    · simp
      omega
theorem pickL_congr (f g : Nat → Bool) : ∀ i, (∀ j, j < i → f j = g j) → pickL f i = pickL g i := by
  intro i
  induction i with
  | zero =>
    intro _
    rfl
  | succ i ih =>
    intro h
    show pickL f i ++ _ = pickL g i ++ _
    rw [ih (fun j hj => h j (by omega)), h i (by omega)]
theorem pickL_yes (g : Nat → Bool) (i : Nat) (h : g i = true) : pickL g (i + 1) = pickL g i ++ [(i : Int)] := by
  show pickL g i ++ _ = _
  rw [if_pos h]
theorem pickL_no (g : Nat → Bool) (i : Nat) (h : g i = false) : pickL g (i + 1) = pickL g i := by
  show pickL g i ++ _ = _
  rw [h, if_neg (by simp), List.append_nil]
/-- Where blocks begin. -/
def ldL (F : Nat → Ins) (n : Nat) : List Int := pickL (ldB F n) n
end Go.Proofs.YtbjhlilhbeiogaaDoor

namespace Go.Proofs.YtbjhlilhbeiogaaDoor
open Go.RowKit
set_option linter.unusedSimpArgs false
theorem info4b : (Tryd.prog.info? 4).map (fun i => (i.zero, i.size, i.bytes)) = some (some (.bool false), 1, 1) := by kernel_rfl
theorem made_bools (n : Nat) : (madeCells #[Value.bool false] n).toList = bolL n (fun _ => false) := by
  rw [toList_madeCells_one]
  unfold bolL
  rw [List.map_const', List.length_range]
theorem OwnB.set {w : World} {B g n cap : Nat} {f : Nat → Bool} (h : OwnB w B (some ⟨g, 0, none⟩) n cap f) (k : Nat) (x : Bool) :
    OwnB (w.setCell ⟨g, k, none⟩ (.bool x)) B (some ⟨g, 0, none⟩) n cap (fun j => if j = k then x else f j) := by
  have h1 := (World.ownsRow.stored h k (.bool x)).1
  rw [bolL_set n _ (fun j => if j = k then x else f j) k x (by simp) (fun j _ hne => by
    show _ = (if j = k then _ else _)
    rw [if_neg hne])] at h1
  exact h1
theorem OwnB.on {w w' : World} {B g n cap : Nat} {f : Nat → Bool} (h : OwnB w B (some ⟨g, 0, none⟩) n cap f) (hg : w.grownBy w' none) : OwnB w' B (some ⟨g, 0, none⟩) n cap f := World.ownsRow.kept h hg (.inr (by
  show some g ≠ none
  simp))
theorem okI_k {n : Nat} {F : Nat → Ins} {i : Nat} (hv : vcB n F = true) (hi : i < n) (hj : jmpB (F i).op.toList = true) : 0 ≤ (F i).k ∧ (F i).k ≤ n := by
  have h1 := allI_iff.1 (by simp only [vcB, Bool.and_eq_true] at hv; exact hv.1) i hi
  unfold okI at h1
  rw [hj] at h1
  simp only [Bool.and_eq_true, Bool.not_eq_true', Bool.true_and, decide_eq_false_iff_not] at h1
  obtain ⟨h2, h3⟩ := h1
  have h4 := vB_true.1 h2
  have h78 : wordN (F i).op.toList = 7 ∨ wordN (F i).op.toList = 8 := by
    unfold jmpB at hj
    rw [← word7, ← word8] at hj
    simpa using hj
  unfold VI at h4
  omega
/-- What is marked so far. -/
structure Ldr (w wr : World) (n : Nat) (f : Nat → Bool) : Prop where
  own : OwnB wr w.heap.size (some ⟨w.heap.size, 0, none⟩) (n + 1) (n + 1) f
  low : w.grownBy wr none
theorem Ldr.on {w wr w2 : World} {n : Nat} {f : Nat → Bool} (h : Ldr w wr n f) (hg : wr.grownBy w2 none) : Ldr w w2 n f := ⟨h.own.on hg, grown_same h.low hg⟩
theorem Ldr.mark {w wr : World} {n : Nat} {f : Nat → Bool} (h : Ldr w wr n f) (k : Nat) : Ldr w (wr.setCell ⟨w.heap.size, k, none⟩ (.bool true)) n (fun j => if j = k then true else f j) :=
  ⟨h.own.set k true, grown_then h.low (grown_set w.heap.size k _) (Nat.le_refl _)⟩
theorem Ldr.congr {w wr : World} {n : Nat} {f g : Nat → Bool} (h : Ldr w wr n f) (hf : ∀ j, f j = g j) : Ldr w wr n g := ⟨h.own.congr (fun j _ => hf j), h.low⟩
theorem Ldr.cell {w wr : World} {n : Nat} {f : Nat → Bool} (h : Ldr w wr n f) (k : Nat) (hk : k ≤ n) : wr.cell? ⟨w.heap.size, k, none⟩ = some (.bool (f k)) := by
  have := h.own.bols.cell (j := k) (by omega)
  rwa [Nat.zero_add] at this
theorem Ldr.free {w wr : World} {n : Nat} {f : Nat → Bool} (h : Ldr w wr n f) (k : Nat) : wr.frozen? ⟨w.heap.size, k, none⟩ = false := by
  exact World.ownsRow.frozenAt h.own k
theorem Ldr.row {w wr w2 : World} {n : Nat} {f : Nat → Bool} {row : Option Nat} (h : Ldr w wr n f) (g : wr.grownBy w2 row) (hr : ∀ j, row = some j → w.heap.size < j) : Ldr w w2 n f := by
  refine ⟨World.ownsRow.kept h.own g (.inr (fun e => ?_)), ⟨g.os.trans h.low.os, g.tape.trans h.low.tape, g.output.trans h.low.output, Nat.le_trans h.low.size g.size, fun i hi hn => (g.block i (Nat.lt_of_lt_of_le hi h.low.size) (fun e => ?_)).trans (h.low.block i hi hn)⟩⟩
  · have e' : some w.heap.size = row := e
    have := hr _ e'.symm
    omega
  · have := hr i e.symm
    omega
theorem Ldr.lt {w wr : World} {n : Nat} {f : Nat → Bool} (h : Ldr w wr n f) : w.heap.size < wr.heap.size := h.own.lt.2
end Go.Proofs.YtbjhlilhbeiogaaDoor
