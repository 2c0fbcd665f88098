/- What may come next behind an instruction, by the program and by its model. -/
import Derived.Test.YtlmjbflnfpccdaaDoorW97d
import Derived.Deep.QuietTactic
import Derived.BigQuiet
namespace Go.Proofs.YtlmjbflnfpccdaaDoor
open Go.RowKit
set_option linter.unusedSimpArgs false
theorem word9 (l : List UInt8) : (wordN l == 9) = (l == [104, 108, 116]) := by
  rw [Bool.eq_iff_iff, beq_iff_eq, beq_iff_eq]
  constructor
  · intro h
    rcases word_is l 9 (by omega) h with h | h | h | h | h | h | h | h | h | h
    all_goals first
      | exact absurd h.1 (by omega)
      | exact (beq_iff_eq.1 h.2).symm
  · intro h
    rw [h]
    exact wordN_at9
/-- Numbers as cells. -/
def valI (l : List Int) : List Value := l.map (Value.int .i64)
theorem numL_valI (l : List Int) : numL l.length (fun j => l.getD j 0) = valI l := by
  unfold numL valI
  apply List.ext_getElem
  · simp
  · intro i h1 h2
    have hi : i < l.length := by simpa using h1
    simp [hi]
theorem valI_snoc (l : List Int) (x : Int) : valI l ++ [.int .i64 x] = valI (l ++ [x]) := by
  unfold valI
  rw [List.map_append]
  rfl
/-- What a call leaves that makes these numbers. -/
def IntRes (l : List Int) (w : World) (e : Ending) (w' : World) : Prop :=
  ∃ v, e = .returned v ∧ w'.ownsRow w.heap.size 3 1 v l.length (valI l) ∧ w.grownBy w' none
theorem IntRes.num {l : List Int} {w w' : World} {e : Ending} (h : IntRes l w e w') : NumRes l.length (fun j => l.getD j 0) w e w' := by
  obtain ⟨v, he, ho, hg⟩ := h
  exact ⟨v, he, by rw [numL_valI]; exact ho, hg⟩
theorem IntRes.nil (w w' : World) (hg : w.grownBy w' none) : IntRes [] w (.returned (.slice none 0 0)) w' := ⟨_, rfl, World.ownsRow_nil _ _ _ _, hg⟩
theorem IntRes.after {l : List Int} {w w1 w2 : World} {e : Ending} (hg : w.grownBy w1 none) (h : IntRes l w1 e w2) : IntRes l w e w2 := by
  obtain ⟨v, he, ho, h2⟩ := h
  exact ⟨v, he, World.ownsRow.mono ho hg.size, grown_same hg h2⟩
/-- What may come next behind the instruction i. -/
def nxI (c : Ins) (i : Nat) : List Int :=
  if (c.op.toList == [104, 108, 116]) = true then []
  else if (c.op.toList == [106, 109, 112]) = true then [c.k]
  else if (c.op.toList == [98, 122]) = true then (if (c.k == (i : Int) + 1) = true then [(i : Int) + 1] else [(i : Int) + 1, c.k])
  else [(i : Int) + 1]
theorem nxI_le (c : Ins) (i : Nat) : (nxI c i).length ≤ 2 := by
  unfold nxI
  repeat' split
  all_goals simp
end Go.Proofs.YtlmjbflnfpccdaaDoor
