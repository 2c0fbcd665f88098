/- The laws' helpers over slices of instructions: measure, copy, compare, for every slice whose cells can be read. -/
import Derived.Test.YtblnchcgeepemaaDoorW50
namespace Go.Proofs.YtblnchcgeepemaaDoor
open Go.RowKit
theorem grown_set {w : World} (r o : Nat) (u : Value) : w.grownBy (w.setCell ⟨r, o, none⟩ u) (some r) := ⟨rfl, rfl, rfl, by simp, fun k _ hk => heap_setCell_other w ⟨r, o, none⟩ k u (fun e => hk (by simp [e]))⟩
theorem grown_alloc {a w : World} (h : a.grownBy w none) (o : Obj) : a.grownBy (w.alloc o) none := grown_same h (World.grownBy_alloc w o none)
/-- What measuring leaves: a number below 0, or one from which the length can be told. -/
def SzOk (n : Nat) (left : Int) (w : World) (e : Ending) (w' : World) : Prop := ∃ r : Int, e = .returned (.int .i64 r) ∧ (r < 0 ∨ (0 ≤ r ∧ r ≤ left - n)) ∧ w.grownBy w' none
theorem info24 : (Tryd.prog.info? 32).map (fun i => (i.zero, i.size, i.bytes)) = some (some (.agg #[.string ⟨#[]⟩, .int .i64 0, .int .i64 0, .int .i64 0, .int .i64 0]), 5, 48) := by kernel_rfl
/-- The instruction of noughts. -/
def zIns : Ins := ⟨⟨#[]⟩, 0, 0, 0, 0⟩
theorem made_ins (n : Nat) : (madeCells #[Value.string ⟨#[]⟩, .int .i64 0, .int .i64 0, .int .i64 0, .int .i64 0] (n * 5)).toList = codeL n (fun _ => zIns) := by
  unfold madeCells codeL rowL
  rw [Array.toList_map, Array.toList_range]
  apply List.map_congr_left
  intro i _
  show (#[Value.string ⟨#[]⟩, .int .i64 0, .int .i64 0, .int .i64 0, .int .i64 0])[i % 5]! = zIns.part (i % 5)
  rcases (show i % 5 = 0 ∨ i % 5 = 1 ∨ i % 5 = 2 ∨ i % 5 = 3 ∨ i % 5 = 4 by omega) with e | e | e | e | e <;> rw [e] <;> rfl
theorem grown_drew1 (w : World) : w.grownBy w.drew none := ⟨rfl, rfl, rfl, Nat.le_refl _, fun _ _ _ => rfl⟩
end Go.Proofs.YtblnchcgeepemaaDoor
