/- The function wordOf returns the index of its word, provided that the variable wordTexts holds its ten words. -/
import Derived.Test.YtcfnoihjpiklhaaDoorW0
import Derived.WalkKit
import Derived.WalkSpells
import Derived.WalkLawsBesides
import Derived.Handy
namespace Go.Proofs.YtcfnoihjpiklhaaDoor
open Go.RowKit
def wtCells : Array Value := #[.string ⟨#[115, 101, 116]⟩, .string ⟨#[97, 100, 100]⟩, .string ⟨#[115, 117, 98]⟩, .string ⟨#[109, 117, 108]⟩, .string ⟨#[108, 116]⟩, .string ⟨#[108, 100]⟩, .string ⟨#[115, 116]⟩, .string ⟨#[98, 122]⟩, .string ⟨#[106, 109, 112]⟩, .string ⟨#[104, 108, 116]⟩]
theorem wtAt0 (w : World) : (Instr.index 87 (.agg wtCells) (.int .i64 0)).run Tryd.prog w = .ok (.string ⟨#[115, 101, 116]⟩) w := by kernel_rfl
theorem wtAt1 (w : World) : (Instr.index 87 (.agg wtCells) (.int .i64 1)).run Tryd.prog w = .ok (.string ⟨#[97, 100, 100]⟩) w := by kernel_rfl
theorem wtAt2 (w : World) : (Instr.index 87 (.agg wtCells) (.int .i64 2)).run Tryd.prog w = .ok (.string ⟨#[115, 117, 98]⟩) w := by kernel_rfl
theorem wtAt3 (w : World) : (Instr.index 87 (.agg wtCells) (.int .i64 3)).run Tryd.prog w = .ok (.string ⟨#[109, 117, 108]⟩) w := by kernel_rfl
theorem wtAt4 (w : World) : (Instr.index 87 (.agg wtCells) (.int .i64 4)).run Tryd.prog w = .ok (.string ⟨#[108, 116]⟩) w := by kernel_rfl
theorem wtAt5 (w : World) : (Instr.index 87 (.agg wtCells) (.int .i64 5)).run Tryd.prog w = .ok (.string ⟨#[108, 100]⟩) w := by kernel_rfl
theorem wtAt6 (w : World) : (Instr.index 87 (.agg wtCells) (.int .i64 6)).run Tryd.prog w = .ok (.string ⟨#[115, 116]⟩) w := by kernel_rfl
theorem wtAt7 (w : World) : (Instr.index 87 (.agg wtCells) (.int .i64 7)).run Tryd.prog w = .ok (.string ⟨#[98, 122]⟩) w := by kernel_rfl
theorem wtAt8 (w : World) : (Instr.index 87 (.agg wtCells) (.int .i64 8)).run Tryd.prog w = .ok (.string ⟨#[106, 109, 112]⟩) w := by kernel_rfl
theorem wtAt9 (w : World) : (Instr.index 87 (.agg wtCells) (.int .i64 9)).run Tryd.prog w = .ok (.string ⟨#[104, 108, 116]⟩) w := by kernel_rfl
/-- The variable wordTexts holds its words. -/
def WT (w : World) : Prop := ∃ t fr, w.heap[0]? = some (.cells wtCells t fr)
theorem WT.below {B : Nat} {w w' : World} (h : WT w) (hb : Below B w w') (hB : 0 < B) : WT w' := by
  obtain ⟨t, fr, h⟩ := h
  exact ⟨t, fr, (hb.block _ hB).trans h⟩
theorem WT.alloc {w : World} (h : WT w) (o : Obj) : WT (w.alloc o) := by
  obtain ⟨t, fr, h⟩ := h
  exact ⟨t, fr, (Below.heap_alloc w o _ (Array.getElem?_eq_some_iff.1 h).1).trans h⟩
theorem WT.drewN {w : World} (h : WT w) (n : Nat) : WT (w.drewN n) := h
theorem WT.drew {w : World} (h : WT w) : WT w.drew := h
theorem WT.grown {w w' : World} {row : Option Nat} (h : WT w) (hb : w.grownBy w' row) (hg : some 0 ≠ row) : WT w' := by
  obtain ⟨t, fr, h⟩ := h
  exact ⟨t, fr, (hb.block _ (Array.getElem?_eq_some_iff.1 h).1 hg).trans h⟩
/-- The index of a word, -1 if it is none. -/
def wordN (l : List UInt8) : Int :=
  if [115, 101, 116] == l then 0
  else if [97, 100, 100] == l then 1
  else if [115, 117, 98] == l then 2
  else if [109, 117, 108] == l then 3
  else if [108, 116] == l then 4
  else if [108, 100] == l then 5
  else if [115, 116] == l then 6
  else if [98, 122] == l then 7
  else if [106, 109, 112] == l then 8
  else if [104, 108, 116] == l then 9
  else -1

set_option maxHeartbeats 1000000 in
theorem wordOf_any (op : ByteArray) (w : World) (hg0 : WT w) :
    Calls Tryd.prog 29 #[.string op] w fun e w' => e = .returned (.int .i64 (wordN op.toList)) ∧ w = w' := by
  obtain ⟨t, fr, hg⟩ := hg0
  have i0 := wtAt0
  have i1 := wtAt1
  have i2 := wtAt2
  have i3 := wtAt3
  have i4 := wtAt4
  have i5 := wtAt5
  have i6 := wtAt6
  have i7 := wtAt7
  have i8 := wtAt8
  have i9 := wtAt9
  go_enter Tryd.func29, Tryd.ntmps29
  go_wp2_with (refine wpList_load_row rfl 87 _ rfl 0 rfl t _ fr _ hg Tryd.underlying87 rfl (by kernel_rfl) ?_)
  clear hg
  refine wp_loop_rounds 11 ?_
  iterate 11 any_goals (rw [rounds_succ]; go_wp2)
  all_goals
    go_ret
    exact ⟨by simp [wordN, *], rfl⟩
end Go.Proofs.YtcfnoihjpiklhaaDoor