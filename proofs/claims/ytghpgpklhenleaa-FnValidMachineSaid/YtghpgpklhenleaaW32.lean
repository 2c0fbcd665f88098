/- Machines that the call makes: NewMachine, its model, and a state's machine. -/
import Derived.Test.YtghpgpklhenleaaW31
import Derived.BigRegion
import Derived.Laws.ResultCell
namespace Go.Proofs.Ytghpgpklhenleaa
open Go.RowKit
/-- A machine as a value. -/
abbrev MV (at' : Int) (A1 : Option Addr) (n1 c1 : Nat) (A2 : Option Addr) (n2 c2 : Nat) : Value := .agg #[.int .i64 at', .slice A1 n1 c1, .slice A2 n2 c2]
/-- What a call that makes a machine leaves. -/
def MachOk (w : World) (at' : Int) (n1 n2 : Nat) (f1 f2 : Nat → Int) (e : Ending) (w' : World) : Prop :=
  ∃ g1 c1 g2 c2, e = .returned (MV at' (some ⟨g1, 0, none⟩) n1 c1 (some ⟨g2, 0, none⟩) n2 c2) ∧ g1 ≠ g2 ∧ Own w' w.heap.size (some ⟨g1, 0, none⟩) n1 c1 f1 ∧ Own w' w.heap.size (some ⟨g2, 0, none⟩) n2 c2 f2 ∧ w.grownBy w' none


theorem make4 (W : World) : (Instr.makeSlice 23 (.int .i64 4) (.int .i64 4)).run Try.prog W = .ok (.slice (some ⟨W.heap.size, 0, none⟩) 4 4) (W.alloc (.cells #[.int .i64 0, .int .i64 0, .int .i64 0, .int .i64 0] 3)) := by
  obtain ⟨i0, hi, hz0, hz1, hz2⟩ := info_parts info3
  have h := run_make (P := Try.prog) W 23 3 i0 (.int .i64 0) Try.underlying23 hi hz0 .i64 .i64 4 4 (by omega) (by omega) (by rw [hz2]; omega) (by omega)
  rw [hz1, show (Int.toNat 4) = 4 from rfl, show madeCells (Value.int .i64 0).cells (4 * 1) = #[.int .i64 0, .int .i64 0, .int .i64 0, .int .i64 0] from Array.toList_inj.1 (toList_madeCells_one _ _)] at h
  exact h
theorem make8 (W : World) : (Instr.makeSlice 23 (.int .i64 8) (.int .i64 8)).run Try.prog W = .ok (.slice (some ⟨W.heap.size, 0, none⟩) 8 8) (W.alloc (.cells #[.int .i64 0, .int .i64 0, .int .i64 0, .int .i64 0, .int .i64 0, .int .i64 0, .int .i64 0, .int .i64 0] 3)) := by
  obtain ⟨i0, hi, hz0, hz1, hz2⟩ := info_parts info3
  have h := run_make (P := Try.prog) W 23 3 i0 (.int .i64 0) Try.underlying23 hi hz0 .i64 .i64 8 8 (by omega) (by omega) (by rw [hz2]; omega) (by omega)
  rw [hz1, show (Int.toNat 8) = 8 from rfl, show madeCells (Value.int .i64 0).cells (8 * 1) = #[.int .i64 0, .int .i64 0, .int .i64 0, .int .i64 0, .int .i64 0, .int .i64 0, .int .i64 0, .int .i64 0] from Array.toList_inj.1 (toList_madeCells_one _ _)] at h
  exact h
set_option maxHeartbeats 1000000 in
theorem specNewMachine_any (w : World) : Calls Try.prog 12 #[] w (MachOk w 0 4 8 (fun _ => 0) (fun _ => 0)) := by
  have hm4 := make4
  have hm8 := make8
  go_enter Try.func12, Try.ntmps12
  go_wp2
  go_region
  all_goals (try go_wp2)
  · refine bodyPost_ret (results_cell_row rfl _ _ _ _ _ (0, 0) _ rfl (((Holds5.fresh w 25 #[.int .i64 0, .slice (some ⟨w.heap.size + 1, 0, none⟩) 4 4, .slice (some ⟨w.heap.size + 1 + 1, 0, none⟩) 8 8]).alloc _).alloc _) Try.underlying25 rfl (by kernel_rfl)) rfl ?_
    refine ⟨_, _, _, _, rfl, by omega, ?_, ?_, ?_⟩
    · have h := ((World.ownsRow_lit (base := w.heap.size) (e := 3) (size := 1) (w.alloc (.cells #[.int .i64 0, .slice (some ⟨w.heap.size + 1, 0, none⟩) 4 4, .slice (some ⟨w.heap.size + 1 + 1, 0, none⟩) 8 8] 25)) #[.int .i64 0, .int .i64 0, .int .i64 0, .int .i64 0] 4 (by simp) (by decide) rfl).alloc (.cells #[.int .i64 0, .int .i64 0, .int .i64 0, .int .i64 0, .int .i64 0, .int .i64 0, .int .i64 0, .int .i64 0] 3)).drew
      rw [World.size_alloc] at h
      exact h
    · have h := (World.ownsRow_lit (base := w.heap.size) (e := 3) (size := 1) ((w.alloc (.cells #[.int .i64 0, .slice (some ⟨w.heap.size + 1, 0, none⟩) 4 4, .slice (some ⟨w.heap.size + 1 + 1, 0, none⟩) 8 8] 25)).alloc (.cells #[.int .i64 0, .int .i64 0, .int .i64 0, .int .i64 0] 3)) #[.int .i64 0, .int .i64 0, .int .i64 0, .int .i64 0, .int .i64 0, .int .i64 0, .int .i64 0, .int .i64 0] 8 (by simp; omega) (by decide) rfl).drew
      rw [World.size_alloc, World.size_alloc] at h
      exact h
    · exact grown_same (grown_same (World.grownBy_alloc _ _ _) (World.grownBy_alloc _ _ _)) (grown_drewN (World.grownBy_alloc _ _ _) 1)
  · refine bodyPost_ret (results_cell_row rfl _ _ _ _ _ (0, 0) _ rfl (((Holds5.fresh w 25 #[.int .i64 0, .slice (some ⟨w.heap.size + 1 + 1, 0, none⟩) 4 4, .slice (some ⟨w.heap.size + 1, 0, none⟩) 8 8]).alloc _).alloc _) Try.underlying25 rfl (by kernel_rfl)) rfl ?_
    refine ⟨_, _, _, _, rfl, by omega, ?_, ?_, ?_⟩
    · have h := (World.ownsRow_lit (base := w.heap.size) (e := 3) (size := 1) ((w.alloc (.cells #[.int .i64 0, .slice (some ⟨w.heap.size + 1 + 1, 0, none⟩) 4 4, .slice (some ⟨w.heap.size + 1, 0, none⟩) 8 8] 25)).alloc (.cells #[.int .i64 0, .int .i64 0, .int .i64 0, .int .i64 0, .int .i64 0, .int .i64 0, .int .i64 0, .int .i64 0] 3)) #[.int .i64 0, .int .i64 0, .int .i64 0, .int .i64 0] 4 (by simp; omega) (by decide) rfl).drew
      rw [World.size_alloc, World.size_alloc] at h
      exact h
    · have h := ((World.ownsRow_lit (base := w.heap.size) (e := 3) (size := 1) (w.alloc (.cells #[.int .i64 0, .slice (some ⟨w.heap.size + 1 + 1, 0, none⟩) 4 4, .slice (some ⟨w.heap.size + 1, 0, none⟩) 8 8] 25)) #[.int .i64 0, .int .i64 0, .int .i64 0, .int .i64 0, .int .i64 0, .int .i64 0, .int .i64 0, .int .i64 0] 8 (by simp) (by decide) rfl).alloc (.cells #[.int .i64 0, .int .i64 0, .int .i64 0, .int .i64 0] 3)).drew
      rw [World.size_alloc] at h
      exact h
    · exact grown_same (grown_same (World.grownBy_alloc _ _ _) (World.grownBy_alloc _ _ _)) (grown_drewN (World.grownBy_alloc _ _ _) 1)

end Go.Proofs.Ytghpgpklhenleaa