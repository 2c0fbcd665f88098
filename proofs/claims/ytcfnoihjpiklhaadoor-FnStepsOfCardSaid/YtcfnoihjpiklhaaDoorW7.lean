/- ValidInstr returns the test of validity where the word is none, and where the instruction is told by its own text, provided that wordTexts holds its words. -/
import Derived.Test.YtcfnoihjpiklhaaDoorW6
import Derived.BigQuiet
import Derived.Deep.QuietTactic
import Derived.Deep.RegionHeld3
import Derived.Deep.DrawnRows
import Derived.WalkSmall
namespace Go.Proofs.YtcfnoihjpiklhaaDoor
open Go.RowKit
set_option linter.unusedSimpArgs false

theorem told_0 (d a b k : Int) : told (namesN 0).data.toList d a b k = (d, 0, 0, k) := by
  simp [told, namesN, wD, wA, wB, wK, partV]
theorem told_1 (d a b k : Int) : told (namesN 1).data.toList d a b k = (d, a, b, 0) := by
  simp [told, namesN, wD, wA, wB, wK, partV]
theorem told_2 (d a b k : Int) : told (namesN 2).data.toList d a b k = (d, a, b, 0) := by
  simp [told, namesN, wD, wA, wB, wK, partV]
theorem told_3 (d a b k : Int) : told (namesN 3).data.toList d a b k = (d, a, b, 0) := by
  simp [told, namesN, wD, wA, wB, wK, partV]
theorem told_4 (d a b k : Int) : told (namesN 4).data.toList d a b k = (d, a, b, 0) := by
  simp [told, namesN, wD, wA, wB, wK, partV]
theorem told_5 (d a b k : Int) : told (namesN 5).data.toList d a b k = (d, a, 0, k) := by
  simp [told, namesN, wD, wA, wB, wK, partV]
theorem told_6 (d a b k : Int) : told (namesN 6).data.toList d a b k = (d, a, 0, k) := by
  simp [told, namesN, wD, wA, wB, wK, partV]
theorem told_7 (d a b k : Int) : told (namesN 7).data.toList d a b k = (0, a, 0, k) := by
  simp [told, namesN, wD, wA, wB, wK, partV]
theorem told_8 (d a b k : Int) : told (namesN 8).data.toList d a b k = (0, 0, 0, k) := by
  simp [told, namesN, wD, wA, wB, wK, partV]
theorem told_9 (d a b k : Int) : told (namesN 9).data.toList d a b k = (0, 0, 0, 0) := by
  simp [told, namesN, wD, wA, wB, wK, partV]
theorem VI_told_0 (l : List UInt8) (d a b k : Int) (hw : wordN l = 0) :
    VI l d a b k ↔ ((d, 0, 0, k) = (d, a, b, k) ∧ (0 ≤ d ∧ d < 4) ∧ (0 ≤ a ∧ a < 4) ∧ (0 ≤ b ∧ b < 4) ∧ 0 ≤ k ∧ k ≤ 255) := by
  unfold VI
  rw [hw]
  simp only [Prod.mk.injEq, true_and, and_true]
  omega
theorem VI_told_1 (l : List UInt8) (d a b k : Int) (hw : wordN l = 1) :
    VI l d a b k ↔ ((d, a, b, 0) = (d, a, b, k) ∧ (0 ≤ d ∧ d < 4) ∧ (0 ≤ a ∧ a < 4) ∧ (0 ≤ b ∧ b < 4) ∧ 0 ≤ k ∧ k ≤ 0) := by
  unfold VI
  rw [hw]
  simp only [Prod.mk.injEq, true_and, and_true]
  omega
theorem VI_told_2 (l : List UInt8) (d a b k : Int) (hw : wordN l = 2) :
    VI l d a b k ↔ ((d, a, b, 0) = (d, a, b, k) ∧ (0 ≤ d ∧ d < 4) ∧ (0 ≤ a ∧ a < 4) ∧ (0 ≤ b ∧ b < 4) ∧ 0 ≤ k ∧ k ≤ 0) := by
  unfold VI
  rw [hw]
  simp only [Prod.mk.injEq, true_and, and_true]
  omega
theorem VI_told_3 (l : List UInt8) (d a b k : Int) (hw : wordN l = 3) :
    VI l d a b k ↔ ((d, a, b, 0) = (d, a, b, k) ∧ (0 ≤ d ∧ d < 4) ∧ (0 ≤ a ∧ a < 4) ∧ (0 ≤ b ∧ b < 4) ∧ 0 ≤ k ∧ k ≤ 0) := by
  unfold VI
  rw [hw]
  simp only [Prod.mk.injEq, true_and, and_true]
  omega
theorem VI_told_4 (l : List UInt8) (d a b k : Int) (hw : wordN l = 4) :
    VI l d a b k ↔ ((d, a, b, 0) = (d, a, b, k) ∧ (0 ≤ d ∧ d < 4) ∧ (0 ≤ a ∧ a < 4) ∧ (0 ≤ b ∧ b < 4) ∧ 0 ≤ k ∧ k ≤ 0) := by
  unfold VI
  rw [hw]
  simp only [Prod.mk.injEq, true_and, and_true]
  omega
theorem VI_told_5 (l : List UInt8) (d a b k : Int) (hw : wordN l = 5) :
    VI l d a b k ↔ ((d, a, 0, k) = (d, a, b, k) ∧ (0 ≤ d ∧ d < 4) ∧ (0 ≤ a ∧ a < 4) ∧ (0 ≤ b ∧ b < 4) ∧ 0 ≤ k ∧ k ≤ 7) := by
  unfold VI
  rw [hw]
  simp only [Prod.mk.injEq, true_and, and_true]
  omega
theorem VI_told_6 (l : List UInt8) (d a b k : Int) (hw : wordN l = 6) :
    VI l d a b k ↔ ((d, a, 0, k) = (d, a, b, k) ∧ (0 ≤ d ∧ d < 4) ∧ (0 ≤ a ∧ a < 4) ∧ (0 ≤ b ∧ b < 4) ∧ 0 ≤ k ∧ k ≤ 7) := by
  unfold VI
  rw [hw]
  simp only [Prod.mk.injEq, true_and, and_true]
  omega
theorem VI_told_7 (l : List UInt8) (d a b k : Int) (hw : wordN l = 7) :
    VI l d a b k ↔ ((0, a, 0, k) = (d, a, b, k) ∧ (0 ≤ d ∧ d < 4) ∧ (0 ≤ a ∧ a < 4) ∧ (0 ≤ b ∧ b < 4) ∧ 0 ≤ k ∧ k ≤ 40) := by
  unfold VI
  rw [hw]
  simp only [Prod.mk.injEq, true_and, and_true]
  omega
theorem VI_told_8 (l : List UInt8) (d a b k : Int) (hw : wordN l = 8) :
    VI l d a b k ↔ ((0, 0, 0, k) = (d, a, b, k) ∧ (0 ≤ d ∧ d < 4) ∧ (0 ≤ a ∧ a < 4) ∧ (0 ≤ b ∧ b < 4) ∧ 0 ≤ k ∧ k ≤ 40) := by
  unfold VI
  rw [hw]
  simp only [Prod.mk.injEq, true_and, and_true]
  omega
theorem VI_told_9 (l : List UInt8) (d a b k : Int) (hw : wordN l = 9) :
    VI l d a b k ↔ ((0, 0, 0, 0) = (d, a, b, k) ∧ (0 ≤ d ∧ d < 4) ∧ (0 ≤ a ∧ a < 4) ∧ (0 ≤ b ∧ b < 4) ∧ 0 ≤ k ∧ k ≤ 0) := by
  unfold VI
  rw [hw]
  simp only [Prod.mk.injEq, true_and, and_true]
  omega
/-- Valid is: told by its own text, with registers and a K in their ranges. -/
theorem VI_told (l : List UInt8) (d a b k : Int) (n : Nat) (hn : n < 10) (hw : wordN l = n) :
    VI l d a b k ↔ (told (namesN n).data.toList d a b k = (d, a, b, k) ∧ (0 ≤ d ∧ d < 4) ∧ (0 ≤ a ∧ a < 4) ∧ (0 ≤ b ∧ b < 4) ∧ 0 ≤ k ∧ k ≤ gkN n) := by
  match n, hn, hw with
  | 0, _, hw => rw [told_0]; exact VI_told_0 l d a b k hw
  | 1, _, hw => rw [told_1]; exact VI_told_1 l d a b k hw
  | 2, _, hw => rw [told_2]; exact VI_told_2 l d a b k hw
  | 3, _, hw => rw [told_3]; exact VI_told_3 l d a b k hw
  | 4, _, hw => rw [told_4]; exact VI_told_4 l d a b k hw
  | 5, _, hw => rw [told_5]; exact VI_told_5 l d a b k hw
  | 6, _, hw => rw [told_6]; exact VI_told_6 l d a b k hw
  | 7, _, hw => rw [told_7]; exact VI_told_7 l d a b k hw
  | 8, _, hw => rw [told_8]; exact VI_told_8 l d a b k hw
  | 9, _, hw => rw [told_9]; exact VI_told_9 l d a b k hw

set_option maxHeartbeats 1000000 in
theorem ValidInstr_neg (op : ByteArray) (d a b k : Int) (w : World) (hg : WT w) (hw : wordN op.toList = -1) :
    Calls Tryd.prog 55 #[IV op d a b k] w fun e w' => e = .returned (.bool false) ∧ Below w.heap.size w w' := by
  have HG := shade hg
  have HW := shade hw
  clear hg hw
  go_enter Tryd.func55, Tryd.ntmps55
  go_wp2_with (first | (go_at_call 29; refine (wordOf_any _ _ (WT.alloc HG.out _)).mono ?_; rw [HW.out]; rintro e w' ⟨rfl, rfl⟩))
  go_quiet (fail)
  go_wp2
  go_ret
  exact ⟨rfl, below_drewN (by go_grown) _⟩

theorem regB_t {n : Int} : regB n = true ↔ (0 ≤ n ∧ n < 4) := by simp [regB]
theorem regB_f {n : Int} : regB n = false ↔ ¬ (0 ≤ n ∧ n < 4) := by rw [← regB_t]; simp
theorem bcells {W w1 : World} (hb : Below W.heap.size W w1) : (∀ b o, b < W.heap.size → w1.cell? ⟨b, o, none⟩ = W.cell? ⟨b, o, none⟩) ∧ W.heap.size ≤ w1.heap.size :=
  ⟨fun b o h => hb.cell (p := ⟨b, o, none⟩) h, hb.size⟩


set_option maxHeartbeats 2000000 in
theorem ValidInstr_yes (op : ByteArray) (d a b k : Int) (w : World) (hg : WT w) (n : Nat) (hn : n < 10) (hw : wordN op.toList = n) (ht : told (namesN n).data.toList d a b k = (d, a, b, k)) :
    Calls Tryd.prog 55 #[IV op d a b k] w fun e w' => e = .returned (.bool (vB op.toList d a b k)) ∧ Below w.heap.size w w' := by
  have HV := shade (VI_told op.toList d a b k n hn hw)
  have HG := shade hg
  have HW := shade hw
  have HT := shade ht
  clear hg hw ht
  have hnn : decide ((n : Int) < 0) = false := by simp
  generalize hz : vB op.toList d a b k = z
  have HZ := shade hz
  clear hz
  go_enter Tryd.func55, Tryd.ntmps55
  go_wp2_with (first | (go_at_call 29; refine (wordOf_any _ _ (WT.alloc HG.out _)).mono ?_; rw [HW.out]; rintro e w' ⟨rfl, rfl⟩))
  go_region_held3 (fun w' => w'.cell? ⟨w.heap.size, 0, none⟩ = some (.string op) ∧ w'.cell? ⟨w.heap.size, 1, none⟩ = some (.int .i64 d) ∧ w'.cell? ⟨w.heap.size, 2, none⟩ = some (.int .i64 a) ∧ w'.cell? ⟨w.heap.size, 3, none⟩ = some (.int .i64 b) ∧ w'.cell? ⟨w.heap.size, 4, none⟩ = some (.int .i64 k)) (refine ⟨?_, ?_, ?_, ?_, ?_⟩ <;> go_cell)
    ((go_at_call 63; refine (toldParts_any _ _ _ _ _ _ hn _).mono ?_; rw [HT.out]; rintro e w1 ⟨rfl, hb⟩; have hc := bcells hb; have hB := ((Below.refl w.heap.size w).alloc (Nat.le_refl _) _).drew.trans (hb.mono (by simp))))
  by_cases hk : 0 ≤ k
  · have hkd : decide (0 ≤ k) = true := by simpa using hk
    go_wp2_with (first | (go_at_call 64; refine (isRegister_any _ _).mono ?_; rintro e w' ⟨rfl, rfl⟩))
    all_goals first
      | (go_quiet ((go_at_call 65; exact Calls.quiet_of_same ((greatestK_any n hn _).mono fun _ _ h => ⟨h.1, h.2.symm⟩)))
         go_wp2)
      | skip
    all_goals
      go_ret
      refine ⟨congrArg (fun z => Ending.returned (.bool z)) ?_, ?_⟩
      · rw [← HZ.out, Bool.eq_iff_iff, vB_true, HV.out, HT.out]
        clear HW HV HT HZ hkd
        simp only [Bool.not_eq_true', Bool.not_eq_false', regB_t, regB_f, decide_eq_true_eq, Bool.false_eq_true, false_iff, true_and] at *
        omega
      · first | exact hB | exact below_drewN hB _
  · have hkd : decide (0 ≤ k) = false := by simpa using hk
    go_wp2_with (first | (go_at_call 64; refine (isRegister_any _ _).mono ?_; rintro e w' ⟨rfl, rfl⟩))
    all_goals first
      | (go_quiet ((go_at_call 65; exact Calls.quiet_of_same ((greatestK_any n hn _).mono fun _ _ h => ⟨h.1, h.2.symm⟩)))
         go_wp2)
      | skip
    all_goals
      go_ret
      refine ⟨congrArg (fun z => Ending.returned (.bool z)) ?_, ?_⟩
      · rw [← HZ.out, Bool.eq_iff_iff, vB_true, HV.out, HT.out]
        clear HW HV HT HZ hkd
        simp only [Bool.not_eq_true', Bool.not_eq_false', regB_t, regB_f, decide_eq_true_eq, Bool.false_eq_true, false_iff, true_and] at *
        omega
      · first | exact hB | exact below_drewN hB _

end Go.Proofs.YtcfnoihjpiklhaaDoor