/- Wide instructions that are valid: by the program and by its model, for each list whose cells can be read. -/
import Derived.Test.YtehjfnfpebdidaaDoorW802
namespace Go.Proofs.YtehjfnfpebdidaaDoor
open Go.RowKit
set_option linter.unusedSimpArgs false
/-- Is it a word with two sides? -/
def twoB (l : List UInt8) : Bool := (l == [97, 100, 100]) || (l == [115, 117, 98]) || (l == [109, 117, 108]) || (l == [108, 116])
/-- Is the wide instruction valid behind i others? -/
def okW (i : Nat) (c : Wid) : Bool :=
  if (c.op.toList == [115, 101, 116]) = true then decide (c.a = 0) && decide (c.b = 0) && decide (0 ≤ c.k) && decide (c.k ≤ 255)
  else twoB c.op.toList && decide (c.k = 0) && decide (0 ≤ c.a) && decide (c.a < (i : Int)) && decide (0 ≤ c.b) && decide (c.b < (i : Int))
/-- Are they wide instructions? -/
def vwB (n : Nat) (f : Nat → Wid) : Bool := ((List.range n).all fun j => okW j (f j)) && decide (n ≤ 8)
theorem vwB_iff {n : Nat} {f : Nat → Wid} : vwB n f = true ↔ (∀ j, j < n → okW j (f j) = true) ∧ n ≤ 8 := by
  simp [vwB, List.all_eq_true]
theorem vwB_no {n k : Nat} {f : Nat → Wid} (hk : k < n) (h : okW k (f k) = false) : vwB n f = false := by
  rw [Bool.eq_false_iff]
  intro hv
  rw [(vwB_iff.1 hv).1 k hk] at h
  cases h
theorem vwB_all {n : Nat} {f : Nat → Wid} (h : ∀ j, j < n → okW j (f j) = true) : vwB n f = decide (n ≤ 8) := by
  rw [Bool.eq_iff_iff, vwB_iff, decide_eq_true_iff]
  exact ⟨fun h => h.2, fun h' => ⟨h, h'⟩⟩
theorem vwB_big {n : Nat} {f : Nat → Wid} (h : 8 < n) : vwB n f = false := by
  rw [Bool.eq_false_iff]
  intro hv
  have := (vwB_iff.1 hv).2
  omega
theorem vwB_congr {n : Nat} {f g : Nat → Wid} (h : ∀ j, j < n → f j = g j) : vwB n f = vwB n g := by
  rw [Bool.eq_iff_iff, vwB_iff, vwB_iff]
  exact ⟨fun ⟨a, b⟩ => ⟨fun j hj => by rw [← h j hj]; exact a j hj, b⟩, fun ⟨a, b⟩ => ⟨fun j hj => by rw [h j hj]; exact a j hj, b⟩⟩
theorem two_word (l : List UInt8) : twoB l = true ↔ wordN l = 1 ∨ wordN l = 2 ∨ wordN l = 3 ∨ wordN l = 4 := by
  constructor
  · intro h
    simp only [twoB, Bool.or_eq_true, beq_iff_eq] at h
    rcases h with ((rfl | rfl) | rfl) | rfl
    · exact .inl rfl
    · exact .inr (.inl rfl)
    · exact .inr (.inr (.inl rfl))
    · exact .inr (.inr (.inr rfl))
  · intro h
    rcases h with h | h | h | h
    · rcases word_is l 1 (by omega) h with h | h | h | h | h | h | h | h | h | h <;> first | exact absurd h.1 (by omega) | simp [twoB, beq_iff_eq.1 h.2]
    · rcases word_is l 2 (by omega) h with h | h | h | h | h | h | h | h | h | h <;> first | exact absurd h.1 (by omega) | simp [twoB, beq_iff_eq.1 h.2]
    · rcases word_is l 3 (by omega) h with h | h | h | h | h | h | h | h | h | h <;> first | exact absurd h.1 (by omega) | simp [twoB, beq_iff_eq.1 h.2]
    · rcases word_is l 4 (by omega) h with h | h | h | h | h | h | h | h | h | h <;> first | exact absurd h.1 (by omega) | simp [twoB, beq_iff_eq.1 h.2]
theorem word0 (l : List UInt8) : (l == [115, 101, 116]) = true ↔ wordN l = 0 := by
  rw [beq_iff_eq]
  constructor
  · rintro rfl
    rfl
  · intro h
    rcases word_is l 0 (by omega) h with h | h | h | h | h | h | h | h | h | h <;> first | exact absurd h.1 (by omega) | exact (beq_iff_eq.1 h.2).symm
theorem twoSided_any (op : ByteArray) (w : World) :
    Calls Tryd.prog 37 #[.string op] w fun e w' => e = .returned (.bool (twoB op.toList)) ∧ w = w' := by
  unfold twoB
  rcases e1 : (op.toList == [97, 100, 100]) with _ | _ <;> rcases e2 : (op.toList == [115, 117, 98]) with _ | _ <;> rcases e3 : (op.toList == [109, 117, 108]) with _ | _ <;> rcases e4 : (op.toList == [108, 116]) with _ | _
  all_goals
    go_enter Tryd.func37, Tryd.ntmps37
    go_wp2
    go_ret
    exact ⟨rfl, rfl⟩
/-- What is asked of a wide instruction, in numbers. -/
theorem okW_told (op : ByteArray) (a b k : Int) (i : Nat) : okW i ⟨op, a, b, k⟩ = decide ((wordN op.toList = 0 ∧ a = 0 ∧ b = 0 ∧ 0 ≤ k ∧ k ≤ 255) ∨ ((wordN op.toList = 1 ∨ wordN op.toList = 2 ∨ wordN op.toList = 3 ∨ wordN op.toList = 4) ∧ k = 0 ∧ 0 ≤ a ∧ a < (i : Int) ∧ 0 ≤ b ∧ b < (i : Int))) := by
  have h0 := word0 op.toList
  have h1 := two_word op.toList
  rw [Bool.eq_iff_iff, decide_eq_true_iff]
  unfold okW
  by_cases e : (op.toList == [115, 101, 116]) = true
  · have := h0.1 e
    rw [if_pos e]
    simp only [Bool.and_eq_true, decide_eq_true_eq]
    omega
  · have : wordN op.toList ≠ 0 := fun h => e (h0.2 h)
    rw [if_neg e]
    simp only [Bool.and_eq_true, decide_eq_true_eq, h1]
    omega
set_option maxHeartbeats 4000000 in
theorem isWide_any (op : ByteArray) (a b k : Int) (i : Nat) (w : World) (hg : WT w) :
    Calls Tryd.prog 26 #[WV op a b k, .int .i64 i] w fun e w' => e = .returned (.bool (okW i ⟨op, a, b, k⟩)) ∧ w.grownBy w' none := by
  have HW := shade (fun W (hW : WT W) => wordOf_any op W hW)
  have HG := shade hg
  have hr := wordN_range op.toList
  clear hg
  have HO := shade (okW_told op a b k i)
  generalize okW i ⟨op, a, b, k⟩ = v at *
  generalize wordN op.toList = m at *
  have hcl := (Holds5.fresh w 43 #[.string op, .int .i64 a, .int .i64 b, .int .i64 k])
  have hal := World.grownBy_alloc w (.cells #[.string op, .int .i64 a, .int .i64 b, .int .i64 k] 43) none
  have HCL := shade (And.intro (hcl.look 0) (And.intro (hcl.look 1) (And.intro (hcl.look 2) (hcl.look 3))))
  have HAL := shade hal
  clear hcl hal
  by_cases hm0 : m = 0
  · subst hm0
    by_cases ha : a = 0
    · subst ha
      by_cases hb : b = 0
      · subst hb
        go_enter Tryd.func26, Tryd.ntmps26
        go_wp2_with (first
          | (go_at_call 27; refine (HW.out _ (HG.out.alloc _)).mono ?_; rintro e w' ⟨rfl, rfl⟩)
          | go_in)
        go_region_held3 (fun w' => w'.cell? ⟨w.heap.size, 1, none⟩ = some (.int .i64 0) ∧ w'.cell? ⟨w.heap.size, 2, none⟩ = some (.int .i64 0) ∧ w'.cell? ⟨w.heap.size, 3, none⟩ = some (.int .i64 k)) (exact HCL.out.2) ((go_at_call 38; refine (rest_any _ _).mono ?_; rintro e w2 ⟨rfl, rfl⟩))
        rename_i hHeld
        clear hHeld
        go_wp2
        go_ret
        refine ⟨congrArg (fun z => Ending.returned (.bool z)) ?_, by first | exact HAL.out | exact grown_same HAL.out (grown_drew1 _) | exact grown_drewN HAL.out _⟩
        rw [HO.out]
        first
          | exact (decide_eq_false (by simp only [true_or, or_true, true_and, and_true]; omega)).symm
          | exact (decide_eq_false (by omega)).symm
          | exact (decide_eq_true (by omega)).symm
          | (rw [Bool.eq_iff_iff, decide_eq_true_iff, beq_iff_eq]; simp only [true_and, true_or, or_true, and_true]; omega)
      · have e1 : (b == 0) = false := beq_eq_false_iff_ne.2 hb
        go_enter Tryd.func26, Tryd.ntmps26
        go_wp2_with (first
          | (go_at_call 27; refine (HW.out _ (HG.out.alloc _)).mono ?_; rintro e w' ⟨rfl, rfl⟩)
          | go_in)
        go_quiet (fail)
        go_wp2
        go_ret
        refine ⟨congrArg (fun z => Ending.returned (.bool z)) ?_, by first | exact HAL.out | exact grown_same HAL.out (grown_drew1 _) | exact grown_drewN HAL.out _⟩
        rw [HO.out]
        first
          | exact (decide_eq_false (by simp only [true_or, or_true, true_and, and_true]; omega)).symm
          | exact (decide_eq_false (by omega)).symm
          | exact (decide_eq_true (by omega)).symm
          | (rw [Bool.eq_iff_iff, decide_eq_true_iff, beq_iff_eq]; simp only [true_and, true_or, or_true, and_true]; omega)
    · have e1 : (a == 0) = false := beq_eq_false_iff_ne.2 ha
      go_enter Tryd.func26, Tryd.ntmps26
      go_wp2_with (first
        | (go_at_call 27; refine (HW.out _ (HG.out.alloc _)).mono ?_; rintro e w' ⟨rfl, rfl⟩)
        | go_in)
      go_quiet (fail)
      go_wp2
      go_ret
      refine ⟨congrArg (fun z => Ending.returned (.bool z)) ?_, by first | exact HAL.out | exact grown_same HAL.out (grown_drew1 _) | exact grown_drewN HAL.out _⟩
      rw [HO.out]
      first
        | exact (decide_eq_false (by simp only [true_or, or_true, true_and, and_true]; omega)).symm
        | exact (decide_eq_false (by omega)).symm
        | exact (decide_eq_true (by omega)).symm
        | (rw [Bool.eq_iff_iff, decide_eq_true_iff, beq_iff_eq]; simp only [true_and, true_or, or_true, and_true]; omega)
  · rcases (show m = 1 ∨ m = 2 ∨ m = 3 ∨ m = 4 ∨ (m = -1 ∨ m = 5 ∨ m = 6 ∨ m = 7 ∨ m = 8 ∨ m = 9) by omega) with rfl | rfl | rfl | rfl | hm
    iterate 4
      · go_enter Tryd.func26, Tryd.ntmps26
        go_wp2_with (first
          | (go_at_call 27; refine (HW.out _ (HG.out.alloc _)).mono ?_; rintro e w' ⟨rfl, rfl⟩)
          | go_in)
        all_goals
          try go_wp2
        all_goals
          go_ret
          refine ⟨congrArg (fun z => Ending.returned (.bool z)) ?_, by first | exact HAL.out | exact grown_same HAL.out (grown_drew1 _) | exact grown_drewN HAL.out _⟩
          rw [HO.out]
          first
            | exact (decide_eq_false (by simp only [true_or, or_true, true_and, and_true]; omega)).symm
            | exact (decide_eq_false (by omega)).symm
            | exact (decide_eq_true (by omega)).symm
            | (rw [Bool.eq_iff_iff, decide_eq_true_iff, beq_iff_eq]; simp only [true_and, true_or, or_true, and_true]; omega)
    · rcases hm with rfl | rfl | rfl | rfl | rfl | rfl
      all_goals
        go_enter Tryd.func26, Tryd.ntmps26
        go_wp2_with (first
          | (go_at_call 27; refine (HW.out _ (HG.out.alloc _)).mono ?_; rintro e w' ⟨rfl, rfl⟩)
          | go_in)
        go_ret
        refine ⟨congrArg (fun z => Ending.returned (.bool z)) ?_, by first | exact HAL.out | exact grown_same HAL.out (grown_drew1 _) | exact grown_drewN HAL.out _⟩
        rw [HO.out]
        first
          | exact (decide_eq_false (by simp only [true_or, or_true, true_and, and_true]; omega)).symm
          | exact (decide_eq_false (by omega)).symm
          | exact (decide_eq_true (by omega)).symm
          | (rw [Bool.eq_iff_iff, decide_eq_true_iff, beq_iff_eq]; simp only [true_and, true_or, or_true, and_true]; omega)
end Go.Proofs.YtehjfnfpebdidaaDoor
