/- What may come next behind an instruction, by the program and by its model. NextOf and its model answer alike. -/
import Derived.Test.YtbjhlilhbeiogaaDoorW97d
import Derived.Deep.QuietTactic
import Derived.BigQuiet
namespace Go.Proofs.YtbjhlilhbeiogaaDoor
open Go.RowKit
set_option linter.unusedSimpArgs false
theorem word9 (l : List UInt8) : (wordN l == 9) = (l == [104, 108, 116]) := by
  rw [Bool.eq_iff_iff, beq_iff_eq, beq_iff_eq]
  constructor
  · intro h
    rcases word_is l 9 (by omega) h with h | h | h | h | h | h | h | h | h | h
    all_goals first
      | exact absurd h.1 (by omega)
      | exact (beq_iff_eq.1 h.2).symm
  · intro h
    rw [h]
    exact wordN_at9
/-- Numbers as cells. -/
def valI (l : List Int) : List Value := l.map (Value.int .i64)
theorem numL_valI (l : List Int) : numL l.length (fun j => l.getD j 0) = valI l := by
  unfold numL valI
  apply List.ext_getElem
  · simp
  · intro i h1 h2
    have hi : i < l.length := by simpa using h1
    simp [hi]
theorem valI_snoc (l : List Int) (x : Int) : valI l ++ [.int .i64 x] = valI (l ++ [x]) := by
  unfold valI
  rw [List.map_append]
  rfl
/-- What a call leaves that makes these numbers. -/
def IntRes (l : List Int) (w : World) (e : Ending) (w' : World) : Prop :=
  ∃ v, e = .returned v ∧ w'.ownsRow w.heap.size 3 1 v l.length (valI l) ∧ w.grownBy w' none
theorem IntRes.num {l : List Int} {w w' : World} {e : Ending} (h : IntRes l w e w') : NumRes l.length (fun j => l.getD j 0) w e w' := by
  obtain ⟨v, he, ho, hg⟩ := h
  exact ⟨v, he, by rw [numL_valI]; exact ho, hg⟩
theorem IntRes.nil (w w' : World) (hg : w.grownBy w' none) : IntRes [] w (.returned (.slice none 0 0)) w' := ⟨_, rfl, World.ownsRow_nil _ _ _ _, hg⟩
theorem IntRes.after {l : List Int} {w w1 w2 : World} {e : Ending} (hg : w.grownBy w1 none) (h : IntRes l w1 e w2) : IntRes l w e w2 := by
  obtain ⟨v, he, ho, h2⟩ := h
  exact ⟨v, he, World.ownsRow.mono ho hg.size, grown_same hg h2⟩
/-- What may come next behind the instruction i. -/
def nxI (c : Ins) (i : Nat) : List Int :=
  if (c.op.toList == [104, 108, 116]) = true then []
  else if (c.op.toList == [106, 109, 112]) = true then [c.k]
  else if (c.op.toList == [98, 122]) = true then (if (c.k == (i : Int) + 1) = true then [(i : Int) + 1] else [(i : Int) + 1, c.k])
  else [(i : Int) + 1]
theorem nxI_le (c : Ins) (i : Nat) : (nxI c i).length ≤ 2 := by
  unfold nxI
  repeat' split
  all_goals simp
set_option maxHeartbeats 4000000 in
theorem nextOf_any (b off n c i : Nat) (F : Nat → Ins) (w : World) (hn : n ≤ 40) (hi : i < n) (h : Code w (some ⟨b, off, none⟩) n F) :
    Calls Tryd.prog 70 #[.slice (some ⟨b, off, none⟩) n c, .int .i64 i] w (IntRes (nxI (F i) i) w) := by
  obtain ⟨q0, q1, q2, q3, q4⟩ := h.five hi
  clear h
  generalize F i = cc at *
  obtain ⟨op, d, a, b', kk⟩ := cc
  simp only [] at q0 q1 q2 q3 q4
  unfold nxI
  simp only []
  have g1 := World.grownBy_alloc w (.cells #[] 3) none
  rcases e9 : (op.toList == [104, 108, 116]) with _ | _
  · rcases e8 : (op.toList == [106, 109, 112]) with _ | _
    · rcases e7 : (op.toList == [98, 122]) with _ | _
      · go_enter Tryd.func70, Tryd.ntmps70
        go_wp2
        go_ret
        exact ⟨_, rfl, World.ownsRow_lit (base := w.heap.size) (e := 3) (size := 1) w #[.int .i64 ((i : Int) + 1)] 1 (by omega) (by decide) rfl, World.grownBy_alloc _ _ _⟩
      · rcases ek : (kk == (i : Int) + 1) with _ | _
        · go_enter Tryd.func70, Tryd.ntmps70
          go_wp2
          go_ret
          exact ⟨_, rfl, World.ownsRow_lit (base := w.heap.size) (e := 3) (size := 1) w #[.int .i64 ((i : Int) + 1), .int .i64 kk] 2 (by omega) (by decide) rfl, World.grownBy_alloc _ _ _⟩
        · go_enter Tryd.func70, Tryd.ntmps70
          go_wp2
          go_ret
          exact ⟨_, rfl, World.ownsRow_lit (base := w.heap.size) (e := 3) (size := 1) w #[.int .i64 ((i : Int) + 1)] 1 (by omega) (by decide) rfl, World.grownBy_alloc _ _ _⟩
    · go_enter Tryd.func70, Tryd.ntmps70
      go_wp2
      go_ret
      exact ⟨_, rfl, World.ownsRow_lit (base := w.heap.size) (e := 3) (size := 1) w #[.int .i64 kk] 1 (by omega) (by decide) rfl, World.grownBy_alloc _ _ _⟩
  · go_enter Tryd.func70, Tryd.ntmps70
    go_wp2
    go_ret
    exact ⟨_, rfl, World.ownsRow_lit (base := w.heap.size) (e := 3) (size := 1) w #[] 0 (by omega) (by decide) rfl, g1⟩
end Go.Proofs.YtbjhlilhbeiogaaDoor

namespace Go.Proofs.YtbjhlilhbeiogaaDoor
open Go.RowKit
set_option linter.unusedSimpArgs false
set_option maxHeartbeats 4000000 in
theorem pNextOf_at (b off n c i : Nat) (F : Nat → Ins) (w : World) (hg : WT w) (hn : n ≤ 40) (hi : i < n) (h : Code w (some ⟨b, off, none⟩) n F) :
    Calls Tryd.prog 72 #[.slice (some ⟨b, off, none⟩) n c, .int .i64 i] w (IntRes (nxI (F i) i) w) := by
  obtain ⟨q0, q1, q2, q3, q4⟩ := h.five hi
  have HG := shade hg
  have hne : (i == n) = false := by simp; omega
  have hni : ((i : Int) == (n : Int)) = false := by simp; omega
  clear h hg
  generalize F i = cc at *
  obtain ⟨op, d, a, b', kk⟩ := cc
  simp only [] at q0 q1 q2 q3 q4
  have HW := shade (fun W (hW : WT W) => wordOf_any op W hW)
  unfold nxI
  simp only []
  have h9 := word9 op.toList
  have h8 := word8 op.toList
  have h7 := word7 op.toList
  rcases e9 : (op.toList == [104, 108, 116]) with _ | _
  · rw [e9] at h9
    rcases e8 : (op.toList == [106, 109, 112]) with _ | _
    · rw [e8] at h8
      rcases e7 : (op.toList == [98, 122]) with _ | _
      · rw [e7] at h7
        clear e9 e8 e7
        generalize wordN op.toList = x at *
        go_enter Tryd.func72, Tryd.ntmps72
        go_wp2_with (first | (go_at_call 79; refine (HW.out _ (HG.out.alloc _)).mono ?_; rintro e w' ⟨rfl, rfl⟩))
        go_ret
        exact ⟨.slice (some ⟨w.heap.size + 1, 0, none⟩) 1 1, rfl, by have h := World.ownsRow_lit (base := w.heap.size) (e := 3) (size := 1) (w.alloc (.cells #[.string op, .int .i64 d, .int .i64 a, .int .i64 b', .int .i64 kk] 38)) #[.int .i64 ((i : Int) + 1)] 1 (by simp) (by decide) rfl; rw [World.size_alloc] at h; exact h, grown_same (World.grownBy_alloc _ _ _) (World.grownBy_alloc _ _ _)⟩
      · rw [e7] at h7
        clear e9 e8 e7
        rcases ek : (kk == (i : Int) + 1) with _ | _
        · have ek2 : (kk != (i : Int) + 1) = true := by rw [bne, ek]; rfl
          generalize wordN op.toList = x at *
          go_enter Tryd.func72, Tryd.ntmps72
          go_wp2_with (first | (go_at_call 79; refine (HW.out _ (HG.out.alloc _)).mono ?_; rintro e w' ⟨rfl, rfl⟩))
          go_ret
          exact ⟨.slice (some ⟨w.heap.size + 1, 0, none⟩) 2 2, rfl, by have h := World.ownsRow_lit (base := w.heap.size) (e := 3) (size := 1) (w.alloc (.cells #[.string op, .int .i64 d, .int .i64 a, .int .i64 b', .int .i64 kk] 38)) #[.int .i64 ((i : Int) + 1), .int .i64 kk] 2 (by simp) (by decide) rfl; rw [World.size_alloc] at h; exact h, grown_same (World.grownBy_alloc _ _ _) (World.grownBy_alloc _ _ _)⟩
        · have ek2 : (kk != (i : Int) + 1) = false := by rw [bne, ek]; rfl
          generalize wordN op.toList = x at *
          go_enter Tryd.func72, Tryd.ntmps72
          go_wp2_with (first | (go_at_call 79; refine (HW.out _ (HG.out.alloc _)).mono ?_; rintro e w' ⟨rfl, rfl⟩))
          go_ret
          exact ⟨.slice (some ⟨w.heap.size + 1, 0, none⟩) 1 1, rfl, by have h := World.ownsRow_lit (base := w.heap.size) (e := 3) (size := 1) (w.alloc (.cells #[.string op, .int .i64 d, .int .i64 a, .int .i64 b', .int .i64 kk] 38)) #[.int .i64 ((i : Int) + 1)] 1 (by simp) (by decide) rfl; rw [World.size_alloc] at h; exact h, grown_same (World.grownBy_alloc _ _ _) (World.grownBy_alloc _ _ _)⟩
    · rw [e8] at h8
      clear e9 e8
      generalize wordN op.toList = x at *
      go_enter Tryd.func72, Tryd.ntmps72
      go_wp2_with (first | (go_at_call 79; refine (HW.out _ (HG.out.alloc _)).mono ?_; rintro e w' ⟨rfl, rfl⟩))
      go_ret
      exact ⟨.slice (some ⟨w.heap.size + 1, 0, none⟩) 1 1, rfl, by have h := World.ownsRow_lit (base := w.heap.size) (e := 3) (size := 1) (w.alloc (.cells #[.string op, .int .i64 d, .int .i64 a, .int .i64 b', .int .i64 kk] 38)) #[.int .i64 kk] 1 (by simp) (by decide) rfl; rw [World.size_alloc] at h; exact h, grown_same (World.grownBy_alloc _ _ _) (World.grownBy_alloc _ _ _)⟩
  · rw [e9] at h9
    clear e9
    generalize wordN op.toList = x at *
    go_enter Tryd.func72, Tryd.ntmps72
    go_wp2_with (first | (go_at_call 79; refine (HW.out _ (HG.out.alloc _)).mono ?_; rintro e w' ⟨rfl, rfl⟩))
    go_ret
    exact IntRes.nil _ _ (World.grownBy_alloc _ _ _)
theorem pNextOf_end (A : Option Addr) (n c : Nat) (w : World) :
    Calls Tryd.prog 72 #[.slice A n c, .int .i64 n] w (IntRes [] w) := by
  have hne : (n == n) = true := by simp
  go_enter Tryd.func72, Tryd.ntmps72
  go_wp2
  go_ret
  exact IntRes.nil _ _ (grown_refl _ _)
/-- What NextOf gives. -/
def nxA (n : Nat) (F : Nat → Ins) (i : Int) : List Int :=
  if vcB n F = true ∧ 0 ≤ i ∧ i < n then nxI (F i.toNat) i.toNat else []
theorem vcB_40 {n : Nat} {F : Nat → Ins} (h : vcB n F = true) : n ≤ 40 := by
  simp only [vcB, Bool.and_eq_true, decide_eq_true_eq] at h
  exact h.2
theorem nxA_le (n : Nat) (F : Nat → Ins) (i : Int) : (nxA n F i).length ≤ 2 := by
  unfold nxA
  split
  · exact nxI_le _ _
  · simp
end Go.Proofs.YtbjhlilhbeiogaaDoor
