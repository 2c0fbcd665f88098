/- What may come next behind an instruction, by the program and by its model. Rows of Booleans: read, equal, marked; from the texts on rows of numbers. NextOf and its model answer alike. Where blocks begin: plain facts. Where blocks begin, by the program. Ways through a program: plain facts. -/
import Derived.Test.YtjeflaodeafhbaaDoorG94
import Derived.Deep.QuietTactic
import Derived.BigQuiet
import Derived.Test.YtjeflaodeafhbaaDoorG30
namespace Go.Proofs.YtjeflaodeafhbaaDoor
open Go.RowKit
set_option linter.unusedSimpArgs false
theorem word9 (l : List UInt8) : (wordN l == 9) = (l == [104, 108, 116]) := by
  rw [Bool.eq_iff_iff, beq_iff_eq, beq_iff_eq]
  constructor
  · intro h
    rcases word_is l 9 (by omega) h with h | h | h | h | h | h | h | h | h | h
    all_goals first
      | exact absurd h.1 (by omega)
      | exact (beq_iff_eq.1 h.2).symm
  · intro h
    rw [h]
    exact wordN_at9
/-- Numbers as cells. -/
def valI (l : List Int) : List Value := l.map (Value.int .i64)
theorem numL_valI (l : List Int) : numL l.length (fun j => l.getD j 0) = valI l := by
  unfold numL valI
  apply List.ext_getElem
  · simp
  · intro i h1 h2
    have hi : i < l.length := by simpa using h1
    simp [hi]
theorem valI_snoc (l : List Int) (x : Int) : valI l ++ [.int .i64 x] = valI (l ++ [x]) := by
  unfold valI
  rw [List.map_append]
  rfl
/-- What a call leaves that makes these numbers. -/
def IntRes (l : List Int) (w : World) (e : Ending) (w' : World) : Prop :=
  ∃ v, e = .returned v ∧ w'.ownsRow w.heap.size 3 1 v l.length (valI l) ∧ w.grownBy w' none
theorem IntRes.num {l : List Int} {w w' : World} {e : Ending} (h : IntRes l w e w') : NumRes l.length (fun j => l.getD j 0) w e w' := by
  obtain ⟨v, he, ho, hg⟩ := h
  exact ⟨v, he, by rw [numL_valI]; exact ho, hg⟩
theorem IntRes.nil (w w' : World) (hg : w.grownBy w' none) : IntRes [] w (.returned (.slice none 0 0)) w' := ⟨_, rfl, World.ownsRow_nil _ _ _ _, hg⟩
theorem IntRes.after {l : List Int} {w w1 w2 : World} {e : Ending} (hg : w.grownBy w1 none) (h : IntRes l w1 e w2) : IntRes l w e w2 := by
  obtain ⟨v, he, ho, h2⟩ := h
  exact ⟨v, he, World.ownsRow.mono ho hg.size, grown_same hg h2⟩
/-- What may come next behind the instruction i. -/
def nxI (c : Ins) (i : Nat) : List Int :=
  if (c.op.toList == [104, 108, 116]) = true then []
  else if (c.op.toList == [106, 109, 112]) = true then [c.k]
  else if (c.op.toList == [98, 122]) = true then (if (c.k == (i : Int) + 1) = true then [(i : Int) + 1] else [(i : Int) + 1, c.k])
  else [(i : Int) + 1]
theorem nxI_le (c : Ins) (i : Nat) : (nxI c i).length ≤ 2 := by
  unfold nxI
  repeat' split
  all_goals simp
set_option maxHeartbeats 4000000 in
theorem nextOf_any (b off n c i : Nat) (F : Nat → Ins) (w : World) (hn : n ≤ 40) (hi : i < n) (h : Code w (some ⟨b, off, none⟩) n F) :
    Calls Tryd.prog 69 #[.slice (some ⟨b, off, none⟩) n c, .int .i64 i] w (IntRes (nxI (F i) i) w) := by
  obtain ⟨q0, q1, q2, q3, q4⟩ := h.five hi
  clear h
  generalize F i = cc at *
  obtain ⟨op, d, a, b', kk⟩ := cc
  simp only [] at q0 q1 q2 q3 q4
  unfold nxI
  simp only []
  have g1 := World.grownBy_alloc w (.cells #[] 3) none
  rcases e9 : (op.toList == [104, 108, 116]) with _ | _
  · rcases e8 : (op.toList == [106, 109, 112]) with _ | _
    · rcases e7 : (op.toList == [98, 122]) with _ | _
      · go_enter Tryd.func69, Tryd.ntmps69
        go_wp2
        go_ret
        exact ⟨_, rfl, World.ownsRow_lit (base := w.heap.size) (e := 3) (size := 1) w #[.int .i64 ((i : Int) + 1)] 1 (by omega) (by decide) rfl, World.grownBy_alloc _ _ _⟩
      · rcases ek : (kk == (i : Int) + 1) with _ | _
        · go_enter Tryd.func69, Tryd.ntmps69
          go_wp2
          go_ret
          exact ⟨_, rfl, World.ownsRow_lit (base := w.heap.size) (e := 3) (size := 1) w #[.int .i64 ((i : Int) + 1), .int .i64 kk] 2 (by omega) (by decide) rfl, World.grownBy_alloc _ _ _⟩
        · go_enter Tryd.func69, Tryd.ntmps69
          go_wp2
          go_ret
          exact ⟨_, rfl, World.ownsRow_lit (base := w.heap.size) (e := 3) (size := 1) w #[.int .i64 ((i : Int) + 1)] 1 (by omega) (by decide) rfl, World.grownBy_alloc _ _ _⟩
    · go_enter Tryd.func69, Tryd.ntmps69
      go_wp2
      go_ret
      exact ⟨_, rfl, World.ownsRow_lit (base := w.heap.size) (e := 3) (size := 1) w #[.int .i64 kk] 1 (by omega) (by decide) rfl, World.grownBy_alloc _ _ _⟩
  · go_enter Tryd.func69, Tryd.ntmps69
    go_wp2
    go_ret
    exact ⟨_, rfl, World.ownsRow_lit (base := w.heap.size) (e := 3) (size := 1) w #[] 0 (by omega) (by decide) rfl, g1⟩
end Go.Proofs.YtjeflaodeafhbaaDoor

namespace Go.Proofs.YtjeflaodeafhbaaDoor
open Go.RowKit
/-- A mark. -/
def mk3 (m : Int) (j : Nat) : Bool := (m + (j : Int)) % 3 == 0
/-- n numbers at an address can be read. -/
def Bols (w : World) (A : Option Addr) (n : Nat) (f : Nat → Bool) : Prop :=
  n = 0 ∨ ∃ b off, A = some ⟨b, off, none⟩ ∧ b < w.heap.size ∧ ∀ j, j < n → w.cell? ⟨b, off + j, none⟩ = some (.bool (f j))
/-- The cells of n numbers. -/
def bolL (n : Nat) (f : Nat → Bool) : List Value := (List.range n).map fun j => .bool (f j)
/-- n numbers that the call owns. -/
abbrev OwnB (w : World) (B : Nat) (A : Option Addr) (n cap : Nat) (f : Nat → Bool) : Prop := w.ownsRow B 4 1 (.slice A n cap) n (bolL n f)
theorem bolL_len (n : Nat) (f : Nat → Bool) : (bolL n f).length = n := by simp [bolL]
theorem bolL_get (n : Nat) (f : Nat → Bool) (j : Nat) (h : j < n) : (bolL n f)[j]? = some (.bool (f j)) := by simp [bolL, h]
theorem bolL_congr (n : Nat) (f g : Nat → Bool) (h : ∀ j, j < n → f j = g j) : bolL n f = bolL n g := by
  unfold bolL
  apply List.map_congr_left
  intro j hj
  rw [h j (List.mem_range.1 hj)]
theorem bolL_set (n : Nat) (f g : Nat → Bool) (k : Nat) (x : Bool) (hk : g k = x) (h : ∀ j, j < n → j ≠ k → f j = g j) : (bolL n f).set k (.bool x) = bolL n g := by
  apply List.ext_getElem? 
  intro i
  rw [List.getElem?_set]
  by_cases hi : i < n
  · rw [bolL_get n g i hi]
    by_cases hik : k = i
    · subst hik
      rw [if_pos rfl, bolL_len, if_pos hi, hk]
    · rw [if_neg hik, bolL_get n f i hi, h i hi (fun e => hik e.symm)]
  · have e1 : (bolL n g)[i]? = none := List.getElem?_eq_none (by rw [bolL_len]; omega)
    rw [e1]
    split
    · rename_i h1
      subst h1
      rw [bolL_len, if_neg hi]
    · exact List.getElem?_eq_none (by rw [bolL_len]; omega)
theorem bolL_oneCell (n : Nat) (f : Nat → Bool) : ∀ u ∈ bolL n f, u.oneCell' = true := by
  intro u hu
  simp only [bolL, List.mem_map] at hu
  obtain ⟨j, _, rfl⟩ := hu
  rfl
section
variable {w w' : World} {A : Option Addr} {B n cap : Nat} {f g : Nat → Bool}
theorem Bols.congr (h : Bols w A n f) (hf : ∀ j, j < n → f j = g j) : Bols w A n g := by
  rcases h with h | ⟨b, off, hA, hb, hc⟩
  · exact .inl h
  · exact .inr ⟨b, off, hA, hb, fun j hj => by rw [hc j hj, hf j hj]⟩
theorem Bols.alloc (h : Bols w A n f) (o : Obj) : Bols (w.alloc o) A n f := by
  rcases h with h | ⟨b, off, hA, hb, hc⟩
  · exact .inl h
  · exact .inr ⟨b, off, hA, by simp; omega, fun j hj => (World.cell?_alloc_some w _ o (by rw [hc j hj]; rfl)).trans (hc j hj)⟩
theorem Bols.drewN (h : Bols w A n f) (k : Nat) : Bols (w.drewN k) A n f := h
theorem Bols.below (h : Bols w A n f) (hb : Below w.heap.size w w') : Bols w' A n f := by
  rcases h with h | ⟨b, off, hA, hlt, hc⟩
  · exact .inl h
  · exact .inr ⟨b, off, hA, Nat.lt_of_lt_of_le hlt hb.size, fun j hj => (hb.cell (p := ⟨b, off + j, none⟩) hlt).trans (hc j hj)⟩
theorem Bols.belowAt (h : Bols w A n f) {B : Nat} (hb : Below B w w') (hA : ∀ b off, A = some ⟨b, off, none⟩ → b < B) : Bols w' A n f := by
  rcases h with h | ⟨b, off, hA', hlt, hc⟩
  · exact .inl h
  · exact .inr ⟨b, off, hA', Nat.lt_of_lt_of_le hlt hb.size, fun j hj => (hb.cell (p := ⟨b, off + j, none⟩) (hA b off hA')).trans (hc j hj)⟩
theorem Bols.grown {row : Option Nat} (h : Bols w A n f) (hg : w.grownBy w' row) (hne : ∀ b off, A = some ⟨b, off, none⟩ → some b ≠ row) : Bols w' A n f := by
  rcases h with h | ⟨b, off, hA, hlt, hc⟩
  · exact .inl h
  · exact .inr ⟨b, off, hA, Nat.lt_of_lt_of_le hlt hg.size, fun j hj => hg.cell (hc j hj) (hne b off hA)⟩
theorem Bols.cell (h : Bols w (some ⟨B, cap, none⟩) n f) {j : Nat} (hj : j < n) : w.cell? ⟨B, cap + j, none⟩ = some (.bool (f j)) := by
  rcases h with h | ⟨b, off, hA, hb, hc⟩
  · omega
  · injection hA with hA
    injection hA with h1 h2
    subst h1; subst h2
    exact hc j hj
theorem Bols.cells {b off : Nat} (h : Bols w (some ⟨b, off, none⟩) n f) : ∀ j u, (bolL n f)[j]? = some u → w.cell? ((⟨b, off, none⟩ : Addr).add j) = some u := by
  intro j u hj
  by_cases hjn : j < n
  · rw [bolL_get n f j hjn] at hj
    cases hj
    rw [Addr.add_lit]
    exact h.cell hjn
  · rw [List.getElem?_eq_none (by rw [bolL_len]; omega)] at hj
    cases hj
theorem OwnB.lower {B' : Nat} (h : OwnB w B A n cap f) (hB : B' ≤ B) : OwnB w B' A n cap f := by
  refine ⟨h.1, ?_⟩
  rcases h.2 with h' | ⟨g, cap', cur, h1, h2, h3⟩
  · exact .inl h'
  · exact .inr ⟨g, cap', cur, h1, Nat.le_trans hB h2, h3⟩
theorem OwnB.lt {b : Nat} (h : OwnB w B (some ⟨b, 0, none⟩) n cap f) : B ≤ b ∧ b < w.heap.size := World.ownsRow.lt h b rfl
theorem OwnB.bols {g : Nat} (h : OwnB w B (some ⟨g, 0, none⟩) n cap f) : Bols w (some ⟨g, 0, none⟩) n f := by
  refine .inr ⟨g, 0, rfl, (World.ownsRow.lt h g rfl).2, fun j hj => ?_⟩
  rw [Nat.zero_add, World.ownsRow.cellAt h j (by omega), bolL_get n f j hj]
theorem OwnB.congr (h : OwnB w B A n cap f) (hf : ∀ j, j < n → f j = g j) : OwnB w B A n cap g := by
  unfold OwnB at h ⊢
  rw [← bolL_congr n f g hf]
  exact h
theorem OwnB.caps {g : Nat} (h : OwnB w B (some ⟨g, 0, none⟩) n cap f) : n ≤ cap ∧ cap ≤ maxLen := by
  rcases h.2 with ⟨h', _⟩ | ⟨g', cap', cur, h', _, hg, hnc, hcm, _⟩
  · simp at h'
  · simp only [Value.slice.injEq, Option.some.injEq, Addr.mk.injEq, and_true, true_and] at h'
    obtain ⟨rfl, rfl⟩ := h'
    exact ⟨hnc, hcm⟩
end
end Go.Proofs.YtjeflaodeafhbaaDoor

namespace Go.Proofs.YtjeflaodeafhbaaDoor
open Go.RowKit
set_option linter.unusedSimpArgs false
set_option maxHeartbeats 4000000 in
theorem pNextOf_at (b off n c i : Nat) (F : Nat → Ins) (w : World) (hg : WT w) (hn : n ≤ 40) (hi : i < n) (h : Code w (some ⟨b, off, none⟩) n F) :
    Calls Tryd.prog 90 #[.slice (some ⟨b, off, none⟩) n c, .int .i64 i] w (IntRes (nxI (F i) i) w) := by
  obtain ⟨q0, q1, q2, q3, q4⟩ := h.five hi
  have HG := shade hg
  have hne : (i == n) = false := by simp; omega
  have hni : ((i : Int) == (n : Int)) = false := by simp; omega
  clear h hg
  generalize F i = cc at *
  obtain ⟨op, d, a, b', kk⟩ := cc
  simp only [] at q0 q1 q2 q3 q4
  have HW := shade (fun W (hW : WT W) => wordOf_any op W hW)
  unfold nxI
  simp only []
  have h9 := word9 op.toList
  have h8 := word8 op.toList
  have h7 := word7 op.toList
  rcases e9 : (op.toList == [104, 108, 116]) with _ | _
  · rw [e9] at h9
    rcases e8 : (op.toList == [106, 109, 112]) with _ | _
    · rw [e8] at h8
      rcases e7 : (op.toList == [98, 122]) with _ | _
      · rw [e7] at h7
        clear e9 e8 e7
        generalize wordN op.toList = x at *
        go_enter Tryd.func90, Tryd.ntmps90
        go_wp2_with (first | (go_at_call 82; refine (HW.out _ (HG.out.alloc _)).mono ?_; rintro e w' ⟨rfl, rfl⟩))
        go_ret
        exact ⟨.slice (some ⟨w.heap.size + 1, 0, none⟩) 1 1, rfl, by have h := World.ownsRow_lit (base := w.heap.size) (e := 3) (size := 1) (w.alloc (.cells #[.string op, .int .i64 d, .int .i64 a, .int .i64 b', .int .i64 kk] 61)) #[.int .i64 ((i : Int) + 1)] 1 (by simp) (by decide) rfl; rw [World.size_alloc] at h; exact h, grown_same (World.grownBy_alloc _ _ _) (World.grownBy_alloc _ _ _)⟩
      · rw [e7] at h7
        clear e9 e8 e7
        rcases ek : (kk == (i : Int) + 1) with _ | _
        · have ek2 : (kk != (i : Int) + 1) = true := by rw [bne, ek]; rfl
          generalize wordN op.toList = x at *
          go_enter Tryd.func90, Tryd.ntmps90
          go_wp2_with (first | (go_at_call 82; refine (HW.out _ (HG.out.alloc _)).mono ?_; rintro e w' ⟨rfl, rfl⟩))
          go_ret
          exact ⟨.slice (some ⟨w.heap.size + 1, 0, none⟩) 2 2, rfl, by have h := World.ownsRow_lit (base := w.heap.size) (e := 3) (size := 1) (w.alloc (.cells #[.string op, .int .i64 d, .int .i64 a, .int .i64 b', .int .i64 kk] 61)) #[.int .i64 ((i : Int) + 1), .int .i64 kk] 2 (by simp) (by decide) rfl; rw [World.size_alloc] at h; exact h, grown_same (World.grownBy_alloc _ _ _) (World.grownBy_alloc _ _ _)⟩
        · have ek2 : (kk != (i : Int) + 1) = false := by rw [bne, ek]; rfl
          generalize wordN op.toList = x at *
          go_enter Tryd.func90, Tryd.ntmps90
          go_wp2_with (first | (go_at_call 82; refine (HW.out _ (HG.out.alloc _)).mono ?_; rintro e w' ⟨rfl, rfl⟩))
          go_ret
          exact ⟨.slice (some ⟨w.heap.size + 1, 0, none⟩) 1 1, rfl, by have h := World.ownsRow_lit (base := w.heap.size) (e := 3) (size := 1) (w.alloc (.cells #[.string op, .int .i64 d, .int .i64 a, .int .i64 b', .int .i64 kk] 61)) #[.int .i64 ((i : Int) + 1)] 1 (by simp) (by decide) rfl; rw [World.size_alloc] at h; exact h, grown_same (World.grownBy_alloc _ _ _) (World.grownBy_alloc _ _ _)⟩
    · rw [e8] at h8
      clear e9 e8
      generalize wordN op.toList = x at *
      go_enter Tryd.func90, Tryd.ntmps90
      go_wp2_with (first | (go_at_call 82; refine (HW.out _ (HG.out.alloc _)).mono ?_; rintro e w' ⟨rfl, rfl⟩))
      go_ret
      exact ⟨.slice (some ⟨w.heap.size + 1, 0, none⟩) 1 1, rfl, by have h := World.ownsRow_lit (base := w.heap.size) (e := 3) (size := 1) (w.alloc (.cells #[.string op, .int .i64 d, .int .i64 a, .int .i64 b', .int .i64 kk] 61)) #[.int .i64 kk] 1 (by simp) (by decide) rfl; rw [World.size_alloc] at h; exact h, grown_same (World.grownBy_alloc _ _ _) (World.grownBy_alloc _ _ _)⟩
  · rw [e9] at h9
    clear e9
    generalize wordN op.toList = x at *
    go_enter Tryd.func90, Tryd.ntmps90
    go_wp2_with (first | (go_at_call 82; refine (HW.out _ (HG.out.alloc _)).mono ?_; rintro e w' ⟨rfl, rfl⟩))
    go_ret
    exact IntRes.nil _ _ (World.grownBy_alloc _ _ _)
theorem pNextOf_end (A : Option Addr) (n c : Nat) (w : World) :
    Calls Tryd.prog 90 #[.slice A n c, .int .i64 n] w (IntRes [] w) := by
  have hne : (n == n) = true := by simp
  go_enter Tryd.func90, Tryd.ntmps90
  go_wp2
  go_ret
  exact IntRes.nil _ _ (grown_refl _ _)
/-- What NextOf gives. -/
def nxA (n : Nat) (F : Nat → Ins) (i : Int) : List Int :=
  if vcB n F = true ∧ 0 ≤ i ∧ i < n then nxI (F i.toNat) i.toNat else []
theorem vcB_40 {n : Nat} {F : Nat → Ins} (h : vcB n F = true) : n ≤ 40 := by
  simp only [vcB, Bool.and_eq_true, decide_eq_true_eq] at h
  exact h.2
theorem nxA_le (n : Nat) (F : Nat → Ins) (i : Int) : (nxA n F i).length ≤ 2 := by
  unfold nxA
  split
  · exact nxI_le _ _
  · simp
end Go.Proofs.YtjeflaodeafhbaaDoor

namespace Go.Proofs.YtjeflaodeafhbaaDoor
open Go.RowKit
/-- Does a block end here? -/
def stopB (l : List UInt8) : Bool := jmpB l || (l == [104, 108, 116])
/-- What is marked behind the first i instructions. -/
def bgB (F : Nat → Ins) : Nat → Nat → Bool
  | 0, j => j == 0
  | i + 1, j => bgB F i j || ((jmpB (F i).op.toList && ((F i).k == (j : Int))) || (stopB (F i).op.toList && (j == i + 1)))
/-- Is it K of one of the first jumps? -/
def jkB (F : Nat → Ins) : Nat → Nat → Bool
  | 0, _ => false
  | k + 1, j => jkB F k j || (jmpB (F k).op.toList && ((F k).k == (j : Int)))
/-- Is it the first one, or behind an end? -/
def hdB (F : Nat → Ins) : Nat → Bool
  | 0 => true
  | i + 1 => stopB (F i).op.toList
theorem bgB_eq (F : Nat → Ins) (j : Nat) : ∀ m, bgB F m j = ((j == 0 || (decide (1 ≤ j ∧ j ≤ m) && hdB F j)) || jkB F m j) := by
  intro m
  induction m with
  | zero =>
    show (j == 0) = _
    have : decide (1 ≤ j ∧ j ≤ 0) = false := decide_eq_false (by omega)
    rw [this]
    simp [jkB]
  | succ m ih =>
    show (bgB F m j || ((jmpB (F m).op.toList && ((F m).k == (j : Int))) || (stopB (F m).op.toList && (j == m + 1)))) = ((j == 0 || (decide (1 ≤ j ∧ j ≤ m + 1) && hdB F j)) || (jkB F m j || (jmpB (F m).op.toList && ((F m).k == (j : Int)))))
    rw [ih]
    generalize (jmpB (F m).op.toList && ((F m).k == (j : Int))) = x
    generalize jkB F m j = y
    by_cases e : j = m + 1
    · subst e
      rw [decide_eq_false (show ¬ (1 ≤ m + 1 ∧ m + 1 ≤ m) by omega), decide_eq_true (show 1 ≤ m + 1 ∧ m + 1 ≤ m + 1 by omega)]
      rw [show (m + 1 == m + 1) = true from beq_self_eq_true _]
      rw [show (m + 1 == 0) = false from beq_eq_false_iff_ne.2 (by omega)]
      show _ = (((false || (true && stopB (F m).op.toList)) || (y || x)))
      generalize stopB (F m).op.toList = z
      cases x <;> cases y <;> cases z <;> rfl
    · rw [show (j == m + 1) = false from beq_eq_false_iff_ne.2 e]
      rw [show decide (1 ≤ j ∧ j ≤ m + 1) = decide (1 ≤ j ∧ j ≤ m) from by
        apply decide_eq_decide.2
        omega]
      generalize stopB (F m).op.toList = z
      generalize (j == 0 || (decide (1 ≤ j ∧ j ≤ m) && hdB F j)) = u
      cases x <;> cases y <;> cases z <;> cases u <;> rfl
/-- Does a block begin here? -/
def ldB (F : Nat → Ins) (n i : Nat) : Bool := hdB F i || jkB F n i
theorem lead_eq (F : Nat → Ins) (n j : Nat) (hj : j ≤ n) : bgB F n j = ldB F n j := by
  rw [bgB_eq]
  unfold ldB
  cases j with
  | zero => rfl
  | succ j =>
    rw [decide_eq_true (show 1 ≤ j + 1 ∧ j + 1 ≤ n by omega), show (j + 1 == 0) = false from beq_eq_false_iff_ne.2 (by omega)]
    generalize hdB F (j + 1) = u
    cases u <;> rfl
/-- The numbers below n that are marked. -/
def pickL (g : Nat → Bool) : Nat → List Int
  | 0 => []
  | i + 1 => pickL g i ++ (if g i = true then [(i : Int)] else [])
theorem pickL_le (g : Nat → Bool) : ∀ i, (pickL g i).length ≤ i := by
  intro i
  induction i with
  | zero => exact Nat.le_refl _
  | succ i ih =>
    show (pickL g i ++ _).length ≤ i + 1
    rw [List.length_append]
    split
    · simp
      omega
    · simp
      omega
theorem pickL_congr (f g : Nat → Bool) : ∀ i, (∀ j, j < i → f j = g j) → pickL f i = pickL g i := by
  intro i
  induction i with
  | zero =>
    intro _
    rfl
  | succ i ih =>
    intro h
    show pickL f i ++ _ = pickL g i ++ _
    rw [ih (fun j hj => h j (by omega)), h i (by omega)]
theorem pickL_yes (g : Nat → Bool) (i : Nat) (h : g i = true) : pickL g (i + 1) = pickL g i ++ [(i : Int)] := by
  show pickL g i ++ _ = _
  rw [if_pos h]
theorem pickL_no (g : Nat → Bool) (i : Nat) (h : g i = false) : pickL g (i + 1) = pickL g i := by
  show pickL g i ++ _ = _
  rw [h, if_neg (by simp), List.append_nil]
/-- Where blocks begin. -/
def ldL (F : Nat → Ins) (n : Nat) : List Int := pickL (ldB F n) n
end Go.Proofs.YtjeflaodeafhbaaDoor

namespace Go.Proofs.YtjeflaodeafhbaaDoor
open Go.RowKit
set_option linter.unusedSimpArgs false
theorem info4b : (Tryd.prog.info? 4).map (fun i => (i.zero, i.size, i.bytes)) = some (some (.bool false), 1, 1) := by kernel_rfl
theorem made_bools (n : Nat) : (madeCells #[Value.bool false] n).toList = bolL n (fun _ => false) := by
  rw [toList_madeCells_one]
  unfold bolL
  rw [List.map_const', List.length_range]
theorem OwnB.set {w : World} {B g n cap : Nat} {f : Nat → Bool} (h : OwnB w B (some ⟨g, 0, none⟩) n cap f) (k : Nat) (x : Bool) :
    OwnB (w.setCell ⟨g, k, none⟩ (.bool x)) B (some ⟨g, 0, none⟩) n cap (fun j => if j = k then x else f j) := by
  have h1 := (World.ownsRow.stored h k (.bool x)).1
  rw [bolL_set n _ (fun j => if j = k then x else f j) k x (by simp) (fun j _ hne => by
    show _ = (if j = k then _ else _)
    rw [if_neg hne])] at h1
  exact h1
theorem OwnB.on {w w' : World} {B g n cap : Nat} {f : Nat → Bool} (h : OwnB w B (some ⟨g, 0, none⟩) n cap f) (hg : w.grownBy w' none) : OwnB w' B (some ⟨g, 0, none⟩) n cap f := World.ownsRow.kept h hg (.inr (by
  show some g ≠ none
  simp))
theorem okI_k {n : Nat} {F : Nat → Ins} {i : Nat} (hv : vcB n F = true) (hi : i < n) (hj : jmpB (F i).op.toList = true) : 0 ≤ (F i).k ∧ (F i).k ≤ n := by
  have h1 := allI_iff.1 (by simp only [vcB, Bool.and_eq_true] at hv; exact hv.1) i hi
  unfold okI at h1
  rw [hj] at h1
  simp only [Bool.and_eq_true, Bool.not_eq_true', Bool.true_and, decide_eq_false_iff_not] at h1
  obtain ⟨h2, h3⟩ := h1
  have h4 := vB_true.1 h2
  have h78 : wordN (F i).op.toList = 7 ∨ wordN (F i).op.toList = 8 := by
    unfold jmpB at hj
    rw [← word7, ← word8] at hj
    simpa using hj
  unfold VI at h4
  omega
/-- What is marked so far. -/
structure Ldr (w wr : World) (n : Nat) (f : Nat → Bool) : Prop where
  own : OwnB wr w.heap.size (some ⟨w.heap.size, 0, none⟩) (n + 1) (n + 1) f
  low : w.grownBy wr none
theorem Ldr.on {w wr w2 : World} {n : Nat} {f : Nat → Bool} (h : Ldr w wr n f) (hg : wr.grownBy w2 none) : Ldr w w2 n f := ⟨h.own.on hg, grown_same h.low hg⟩
theorem Ldr.mark {w wr : World} {n : Nat} {f : Nat → Bool} (h : Ldr w wr n f) (k : Nat) : Ldr w (wr.setCell ⟨w.heap.size, k, none⟩ (.bool true)) n (fun j => if j = k then true else f j) :=
  ⟨h.own.set k true, grown_then h.low (grown_set w.heap.size k _) (Nat.le_refl _)⟩
theorem Ldr.congr {w wr : World} {n : Nat} {f g : Nat → Bool} (h : Ldr w wr n f) (hf : ∀ j, f j = g j) : Ldr w wr n g := ⟨h.own.congr (fun j _ => hf j), h.low⟩
theorem Ldr.cell {w wr : World} {n : Nat} {f : Nat → Bool} (h : Ldr w wr n f) (k : Nat) (hk : k ≤ n) : wr.cell? ⟨w.heap.size, k, none⟩ = some (.bool (f k)) := by
  have := h.own.bols.cell (j := k) (by omega)
  rwa [Nat.zero_add] at this
theorem Ldr.free {w wr : World} {n : Nat} {f : Nat → Bool} (h : Ldr w wr n f) (k : Nat) : wr.frozen? ⟨w.heap.size, k, none⟩ = false := by
  exact World.ownsRow.frozenAt h.own k
theorem Ldr.row {w wr w2 : World} {n : Nat} {f : Nat → Bool} {row : Option Nat} (h : Ldr w wr n f) (g : wr.grownBy w2 row) (hr : ∀ j, row = some j → w.heap.size < j) : Ldr w w2 n f := by
  refine ⟨World.ownsRow.kept h.own g (.inr (fun e => ?_)), ⟨g.os.trans h.low.os, g.tape.trans h.low.tape, g.output.trans h.low.output, Nat.le_trans h.low.size g.size, fun i hi hn => (g.block i (Nat.lt_of_lt_of_le hi h.low.size) (fun e => ?_)).trans (h.low.block i hi hn)⟩⟩
  · have e' : some w.heap.size = row := e
    have := hr _ e'.symm
    omega
  · have := hr i e.symm
    omega
theorem Ldr.lt {w wr : World} {n : Nat} {f : Nat → Bool} (h : Ldr w wr n f) : w.heap.size < wr.heap.size := h.own.lt.2
end Go.Proofs.YtjeflaodeafhbaaDoor

namespace Go.Proofs.YtjeflaodeafhbaaDoor
open Go.RowKit
/-- y is on a way from a; no way goes on behind one that is cut. -/
def Way (F : Nat → Ins) (n : Nat) (cut : Nat → Bool) (a y : Nat) : Prop :=
  ∀ X : Nat → Prop, X a → (∀ x z : Nat, X x → x < n → cut x = false → (z : Int) ∈ nxI (F x) x → X z) → X y
theorem Way.start (F : Nat → Ins) (n : Nat) (cut : Nat → Bool) (a : Nat) : Way F n cut a a := fun _ h _ => h
theorem Way.step {F : Nat → Ins} {n : Nat} {cut : Nat → Bool} {a x y : Nat} (h : Way F n cut a x) (hx : x < n) (hc : cut x = false) (hy : (y : Int) ∈ nxI (F x) x) : Way F n cut a y :=
  fun X h0 hs => hs x y (h X h0 hs) hx hc hy
/-- What comes next is in the program or its end. -/
theorem nx_in {F : Nat → Ins} {n x : Nat} {z : Int} (hv : vcB n F = true) (hx : x < n) (hz : z ∈ nxI (F x) x) : ∃ y : Nat, z = y ∧ y ≤ n := by
  have hk := okI_k hv hx
  have one : ∀ z : Int, z = (x : Int) + 1 → ∃ y : Nat, z = y ∧ y ≤ n := fun z e => ⟨x + 1, by omega, by omega⟩
  have two : jmpB (F x).op.toList = true → ∀ z : Int, z = (F x).k → ∃ y : Nat, z = y ∧ y ≤ n := fun hj z e => by
    obtain ⟨h0, h1⟩ := hk hj
    exact ⟨z.toNat, by omega, by omega⟩
  unfold nxI at hz
  split at hz
  · cases hz
  · split at hz
    · rename_i h8
      exact two (by unfold jmpB; rw [h8]; simp) z (by simpa using hz)
    · split at hz
      · rename_i h7
        split at hz
        · exact one z (by simpa using hz)
        · rcases (show z = (x : Int) + 1 ∨ z = (F x).k by simpa using hz) with e | e
          · exact one z e
          · exact two (by unfold jmpB; rw [h7]; rfl) z e
      · exact one z (by simpa using hz)
/-- How many of the first k are not met. -/
def unm (M : Nat → Bool) : Nat → Nat
  | 0 => 0
  | k + 1 => unm M k + (if M k = true then 0 else 1)
theorem unm_congr (M M' : Nat → Bool) : ∀ k, (∀ x, x < k → M x = M' x) → unm M k = unm M' k := by
  intro k
  induction k with
  | zero => intro _; rfl
  | succ k ih =>
    intro h
    show unm M k + _ = unm M' k + _
    rw [ih (fun x hx => h x (by omega)), h k (by omega)]
theorem unm_set (M : Nat → Bool) (y : Nat) (hy : M y = false) : ∀ k, y < k → unm (fun x => if x = y then true else M x) k + 1 = unm M k := by
  intro k
  induction k with
  | zero => intro h; omega
  | succ k ih =>
    intro h
    show unm _ k + (if (if k = y then true else M k) = true then 0 else 1) + 1 = unm M k + (if M k = true then 0 else 1)
    by_cases e : k = y
    · subst e
      rw [if_pos rfl, hy, if_pos rfl, if_neg (by simp), unm_congr _ M k (fun x hx => by rw [if_neg (by omega)])]
    · rw [if_neg e]
      have := ih (by omega)
      omega
theorem unm_one (a : Nat) : ∀ k, a < k → unm (fun x => x == a) k + 1 = k := by
  intro k
  induction k with
  | zero => intro h; omega
  | succ k ih =>
    intro h
    show unm _ k + (if (k == a) = true then 0 else 1) + 1 = k + 1
    by_cases e : k = a
    · subst e
      rw [if_pos (by simp)]
      have : unm (fun x => x == k) k = k := by
        have hh : ∀ j, j ≤ k → unm (fun x => x == k) j = j := by
          intro j
          induction j with
          | zero => intro _; rfl
          | succ j ih2 =>
            intro hj
            show unm _ j + (if (j == k) = true then 0 else 1) = j + 1
            rw [ih2 (by omega), if_neg (by simp; omega)]
        exact hh k (Nat.le_refl _)
      omega
    · rw [if_neg (by simpa using e)]
      have := ih (by omega)
      omega
/-- A search under way: pre have come, st are ahead, M are met; what comes next behind those of cl is met. -/
structure Dfs (F : Nat → Ins) (n : Nat) (cut : Nat → Bool) (a : Nat) (cl pre st : List Nat) (M : Nat → Bool) : Prop where
  beg : M a = true
  mem : ∀ x, M x = true ↔ (x ∈ pre ∨ x ∈ st)
  cnt : pre.length + st.length + unm M (n + 1) = n + 1
  way : ∀ x, M x = true → x ≤ n ∧ Way F n cut a x
  closed : ∀ x, x ∈ cl → x < n → cut x = false → ∀ y : Nat, (y : Int) ∈ nxI (F x) x → M y = true
section
variable {F : Nat → Ins} {n : Nat} {cut : Nat → Bool} {a : Nat} {cl pre st : List Nat} {M : Nat → Bool}
theorem Dfs.first (ha : a ≤ n) : Dfs F n cut a [] [] [a] (fun x => x == a) := by
  refine ⟨by simp, fun x => by simp, ?_, fun x hx => ?_, fun x hx => by cases hx⟩
  · have := unm_one a (n + 1) (by omega)
    simp
    omega
  · obtain rfl : x = a := by simpa using hx
    exact ⟨ha, Way.start _ _ _ _⟩
theorem Dfs.pop {x : Nat} (h : Dfs F n cut a cl pre (st ++ [x]) M) : Dfs F n cut a cl (pre ++ [x]) st M := by
  refine ⟨h.beg, fun z => ?_, ?_, h.way, h.closed⟩
  · rw [h.mem z]
    simp only [List.mem_append, List.mem_singleton]
    constructor
    · rintro (h | h | h)
      · exact .inl (.inl h)
      · exact .inr h
      · exact .inl (.inr h)
    · rintro ((h | h) | h)
      · exact .inl h
      · exact .inr (.inr h)
      · exact .inr (.inl h)
  · have := h.cnt
    simp only [List.length_append, List.length_singleton] at this ⊢
    omega
theorem Dfs.push {y : Nat} (h : Dfs F n cut a cl pre st M) (hy : M y = false) (hn : y ≤ n) (hw : Way F n cut a y) : Dfs F n cut a cl pre (st ++ [y]) (fun x => if x = y then true else M x) := by
  have keep : ∀ x, M x = true → (if x = y then true else M x) = true := fun x hx => by
    by_cases e : x = y
    · rw [if_pos e]
    · rw [if_neg e]; exact hx
  refine ⟨keep _ h.beg, fun z => ?_, ?_, fun z hz => ?_, fun x hx hxn hc z hz => keep _ (h.closed x hx hxn hc z hz)⟩
  · show (if z = y then true else M z) = true ↔ _
    simp only [List.mem_append, List.mem_singleton]
    by_cases e : z = y
    · subst e
      rw [if_pos rfl]
      simp
    · rw [if_neg e, h.mem z]
      simp [e]
  · have h1 := h.cnt
    have h2 := unm_set M y hy (n + 1) (by omega)
    simp only [List.length_append, List.length_singleton]
    omega
  · by_cases e : z = y
    · subst e
      exact ⟨hn, hw⟩
    · have hz' : (if z = y then true else M z) = true := hz
      rw [if_neg e] at hz'
      exact h.way z hz'
theorem Dfs.close {x : Nat} (h : Dfs F n cut a cl pre st M) (hx : x < n → cut x = false → ∀ y : Nat, (y : Int) ∈ nxI (F x) x → M y = true) : Dfs F n cut a (cl ++ [x]) pre st M := by
  refine ⟨h.beg, h.mem, h.cnt, h.way, fun z hz hzn hc y hy => ?_⟩
  rcases List.mem_append.1 hz with hz | hz
  · exact h.closed z hz hzn hc y hy
  · obtain rfl : z = x := by simpa using hz
    exact hx hzn hc y hy
theorem Dfs.congr {M' : Nat → Bool} (h : Dfs F n cut a cl pre st M) (hM : ∀ x, M x = M' x) : Dfs F n cut a cl pre st M' := by
  obtain rfl : M = M' := funext hM
  exact h
/-- At the end just those on a way have come. -/
theorem Dfs.done (h : Dfs F n cut a pre pre [] M) (y : Nat) : y ∈ pre ↔ Way F n cut a y := by
  have e : ∀ x, M x = true ↔ x ∈ pre := fun x => by rw [h.mem x]; simp
  constructor
  · intro hy
    exact (h.way y ((e y).2 hy)).2
  · intro hy
    exact (e y).1 (hy (fun z => M z = true) h.beg (fun x z hx hxn hc hz => h.closed x ((e x).1 hx) hxn hc z hz))
theorem Dfs.few (h : Dfs F n cut a cl pre st M) : pre.length + st.length ≤ n + 1 := by
  have := h.cnt
  omega
end
end Go.Proofs.YtjeflaodeafhbaaDoor
