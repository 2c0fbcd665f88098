/- The numbers of wide instructions. -/
import Derived.Test.YtehjfnfpebdidaaDoorW829
import Derived.Deep.DrawnRows
namespace Go.Proofs.YtehjfnfpebdidaaDoor
open Go.RowKit
set_option linter.unusedSimpArgs false
/-- The number that a wide instruction makes of others. -/
def mk (c : Wid) (g : Nat → Int) : Int := if wordN c.op.toList = 0 then c.k else opVal (wordN c.op.toList).toNat (g c.a.toNat) (g c.b.toNat)
/-- The first numbers. -/
def runL (F : Nat → Wid) : Nat → List Int
  | 0 => []
  | n + 1 => runL F n ++ [mk (F n) (fun j => (runL F n).getD j 0)]
/-- The number of an index. -/
def num (F : Nat → Wid) (j : Nat) : Int := (runL F (j + 1)).getD j 0
theorem runL_len (F : Nat → Wid) : ∀ n, (runL F n).length = n
  | 0 => rfl
  | n + 1 => by simp [runL, runL_len F n]
theorem runL_get (F : Nat → Wid) (j : Nat) : ∀ n, j < n → (runL F n).getD j 0 = num F j
  | 0, h => absurd h (by omega)
  | n + 1, h => by
    by_cases e : j = n
    · rw [e]
      rfl
    · have hj : j < (runL F n).length := by rw [runL_len]; omega
      have := runL_get F j n (by omega)
      rw [← this]
      simp only [runL]
      simp [List.getElem?_append_left hj]
theorem mk_congr (c : Wid) (i : Nat) (g h : Nat → Int) (hv : okW i c = true) (e : ∀ j, j < i → g j = h j) : mk c g = mk c h := by
  obtain ⟨op, a, b, k⟩ := c
  have hv := (okW_told op a b k i).symm.trans hv
  rw [decide_eq_true_iff] at hv
  unfold mk
  by_cases h0 : wordN op.toList = 0
  · rw [if_pos h0, if_pos h0]
  · rw [if_neg h0, if_neg h0]
    show opVal _ (g a.toNat) (g b.toNat) = opVal _ (h a.toNat) (h b.toNat)
    rw [e a.toNat (by omega), e b.toNat (by omega)]
theorem num_eq (F : Nat → Wid) (j : Nat) (hv : okW j (F j) = true) : num F j = mk (F j) (num F) := by
  have : num F j = mk (F j) (fun i => (runL F j).getD i 0) := by
    have hl := runL_len F j
    unfold num
    simp only [runL]
    generalize runL F j = l at hl
    subst hl
    simp
  rw [this]
  exact mk_congr _ _ _ _ hv (fun i hi => runL_get F i j hi)
theorem opVal_range (n : Nat) (x y : Int) : 0 ≤ opVal n x y ∧ opVal n x y ≤ 255 := by
  unfold opVal
  repeat' split
  all_goals omega
theorem num_range (F : Nat → Wid) (j : Nat) (hv : okW j (F j) = true) : 0 ≤ num F j ∧ num F j ≤ 255 := by
  rw [num_eq F j hv]
  generalize num F = g
  generalize F j = c at hv
  obtain ⟨op, a, b, k⟩ := c
  have hv := (okW_told op a b k j).symm.trans hv
  rw [decide_eq_true_iff] at hv
  unfold mk
  by_cases h0 : wordN op.toList = 0
  · rw [if_pos h0]
    show 0 ≤ k ∧ k ≤ 255
    omega
  · rw [if_neg h0]
    exact opVal_range _ _ _
theorem num_congr (F G : Nat → Wid) (m : Nat) (h : ∀ j, j < m → F j = G j) (j : Nat) (hj : j < m) : num F j = num G j := by
  have : ∀ n, n ≤ m → runL F n = runL G n := by
    intro n
    induction n with
    | zero => intro _; rfl
    | succ n ih =>
      intro hn
      simp only [runL]
      rw [ih (by omega), h n (by omega)]
  unfold num
  rw [this (j + 1) (by omega)]
theorem row_cell {w : World} {B k : Nat} {A : Option Addr} {c : Nat} {f : Nat → Int} (h : w.ownsRow B 3 1 (.slice A k c) k (numL k f)) : Nums w A k f := by
  rcases h.2 with ⟨e, h0⟩ | ⟨g', c', cur, e, hrest⟩
  · exact .inl h0
  · have hh := h
    injection e with e1 e2 e3
    subst e1
    exact Own.nums hh
theorem int_new2 (w : World) (o : Obj) (t : TypeId) (x : Int) : ∀ j u, ([.int .i64 x] : List Value)[j]? = some u → ((w.alloc o).alloc (.cells #[.int .i64 x] t)).cell? ((⟨w.heap.size + 1, 0, none⟩ : Addr).add j) = some u := by
  have := int_new (w.alloc o) t x
  simpa using this
theorem row_more {w : World} {B k : Nat} {v : Value} {f : Nat → Int} {x : Int} (h : w.ownsRow B 3 1 v (k + 1) (numL k f ++ [.int .i64 x])) (hx : f k = x) : w.ownsRow B 3 1 v (k + 1) (numL (k + 1) f) := by
  rw [← numL_snoc, hx]
  exact h
/-- What is read and appended to where a number is made of two. -/
structure RunS (w : World) (p g i c4 : Nat) (op : ByteArray) (a b : Nat) (f : Nat → Int) (W : World) : Prop where
  low : w.grownBy W none
  own : W.ownsRow w.heap.size 3 1 (.slice (some ⟨g, 0, none⟩) i c4) i (numL i f)
  c0 : W.cell? ⟨p, 0, none⟩ = some (.string op)
  c1 : W.cell? ⟨p, 1, none⟩ = some (.int .i64 (a : Int))
  c2 : W.cell? ⟨p, 2, none⟩ = some (.int .i64 (b : Int))
theorem RunS.alloc {w W : World} {p g i c4 a b : Nat} {op : ByteArray} {f : Nat → Int} (h : RunS w p g i c4 op a b f W) (o : Obj) : RunS w p g i c4 op a b f (W.alloc o) :=
  ⟨grown_alloc h.low o, World.ownsRow.alloc h.own o, (World.cell?_alloc_some W _ o (by rw [h.c0]; rfl)).trans h.c0, (World.cell?_alloc_some W _ o (by rw [h.c1]; rfl)).trans h.c1, (World.cell?_alloc_some W _ o (by rw [h.c2]; rfl)).trans h.c2⟩
theorem RunS.drew {w W : World} {p g i c4 a b : Nat} {op : ByteArray} {f : Nat → Int} (h : RunS w p g i c4 op a b f W) : RunS w p g i c4 op a b f W.drew :=
  ⟨grown_same h.low (grown_drew1 _), ownsRow_on h.own (grown_drew1 _), h.c0, h.c1, h.c2⟩
theorem RunS.cells {w W : World} {p g i c4 a b : Nat} {op : ByteArray} {f : Nat → Int} (h : RunS w p g i c4 op a b f W) (ha : a < i) (hb : b < i) :
    W.cell? ⟨p, 0, none⟩ = some (.string op) ∧ W.cell? ⟨p, 1, none⟩ = some (.int .i64 (a : Int)) ∧ W.cell? ⟨p, 2, none⟩ = some (.int .i64 (b : Int)) ∧ W.cell? ⟨g, a, none⟩ = some (.int .i64 (f a)) ∧ W.cell? ⟨g, b, none⟩ = some (.int .i64 (f b)) := by
  have nA := (row_cell h.own).cell ha
  have nB := (row_cell h.own).cell hb
  rw [Nat.zero_add] at nA nB
  exact ⟨h.c0, h.c1, h.c2, nA, nB⟩
theorem row_before {w : World} {B k g c : Nat} {f : Nat → Int} {x : Value} (h : w.ownsRow B 3 1 (.slice (some ⟨g, 0, none⟩) (k + 1) c) (k + 1) (numL k f ++ [x])) {a : Nat} (ha : a < k) : w.cell? ⟨g, a, none⟩ = some (.int .i64 (f a)) := by
  have := World.ownsRow.cellAt h a (by omega)
  rw [this, List.getElem?_append_left (by rw [numL_len]; exact ha)]
  exact numL_get k f a ha
theorem RunS.app {w V w8 : World} {p g i c4 a b g8 c8 : Nat} {op : ByteArray} {f : Nat → Int} {x : Value} (h : RunS w p g i c4 op a b f V) (hpg : p ≠ g) (ha : a < i) (hb : b < i)
    (ho : w8.ownsRow w.heap.size 3 1 (.slice (some ⟨g8, 0, none⟩) (i + 1) c8) (i + 1) (numL i f ++ [x])) (hor : V.grownBy w8 none ∨ (g8 = g ∧ V.grownBy w8 (some g))) :
    w8.cell? ⟨p, 0, none⟩ = some (.string op) ∧ w8.cell? ⟨p, 1, none⟩ = some (.int .i64 (a : Int)) ∧ w8.cell? ⟨p, 2, none⟩ = some (.int .i64 (b : Int)) ∧ w8.cell? ⟨g, a, none⟩ = some (.int .i64 (f a)) ∧ w8.cell? ⟨g, b, none⟩ = some (.int .i64 (f b)) := by
  obtain ⟨h0, h1, h2, h3, h4⟩ := h.cells ha hb
  rcases hor with hg | ⟨rfl, hg⟩
  · exact ⟨hg.cell h0 (by simp), hg.cell h1 (by simp), hg.cell h2 (by simp), hg.cell h3 (by simp), hg.cell h4 (by simp)⟩
  · exact ⟨hg.cell h0 (by simpa using hpg), hg.cell h1 (by simpa using hpg), hg.cell h2 (by simpa using hpg), row_before ho ha, row_before ho hb⟩
theorem RunS.last {w V w8 : World} {p g i c4 a b g8 : Nat} {op : ByteArray} {f : Nat → Int} (h : RunS w p g i c4 op a b f V) (hor : V.grownBy w8 none ∨ (g8 = g ∧ V.grownBy w8 (some g))) : w.grownBy w8 none := by
  rcases hor with hg | ⟨-, hg⟩
  · exact grown_same h.low hg
  · exact grown_row h.low hg (fun j e => by
      injection e with e
      rw [← e]
      exact (World.ownsRow.lt h.own g rfl).1)
attribute [local go_sem ↓] Go.wp_at_zero Go.wp_at_succ
theorem NumRes.nil (f : Nat → Int) (w w' : World) (hg : w.grownBy w' none) : NumRes 0 f w (.returned (.slice none 0 0)) w' := ⟨_, rfl, World.ownsRow_nil _ _ _ _, hg⟩
theorem NumRes.after {k : Nat} {f : Nat → Int} {w w1 w2 : World} {e : Ending} (hg : w.grownBy w1 none) (h : NumRes k f w1 e w2) : NumRes k f w e w2 := by
  obtain ⟨v, he, ho, h2⟩ := h
  exact ⟨v, he, World.ownsRow.mono ho hg.size, grown_same hg h2⟩
/-- How many numbers there are. -/
def nW (n : Nat) (F : Nat → Wid) : Nat := if vwB n F then n else 0
end Go.Proofs.YtehjfnfpebdidaaDoor
