/- Slices of wide instructions: what it means that they can be read, or are the call's own; and the laws' helpers over them. -/
import Derived.Test.YtehjfnfpebdidaaDoorW800
namespace Go.Proofs.YtehjfnfpebdidaaDoor
open Go.RowKit
set_option linter.unusedSimpArgs false
/-- An instruction. -/
structure Wid where
  op : ByteArray
  a : Int
  b : Int
  k : Int
/-- Its cells. -/
def Wid.part (c : Wid) : Nat → Value
  | 0 => .string c.op
  | 1 => .int .i64 c.a
  | 2 => .int .i64 c.b
  | _ => .int .i64 c.k
/-- n instructions at an address can be read. -/
def Wds (w : World) (A : Option Addr) (n : Nat) (f : Nat → Wid) : Prop :=
  n = 0 ∨ ∃ b off, A = some ⟨b, off, none⟩ ∧ b < w.heap.size ∧ ∀ j i, j < n → i < 4 → w.cell? ⟨b, off + j * 4 + i, none⟩ = some ((f j).part i)
/-- A row of values. -/
def rowL (m : Nat) (g : Nat → Value) : List Value := (List.range m).map g
theorem rowL_len (m : Nat) (g : Nat → Value) : (rowL m g).length = m := by simp [rowL]
theorem rowL_get (m : Nat) (g : Nat → Value) (j : Nat) (h : j < m) : (rowL m g)[j]? = some (g j) := by simp [rowL, h]
theorem rowL_congr (m : Nat) (f g : Nat → Value) (h : ∀ j, j < m → f j = g j) : rowL m f = rowL m g := by
  unfold rowL
  apply List.map_congr_left
  intro j hj
  exact h j (List.mem_range.1 hj)
theorem rowL_set (m : Nat) (f : Nat → Value) (k : Nat) (x : Value) : (rowL m f).set k x = rowL m (fun j => if j = k then x else f j) := by
  apply List.ext_getElem?
  intro i
  rw [List.getElem?_set]
  by_cases hi : i < m
  · rw [rowL_get m _ i hi, rowL_len, rowL_get m _ i hi]
    by_cases hik : k = i
    · subst hik
      rw [if_pos rfl, if_pos hi, if_pos rfl]
    · rw [if_neg hik, if_neg (fun e => hik e.symm)]
  · have e1 : (rowL m (fun j => if j = k then x else f j))[i]? = none := List.getElem?_eq_none (by rw [rowL_len]; omega)
    rw [e1, rowL_len]
    split
    · rename_i h1
      subst h1
      rw [if_neg hi]
    · exact List.getElem?_eq_none (by rw [rowL_len]; omega)
/-- The cells of n instructions. -/
def wideL (n : Nat) (f : Nat → Wid) : List Value := rowL (n * 4) (fun i => (f (i / 4)).part (i % 4))
/-- n instructions that the call owns. -/
abbrev OwnW (w : World) (B : Nat) (A : Option Addr) (n cap : Nat) (f : Nat → Wid) : Prop := w.ownsRow B 43 4 (.slice A n cap) n (wideL n f)
theorem wideL_len (n : Nat) (f : Nat → Wid) : (wideL n f).length = n * 4 := rowL_len _ _
theorem wideL_get (n : Nat) (f : Nat → Wid) (j i : Nat) (hj : j < n) (hi : i < 4) : (wideL n f)[j * 4 + i]? = some ((f j).part i) := by
  unfold wideL
  rw [rowL_get _ _ _ (by omega), show (j * 4 + i) / 4 = j by omega, show (j * 4 + i) % 4 = i by omega]
theorem wideL_set4 (n : Nat) (f : Nat → Wid) (k : Nat) (c : Wid) :
    ((((wideL n f).set (k * 4) (.string c.op)).set (k * 4 + 1) (.int .i64 c.a)).set (k * 4 + 2) (.int .i64 c.b)).set (k * 4 + 3) (.int .i64 c.k) = wideL n (fun j => if j = k then c else f j) := by
  unfold wideL
  rw [rowL_set, rowL_set, rowL_set, rowL_set]
  apply rowL_congr
  intro i _
  show _ = (if i / 4 = k then c else f (i / 4)).part (i % 4)
  by_cases h : i / 4 = k
  · rw [if_pos h]
    rcases (show i % 4 = 0 ∨ i % 4 = 1 ∨ i % 4 = 2 ∨ i % 4 = 3 by omega) with e | e | e | e
    · rw [e, if_neg (by omega), if_neg (by omega), if_neg (by omega), if_pos (by omega)]
      rfl
    · rw [e, if_neg (by omega), if_neg (by omega), if_pos (by omega)]
      rfl
    · rw [e, if_neg (by omega), if_pos (by omega)]
      rfl
    · rw [e, if_pos (by omega)]
      rfl
  · rw [if_neg h, if_neg (by omega), if_neg (by omega), if_neg (by omega), if_neg (by omega)]
theorem wideL_congr (n : Nat) (f g : Nat → Wid) (h : ∀ j, j < n → f j = g j) : wideL n f = wideL n g := by
  unfold wideL
  apply rowL_congr
  intro i hi
  rw [h (i / 4) (by omega)]
section
variable {w w' : World} {A : Option Addr} {B n cap : Nat} {f g : Nat → Wid}
theorem Wds.congr (h : Wds w A n f) (hf : ∀ j, j < n → f j = g j) : Wds w A n g := by
  rcases h with h | ⟨b, off, hA, hb, hc⟩
  · exact .inl h
  · exact .inr ⟨b, off, hA, hb, fun j i hj hi => by rw [hc j i hj hi, hf j hj]⟩
theorem Wds.alloc (h : Wds w A n f) (o : Obj) : Wds (w.alloc o) A n f := by
  rcases h with h | ⟨b, off, hA, hb, hc⟩
  · exact .inl h
  · exact .inr ⟨b, off, hA, by simp; omega, fun j i hj hi => (World.cell?_alloc_some w _ o (by rw [hc j i hj hi]; rfl)).trans (hc j i hj hi)⟩
theorem Wds.grown {row : Option Nat} (h : Wds w A n f) (hg : w.grownBy w' row) (hne : ∀ b off, A = some ⟨b, off, none⟩ → some b ≠ row) : Wds w' A n f := by
  rcases h with h | ⟨b, off, hA, hlt, hc⟩
  · exact .inl h
  · exact .inr ⟨b, off, hA, Nat.lt_of_lt_of_le hlt hg.size, fun j i hj hi => hg.cell (hc j i hj hi) (hne b off hA)⟩
theorem Wds.on (h : Wds w A n f) (hg : w.grownBy w' none) : Wds w' A n f := h.grown hg (by intro _ _ _ e; cases e)
theorem Wds.cell (h : Wds w (some ⟨B, cap, none⟩) n f) {j i : Nat} (hj : j < n) (hi : i < 4) : w.cell? ⟨B, cap + j * 4 + i, none⟩ = some ((f j).part i) := by
  rcases h with h | ⟨b, off, hA, hb, hc⟩
  · omega
  · injection hA with hA
    injection hA with h1 h2
    subst h1; subst h2
    exact hc j i hj hi
/-- The four cells of one wide instruction. -/
theorem Wds.four (h : Wds w (some ⟨B, cap, none⟩) n f) {j : Nat} (hj : j < n) : w.cell? ⟨B, cap + j * 4, none⟩ = some (.string (f j).op) ∧ w.cell? ⟨B, cap + j * 4 + 1, none⟩ = some (.int .i64 (f j).a) ∧ w.cell? ⟨B, cap + j * 4 + 2, none⟩ = some (.int .i64 (f j).b) ∧ w.cell? ⟨B, cap + j * 4 + 3, none⟩ = some (.int .i64 (f j).k) :=
  ⟨h.cell hj (i := 0) (by omega), h.cell hj (i := 1) (by omega), h.cell hj (i := 2) (by omega), h.cell hj (i := 3) (by omega)⟩
theorem OwnW.wds {g : Nat} (h : OwnW w B (some ⟨g, 0, none⟩) n cap f) : Wds w (some ⟨g, 0, none⟩) n f := by
  refine .inr ⟨g, 0, rfl, (World.ownsRow.lt h g rfl).2, fun j i hj hi => ?_⟩
  rw [Nat.zero_add, World.ownsRow.cellAt h (j * 4 + i) (by omega), wideL_get n f j i hj hi]
theorem OwnW.congr (h : OwnW w B A n cap f) (hf : ∀ j, j < n → f j = g j) : OwnW w B A n cap g := by
  unfold OwnW at h ⊢
  rw [← wideL_congr n f g hf]
  exact h
theorem OwnW.put {g : Nat} (h : OwnW w B (some ⟨g, 0, none⟩) n cap f) (k : Nat) (c : Wid) :
    OwnW ((((w.setCell ⟨g, k * 4, none⟩ (.string c.op)).setCell ⟨g, k * 4 + 1, none⟩ (.int .i64 c.a)).setCell ⟨g, k * 4 + 2, none⟩ (.int .i64 c.b)).setCell ⟨g, k * 4 + 3, none⟩ (.int .i64 c.k)) B (some ⟨g, 0, none⟩) n cap (fun j => if j = k then c else f j) := by
  have h5 := (World.ownsRow.stored (World.ownsRow.stored (World.ownsRow.stored (World.ownsRow.stored h (k * 4) (.string c.op)).1 (k * 4 + 1) (.int .i64 c.a)).1 (k * 4 + 2) (.int .i64 c.b)).1 (k * 4 + 3) (.int .i64 c.k)).1
  rw [wideL_set4] at h5
  exact h5
end
theorem Wds.cells {w : World} {ad : Addr} {n : Nat} {f : Nat → Wid} (h : Wds w (some ad) n f) : ∀ j u, (wideL n f)[j]? = some u → w.cell? (ad.add j) = some u := by
  intro j u hj
  by_cases hjn : j < n * 4
  · rcases h with h | ⟨b, off, hA, hb, hc⟩
    · omega
    · injection hA with hA
      subst hA
      have e := wideL_get n f (j / 4) (j % 4) (by omega) (by omega)
      rw [show j / 4 * 4 + j % 4 = j by omega, hj] at e
      injection e with e
      subst e
      rw [Addr.add_lit, ← hc (j / 4) (j % 4) (by omega) (by omega), Nat.add_assoc, show j / 4 * 4 + j % 4 = j by omega]
  · rw [List.getElem?_eq_none (by rw [wideL_len]; omega)] at hj
    cases hj
theorem wideL_oneCell (n : Nat) (f : Nat → Wid) : ∀ u ∈ wideL n f, u.oneCell' = true := by
  intro u hu
  simp only [wideL, rowL, List.mem_map] at hu
  obtain ⟨j, _, rfl⟩ := hu
  rcases (show j % 4 = 0 ∨ j % 4 = 1 ∨ j % 4 = 2 ∨ j % 4 = 3 ∨ j % 4 = 4 by omega) with e | e | e | e | e <;> rw [e] <;> rfl
/-- The wide instruction of noughts. -/
def zWid : Wid := ⟨⟨#[]⟩, 0, 0, 0⟩
end Go.Proofs.YtehjfnfpebdidaaDoor
