/- Slices of instructions: what it means that they can be read, or are the call's own; no condition. -/
import Derived.Test.YtcfnoihjpiklhaaDoorW30
import Derived.Test.YtcfnoihjpiklhaaDoorW25
namespace Go.Proofs.YtcfnoihjpiklhaaDoor
open Go.RowKit
/-- An instruction. -/
structure Ins where
  op : ByteArray
  d : Int
  a : Int
  b : Int
  k : Int
/-- Its cells. -/
def Ins.part (c : Ins) : Nat → Value
  | 0 => .string c.op
  | 1 => .int .i64 c.d
  | 2 => .int .i64 c.a
  | 3 => .int .i64 c.b
  | _ => .int .i64 c.k
/-- n instructions at an address can be read. -/
def Code (w : World) (A : Option Addr) (n : Nat) (f : Nat → Ins) : Prop :=
  n = 0 ∨ ∃ b off, A = some ⟨b, off, none⟩ ∧ b < w.heap.size ∧ ∀ j i, j < n → i < 5 → w.cell? ⟨b, off + j * 5 + i, none⟩ = some ((f j).part i)
/-- A row of values. -/
def rowL (m : Nat) (g : Nat → Value) : List Value := (List.range m).map g
theorem rowL_len (m : Nat) (g : Nat → Value) : (rowL m g).length = m := by simp [rowL]
theorem rowL_get (m : Nat) (g : Nat → Value) (j : Nat) (h : j < m) : (rowL m g)[j]? = some (g j) := by simp [rowL, h]
theorem rowL_congr (m : Nat) (f g : Nat → Value) (h : ∀ j, j < m → f j = g j) : rowL m f = rowL m g := by
  unfold rowL
  apply List.map_congr_left
  intro j hj
  exact h j (List.mem_range.1 hj)
theorem rowL_set (m : Nat) (f : Nat → Value) (k : Nat) (x : Value) : (rowL m f).set k x = rowL m (fun j => if j = k then x else f j) := by
  apply List.ext_getElem?
  intro i
  rw [List.getElem?_set]
  by_cases hi : i < m
  · rw [rowL_get m _ i hi, rowL_len, rowL_get m _ i hi]
    by_cases hik : k = i
    · subst hik
      rw [if_pos rfl, if_pos hi, if_pos rfl]
    · rw [if_neg hik, if_neg (fun e => hik e.symm)]
  · have e1 : (rowL m (fun j => if j = k then x else f j))[i]? = none := List.getElem?_eq_none (by rw [rowL_len]; omega)
    rw [e1, rowL_len]
    split
    · rename_i h1
      subst h1
      rw [if_neg hi]
    · exact List.getElem?_eq_none (by rw [rowL_len]; omega)
/-- The cells of n instructions. -/
def codeL (n : Nat) (f : Nat → Ins) : List Value := rowL (n * 5) (fun i => (f (i / 5)).part (i % 5))
/-- n instructions that the call owns. -/
abbrev OwnC (w : World) (B : Nat) (A : Option Addr) (n cap : Nat) (f : Nat → Ins) : Prop := w.ownsRow B 37 5 (.slice A n cap) n (codeL n f)
theorem codeL_len (n : Nat) (f : Nat → Ins) : (codeL n f).length = n * 5 := rowL_len _ _
theorem part5 (c : Ins) (i : Nat) (h : i < 5) : c.part i = match i with | 0 => .string c.op | 1 => .int .i64 c.d | 2 => .int .i64 c.a | 3 => .int .i64 c.b | _ => .int .i64 c.k := by
  match i, h with
  | 0, _ => rfl
  | 1, _ => rfl
  | 2, _ => rfl
  | 3, _ => rfl
  | 4, _ => rfl
theorem codeL_get (n : Nat) (f : Nat → Ins) (j i : Nat) (hj : j < n) (hi : i < 5) : (codeL n f)[j * 5 + i]? = some ((f j).part i) := by
  unfold codeL
  rw [rowL_get _ _ _ (by omega), show (j * 5 + i) / 5 = j by omega, show (j * 5 + i) % 5 = i by omega]
theorem codeL_set5 (n : Nat) (f : Nat → Ins) (k : Nat) (c : Ins) :
    (((((codeL n f).set (k * 5) (.string c.op)).set (k * 5 + 1) (.int .i64 c.d)).set (k * 5 + 2) (.int .i64 c.a)).set (k * 5 + 3) (.int .i64 c.b)).set (k * 5 + 4) (.int .i64 c.k) = codeL n (fun j => if j = k then c else f j) := by
  unfold codeL
  rw [rowL_set, rowL_set, rowL_set, rowL_set, rowL_set]
  apply rowL_congr
  intro i _
  show _ = (if i / 5 = k then c else f (i / 5)).part (i % 5)
  by_cases h : i / 5 = k
  · rw [if_pos h]
    rcases (show i % 5 = 0 ∨ i % 5 = 1 ∨ i % 5 = 2 ∨ i % 5 = 3 ∨ i % 5 = 4 by omega) with e | e | e | e | e
    · rw [e, if_neg (by omega), if_neg (by omega), if_neg (by omega), if_neg (by omega), if_pos (by omega)]
      rfl
    · rw [e, if_neg (by omega), if_neg (by omega), if_neg (by omega), if_pos (by omega)]
      rfl
    · rw [e, if_neg (by omega), if_neg (by omega), if_pos (by omega)]
      rfl
    · rw [e, if_neg (by omega), if_pos (by omega)]
      rfl
    · rw [e, if_pos (by omega)]
      rfl
  · rw [if_neg h, if_neg (by omega), if_neg (by omega), if_neg (by omega), if_neg (by omega), if_neg (by omega)]
theorem codeL_congr (n : Nat) (f g : Nat → Ins) (h : ∀ j, j < n → f j = g j) : codeL n f = codeL n g := by
  unfold codeL
  apply rowL_congr
  intro i hi
  rw [h (i / 5) (by omega)]
section
variable {w w' : World} {A : Option Addr} {B n cap : Nat} {f g : Nat → Ins}
theorem Code.congr (h : Code w A n f) (hf : ∀ j, j < n → f j = g j) : Code w A n g := by
  rcases h with h | ⟨b, off, hA, hb, hc⟩
  · exact .inl h
  · exact .inr ⟨b, off, hA, hb, fun j i hj hi => by rw [hc j i hj hi, hf j hj]⟩
theorem Code.alloc (h : Code w A n f) (o : Obj) : Code (w.alloc o) A n f := by
  rcases h with h | ⟨b, off, hA, hb, hc⟩
  · exact .inl h
  · exact .inr ⟨b, off, hA, by simp; omega, fun j i hj hi => (World.cell?_alloc_some w _ o (by rw [hc j i hj hi]; rfl)).trans (hc j i hj hi)⟩
theorem Code.grown {row : Option Nat} (h : Code w A n f) (hg : w.grownBy w' row) (hne : ∀ b off, A = some ⟨b, off, none⟩ → some b ≠ row) : Code w' A n f := by
  rcases h with h | ⟨b, off, hA, hlt, hc⟩
  · exact .inl h
  · exact .inr ⟨b, off, hA, Nat.lt_of_lt_of_le hlt hg.size, fun j i hj hi => hg.cell (hc j i hj hi) (hne b off hA)⟩
theorem Code.on (h : Code w A n f) (hg : w.grownBy w' none) : Code w' A n f := h.grown hg (by intro _ _ _ e; cases e)
theorem Code.cell (h : Code w (some ⟨B, cap, none⟩) n f) {j i : Nat} (hj : j < n) (hi : i < 5) : w.cell? ⟨B, cap + j * 5 + i, none⟩ = some ((f j).part i) := by
  rcases h with h | ⟨b, off, hA, hb, hc⟩
  · omega
  · injection hA with hA
    injection hA with h1 h2
    subst h1; subst h2
    exact hc j i hj hi
/-- The five cells of one instruction. -/
theorem Code.five (h : Code w (some ⟨B, cap, none⟩) n f) {j : Nat} (hj : j < n) : w.cell? ⟨B, cap + j * 5, none⟩ = some (.string (f j).op) ∧ w.cell? ⟨B, cap + j * 5 + 1, none⟩ = some (.int .i64 (f j).d) ∧ w.cell? ⟨B, cap + j * 5 + 2, none⟩ = some (.int .i64 (f j).a) ∧ w.cell? ⟨B, cap + j * 5 + 3, none⟩ = some (.int .i64 (f j).b) ∧ w.cell? ⟨B, cap + j * 5 + 4, none⟩ = some (.int .i64 (f j).k) :=
  ⟨h.cell hj (i := 0) (by omega), h.cell hj (i := 1) (by omega), h.cell hj (i := 2) (by omega), h.cell hj (i := 3) (by omega), h.cell hj (i := 4) (by omega)⟩
theorem OwnC.code {g : Nat} (h : OwnC w B (some ⟨g, 0, none⟩) n cap f) : Code w (some ⟨g, 0, none⟩) n f := by
  refine .inr ⟨g, 0, rfl, (World.ownsRow.lt h g rfl).2, fun j i hj hi => ?_⟩
  rw [Nat.zero_add, World.ownsRow.cellAt h (j * 5 + i) (by omega), codeL_get n f j i hj hi]
theorem OwnC.congr (h : OwnC w B A n cap f) (hf : ∀ j, j < n → f j = g j) : OwnC w B A n cap g := by
  unfold OwnC at h ⊢
  rw [← codeL_congr n f g hf]
  exact h
theorem OwnC.put {g : Nat} (h : OwnC w B (some ⟨g, 0, none⟩) n cap f) (k : Nat) (c : Ins) :
    OwnC (((((w.setCell ⟨g, k * 5, none⟩ (.string c.op)).setCell ⟨g, k * 5 + 1, none⟩ (.int .i64 c.d)).setCell ⟨g, k * 5 + 2, none⟩ (.int .i64 c.a)).setCell ⟨g, k * 5 + 3, none⟩ (.int .i64 c.b)).setCell ⟨g, k * 5 + 4, none⟩ (.int .i64 c.k)) B (some ⟨g, 0, none⟩) n cap (fun j => if j = k then c else f j) := by
  have h5 := (World.ownsRow.stored (World.ownsRow.stored (World.ownsRow.stored (World.ownsRow.stored (World.ownsRow.stored h (k * 5) (.string c.op)).1 (k * 5 + 1) (.int .i64 c.d)).1 (k * 5 + 2) (.int .i64 c.a)).1 (k * 5 + 3) (.int .i64 c.b)).1 (k * 5 + 4) (.int .i64 c.k)).1
  rw [codeL_set5] at h5
  exact h5
end
end Go.Proofs.YtcfnoihjpiklhaaDoor
