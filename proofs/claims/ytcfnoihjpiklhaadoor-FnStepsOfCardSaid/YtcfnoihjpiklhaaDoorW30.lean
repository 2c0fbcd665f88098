/- Slices of numbers: the helpers of the laws compare, mark, test and copy them, for every slice whose cells can be read. -/
import Derived.Test.YtcfnoihjpiklhaaDoorW0
import Derived.BigQuiet
import Derived.Deep.QuietTactic
import Derived.Laws.AppendOwn
import Derived.Laws.OwnMore
import Derived.OwnWalk
import Derived.ArgAppend
import Derived.Deep.RegionHeld3
namespace Go.Proofs.YtcfnoihjpiklhaaDoor
open Go.RowKit
/-- n numbers at an address can be read. -/
def Nums (w : World) (A : Option Addr) (n : Nat) (f : Nat → Int) : Prop :=
  n = 0 ∨ ∃ b off, A = some ⟨b, off, none⟩ ∧ b < w.heap.size ∧ ∀ j, j < n → w.cell? ⟨b, off + j, none⟩ = some (.int .i64 (f j))
/-- The cells of n numbers. -/
def numL (n : Nat) (f : Nat → Int) : List Value := (List.range n).map fun j => .int .i64 (f j)
/-- n numbers that the call owns. -/
abbrev Own (w : World) (B : Nat) (A : Option Addr) (n cap : Nat) (f : Nat → Int) : Prop := w.ownsRow B 3 1 (.slice A n cap) n (numL n f)
theorem numL_len (n : Nat) (f : Nat → Int) : (numL n f).length = n := by simp [numL]
theorem numL_get (n : Nat) (f : Nat → Int) (j : Nat) (h : j < n) : (numL n f)[j]? = some (.int .i64 (f j)) := by simp [numL, h]
theorem numL_congr (n : Nat) (f g : Nat → Int) (h : ∀ j, j < n → f j = g j) : numL n f = numL n g := by
  unfold numL
  apply List.map_congr_left
  intro j hj
  rw [h j (List.mem_range.1 hj)]
theorem numL_set (n : Nat) (f g : Nat → Int) (k : Nat) (x : Int) (hk : g k = x) (h : ∀ j, j < n → j ≠ k → f j = g j) : (numL n f).set k (.int .i64 x) = numL n g := by
  apply List.ext_getElem? 
  intro i
  rw [List.getElem?_set]
  by_cases hi : i < n
  · rw [numL_get n g i hi]
    by_cases hik : k = i
    · subst hik
      rw [if_pos rfl, numL_len, if_pos hi, hk]
    · rw [if_neg hik, numL_get n f i hi, h i hi (fun e => hik e.symm)]
  · have e1 : (numL n g)[i]? = none := List.getElem?_eq_none (by rw [numL_len]; omega)
    rw [e1]
    split
    · rename_i h1
      subst h1
      rw [numL_len, if_neg hi]
    · exact List.getElem?_eq_none (by rw [numL_len]; omega)
theorem numL_oneCell (n : Nat) (f : Nat → Int) : ∀ u ∈ numL n f, u.oneCell' = true := by
  intro u hu
  simp only [numL, List.mem_map] at hu
  obtain ⟨j, _, rfl⟩ := hu
  rfl
section
variable {w w' : World} {A : Option Addr} {B n cap : Nat} {f g : Nat → Int}
theorem Nums.congr (h : Nums w A n f) (hf : ∀ j, j < n → f j = g j) : Nums w A n g := by
  rcases h with h | ⟨b, off, hA, hb, hc⟩
  · exact .inl h
  · exact .inr ⟨b, off, hA, hb, fun j hj => by rw [hc j hj, hf j hj]⟩
theorem Nums.alloc (h : Nums w A n f) (o : Obj) : Nums (w.alloc o) A n f := by
  rcases h with h | ⟨b, off, hA, hb, hc⟩
  · exact .inl h
  · exact .inr ⟨b, off, hA, by simp; omega, fun j hj => (World.cell?_alloc_some w _ o (by rw [hc j hj]; rfl)).trans (hc j hj)⟩
theorem Nums.drewN (h : Nums w A n f) (k : Nat) : Nums (w.drewN k) A n f := h
theorem Nums.below (h : Nums w A n f) (hb : Below w.heap.size w w') : Nums w' A n f := by
  rcases h with h | ⟨b, off, hA, hlt, hc⟩
  · exact .inl h
  · exact .inr ⟨b, off, hA, Nat.lt_of_lt_of_le hlt hb.size, fun j hj => (hb.cell (p := ⟨b, off + j, none⟩) hlt).trans (hc j hj)⟩
theorem Nums.belowAt (h : Nums w A n f) {B : Nat} (hb : Below B w w') (hA : ∀ b off, A = some ⟨b, off, none⟩ → b < B) : Nums w' A n f := by
  rcases h with h | ⟨b, off, hA', hlt, hc⟩
  · exact .inl h
  · exact .inr ⟨b, off, hA', Nat.lt_of_lt_of_le hlt hb.size, fun j hj => (hb.cell (p := ⟨b, off + j, none⟩) (hA b off hA')).trans (hc j hj)⟩
theorem Nums.grown {row : Option Nat} (h : Nums w A n f) (hg : w.grownBy w' row) (hne : ∀ b off, A = some ⟨b, off, none⟩ → some b ≠ row) : Nums w' A n f := by
  rcases h with h | ⟨b, off, hA, hlt, hc⟩
  · exact .inl h
  · exact .inr ⟨b, off, hA, Nat.lt_of_lt_of_le hlt hg.size, fun j hj => hg.cell (hc j hj) (hne b off hA)⟩
theorem Nums.cell (h : Nums w (some ⟨B, cap, none⟩) n f) {j : Nat} (hj : j < n) : w.cell? ⟨B, cap + j, none⟩ = some (.int .i64 (f j)) := by
  rcases h with h | ⟨b, off, hA, hb, hc⟩
  · omega
  · injection hA with hA
    injection hA with h1 h2
    subst h1; subst h2
    exact hc j hj
theorem Nums.cells {b off : Nat} (h : Nums w (some ⟨b, off, none⟩) n f) : ∀ j u, (numL n f)[j]? = some u → w.cell? ((⟨b, off, none⟩ : Addr).add j) = some u := by
  intro j u hj
  by_cases hjn : j < n
  · rw [numL_get n f j hjn] at hj
    cases hj
    rw [Addr.add_lit]
    exact h.cell hjn
  · rw [List.getElem?_eq_none (by rw [numL_len]; omega)] at hj
    cases hj
theorem Own.lower {B' : Nat} (h : Own w B A n cap f) (hB : B' ≤ B) : Own w B' A n cap f := by
  refine ⟨h.1, ?_⟩
  rcases h.2 with h' | ⟨g, cap', cur, h1, h2, h3⟩
  · exact .inl h'
  · exact .inr ⟨g, cap', cur, h1, Nat.le_trans hB h2, h3⟩
theorem Own.lt {b : Nat} (h : Own w B (some ⟨b, 0, none⟩) n cap f) : B ≤ b ∧ b < w.heap.size := World.ownsRow.lt h b rfl
theorem Own.nums {g : Nat} (h : Own w B (some ⟨g, 0, none⟩) n cap f) : Nums w (some ⟨g, 0, none⟩) n f := by
  refine .inr ⟨g, 0, rfl, (World.ownsRow.lt h g rfl).2, fun j hj => ?_⟩
  rw [Nat.zero_add, World.ownsRow.cellAt h j (by omega), numL_get n f j hj]
theorem Own.congr (h : Own w B A n cap f) (hf : ∀ j, j < n → f j = g j) : Own w B A n cap g := by
  unfold Own at h ⊢
  rw [← numL_congr n f g hf]
  exact h
theorem Own.caps {g : Nat} (h : Own w B (some ⟨g, 0, none⟩) n cap f) : n ≤ cap ∧ cap ≤ maxLen := by
  rcases h.2 with ⟨h', _⟩ | ⟨g', cap', cur, h', _, hg, hnc, hcm, _⟩
  · simp at h'
  · simp only [Value.slice.injEq, Option.some.injEq, Addr.mk.injEq, and_true, true_and] at h'
    obtain ⟨rfl, rfl⟩ := h'
    exact ⟨hnc, hcm⟩
theorem grown_then {a b c : World} {g : Nat} (h : a.grownBy b none) (h' : b.grownBy c (some g)) (hg : a.heap.size ≤ g) : a.grownBy c none :=
  ⟨h'.os.trans h.os, h'.tape.trans h.tape, h'.output.trans h.output, Nat.le_trans h.size h'.size, fun i hi _ => (h'.block i (Nat.lt_of_lt_of_le hi h.size) (fun e => by
    injection e with e
    omega)).trans (h.block i hi (by simp))⟩
theorem grown_same {a b c : World} {row : Option Nat} (h : a.grownBy b row) (h' : b.grownBy c row) : a.grownBy c row :=
  ⟨h'.os.trans h.os, h'.tape.trans h.tape, h'.output.trans h.output, Nat.le_trans h.size h'.size, fun i hi hne => (h'.block i (Nat.lt_of_lt_of_le hi h.size) hne).trans (h.block i hi hne)⟩
theorem grown_refl (a : World) (row : Option Nat) : a.grownBy a row := ⟨rfl, rfl, rfl, Nat.le_refl _, fun _ _ _ => rfl⟩
theorem grown_drewN {a b : World} {row : Option Nat} (h : a.grownBy b row) (k : Nat) : a.grownBy (b.drewN k) row := ⟨h.os, h.tape, h.output, h.size, h.block⟩
theorem below_of_grown {a b : World} (h : a.grownBy b none) : Below a.heap.size a b := ⟨h.os, h.tape, h.output, h.size, fun i hi => h.block i hi (by simp)⟩
theorem grown_of_below {a b : World} (h : Below a.heap.size a b) : a.grownBy b none := ⟨h.os, h.tape, h.output, h.size, fun i hi _ => h.block i hi⟩
theorem drewN_drewN (a : World) (i j : Nat) : (a.drewN i).drewN j = a.drewN (i + j) := by
  show (⟨_, _, _, _, _⟩ : World) = ⟨_, _, _, _, _⟩
  simp [World.drewN, Nat.add_assoc]
end

end Go.Proofs.YtcfnoihjpiklhaaDoor