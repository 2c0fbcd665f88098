/- Rows of texts that a call has made. -/
import Derived.Test.YtjbbmnmbcdohiaaDoorW310
import Derived.Deep.DeepCutAuto
namespace Go.Proofs.YtjbbmnmbcdohiaaDoor
open Go.RowKit
/-- The cells of texts. -/
def strL (xs : List (List UInt8)) : List Value := xs.map fun x => .string (tx x)
theorem strL_len (xs : List (List UInt8)) : (strL xs).length = xs.length := by simp [strL]
theorem strL_snoc (xs : List (List UInt8)) (x : List UInt8) : strL xs ++ [.string (tx x)] = strL (xs ++ [x]) := by simp [strL]
theorem strL_oneCell (xs : List (List UInt8)) : ∀ u ∈ strL xs, u.oneCell' = true := by
  intro u hu
  simp only [strL, List.mem_map] at hu
  obtain ⟨x, _, rfl⟩ := hu
  rfl
theorem str_one (x : ByteArray) : ∀ u ∈ ([.string x] : List Value), u.oneCell' = true := by
  intro u hu
  simp only [List.mem_cons, List.not_mem_nil, or_false] at hu
  rw [hu]
  rfl
theorem str_new (w : World) (t : TypeId) (x : ByteArray) : ∀ j u, ([.string x] : List Value)[j]? = some u → (w.alloc (.cells #[.string x] t)).cell? ((⟨w.heap.size, 0, none⟩ : Addr).add j) = some u := by
  intro j u h
  rw [Addr.add_lit, Nat.zero_add, World.cell?_alloc_new]
  simpa using h
theorem strL_get (xs : List (List UInt8)) (j : Nat) (h : j < xs.length) : (strL xs)[j]? = some (.string (tx xs[j])) := by
  simp [strL, h]
/-- The cells of K texts. -/
def strF (K : Nat) (f : Nat → ByteArray) : List Value := (List.range K).map fun j => .string (f j)
theorem strF_len (n : Nat) (f : Nat → ByteArray) : (strF n f).length = n := by simp [strF]
theorem strF_get (n : Nat) (f : Nat → ByteArray) (j : Nat) (h : j < n) : (strF n f)[j]? = some (.string (f j)) := by simp [strF, h]
theorem strF_congr (n : Nat) (f g : Nat → ByteArray) (h : ∀ j, j < n → f j = g j) : strF n f = strF n g := by
  unfold strF
  apply List.map_congr_left
  intro j hj
  rw [h j (List.mem_range.1 hj)]
theorem strF_set (n : Nat) (f g : Nat → ByteArray) (k : Nat) (x : ByteArray) (hk : g k = x) (h : ∀ j, j < n → j ≠ k → f j = g j) : (strF n f).set k (.string x) = strF n g := by
  apply List.ext_getElem?
  intro i
  rw [List.getElem?_set]
  by_cases hi : i < n
  · rw [strF_get n g i hi]
    by_cases hik : k = i
    · subst hik
      rw [if_pos rfl, strF_len, if_pos hi, hk]
    · rw [if_neg hik, strF_get n f i hi, h i hi (fun e => hik e.symm)]
  · have e1 : (strF n g)[i]? = none := List.getElem?_eq_none (by rw [strF_len]; omega)
    rw [e1]
    split
    · rename_i h1
      subst h1
      rw [strF_len, if_neg hi]
    · exact List.getElem?_eq_none (by rw [strF_len]; omega)
theorem strL_F (xs : List (List UInt8)) : strL xs = strF xs.length (fun j => tx (xs.getD j [])) := by
  apply List.ext_getElem?
  intro i
  by_cases hi : i < xs.length
  · rw [strF_get _ _ _ hi, strL_get xs i hi]
    simp [hi]
  · rw [List.getElem?_eq_none (by rw [strL_len]; omega), List.getElem?_eq_none (by rw [strF_len]; omega)]
/-- A row of texts that a call has made, in a stretch of memory. -/
structure RowS (wr : World) (lo hi : Nat) (v : Value) (K : Nat) (f : Nat → ByteArray) : Prop where
  own : wr.ownsRow lo 9 1 v K (strF K f)
  hib : ∀ i, v.ownBlock = some i → i < hi
theorem ownsRow_on {w w' : World} {B : Nat} {e : TypeId} {z : Nat} {v : Value} {n : Nat} {xs : List Value} (h : w.ownsRow B e z v n xs) (hg : w.grownBy w' none) : w'.ownsRow B e z v n xs :=
  World.ownsRow.kept h hg (Classical.em _)
theorem ownsRow_slice {w : World} {B : Nat} {e : TypeId} {z : Nat} {v : Value} {n : Nat} {xs : List Value} (h : w.ownsRow B e z v n xs) : ∃ A c, v = .slice A n c ∧ ∀ b off, A = some ⟨b, off, none⟩ → B ≤ b ∧ b < w.heap.size := by
  rcases h.2 with ⟨e, h0⟩ | ⟨g', c, cur, e, hb, hw, hrest⟩
  · exact ⟨none, 0, by rw [e, h0], by intro _ _ e; cases e⟩
  · have hh := h
    subst e
    have hlt := World.ownsRow.lt hh g' rfl
    exact ⟨some ⟨g', 0, none⟩, c, rfl, by intro b off e; injection e with e; injection e with e1 e2; subst e1; exact hlt⟩
/-- A row's cells can be read. -/
def Strs (w : World) (A : Option Addr) (K : Nat) (f : Nat → ByteArray) : Prop :=
  K = 0 ∨ ∃ b, A = some ⟨b, 0, none⟩ ∧ b < w.heap.size ∧ ∀ j, j < K → w.cell? ⟨b, j, none⟩ = some (.string (f j))
section
variable {w w' wr w2 : World} {lo hi : Nat} {v : Value} {K : Nat} {f : Nat → ByteArray}
theorem RowS.rng (h : RowS wr lo hi v K f) {i : Nat} (hi' : v.ownBlock = some i) : lo ≤ i ∧ i < hi := ⟨(World.ownsRow.lt h.own i hi').1, h.hib i hi'⟩
theorem RowS.grown (h : RowS wr lo hi v K f) (hg : wr.grownBy w2 none) : RowS w2 lo hi v K f := ⟨ownsRow_on h.own hg, h.hib⟩
theorem RowS.row {row : Option Nat} (h : RowS wr lo hi v K f) (hg : wr.grownBy w2 row) (hb : ∀ b, row = some b → b < lo ∨ hi ≤ b) : RowS w2 lo hi v K f := by
  refine ⟨?_, h.hib⟩
  rcases hv : v.ownBlock with _ | i
  · exact World.ownsRow.kept h.own hg (.inl hv)
  · refine World.ownsRow.kept h.own hg (.inr fun e' => ?_)
    rw [hv] at e'
    have h1 := h.rng hv
    have h2 := hb i e'.symm
    omega
theorem ownS_strs {g c : Nat} (h : wr.ownsRow lo 9 1 (.slice (some ⟨g, 0, none⟩) K c) K (strF K f)) : Strs wr (some ⟨g, 0, none⟩) K f := by
  refine .inr ⟨g, rfl, (World.ownsRow.lt h g rfl).2, fun j hj => ?_⟩
  rw [World.ownsRow.cellAt h j (by omega), strF_get K f j hj]
theorem RowS.strs (h : RowS wr lo hi v K f) : ∃ A c, v = .slice A K c ∧ Strs wr A K f := by
  rcases h.own.2 with ⟨e', h0⟩ | ⟨g', cap', cur, e', _⟩
  · exact ⟨none, 0, by rw [e', h0], .inl h0⟩
  · have ho := h.own
    rw [e'] at ho
    exact ⟨some ⟨g', 0, none⟩, cap', e', ownS_strs ho⟩
theorem RowS.congr {g : Nat → ByteArray} (h : RowS wr lo hi v K f) (hf : ∀ j, j < K → f j = g j) : RowS wr lo hi v K g := by
  refine ⟨?_, h.hib⟩
  rw [← strF_congr K f g hf]
  exact h.own
theorem RowS.of_own (h : wr.ownsRow lo 9 1 v K (strF K f)) : RowS wr lo wr.heap.size v K f := ⟨h, fun i hi => (World.ownsRow.lt h i hi).2⟩
theorem grown_then_some {a b c : World} {g : Nat} (h : a.grownBy b (some g)) (h' : b.grownBy c none) : a.grownBy c (some g) :=
  ⟨h'.os.trans h.os, h'.tape.trans h.tape, h'.output.trans h.output, Nat.le_trans h.size h'.size, fun i hi hne => (h'.block i (Nat.lt_of_lt_of_le hi h.size) (by simp)).trans (h.block i hi hne)⟩
end
/-- A row of texts at an address. -/
abbrev wsR (w : World) (lo g K cap : Nat) (f : Nat → ByteArray) : Prop := w.ownsRow lo 9 1 (.slice (some ⟨g, 0, none⟩) K cap) K (strF K f)
theorem info9 : (Tryd.prog.info? 9).map (fun i => (i.zero, i.size, i.bytes)) = some (some (.string ⟨#[]⟩), 1, 16) := by kernel_rfl
/-- What a call leaves that makes a row of texts. -/
def StrRes (xs : List (List UInt8)) (w : World) (e : Ending) (w' : World) : Prop :=
  ∃ v, e = .returned v ∧ w'.ownsRow w.heap.size 9 1 v xs.length (strL xs) ∧ w.grownBy w' none
theorem grown_rowS {a b c : World} {v : Value} (h : a.grownBy b none) (h' : b.grownBy c v.ownBlock) (hv : ∀ j, v.ownBlock = some j → a.heap.size ≤ j) : a.grownBy c none := by
  rcases e : v.ownBlock with _ | j
  · rw [e] at h'
    exact grown_same h h'
  · rw [e] at h'
    exact grown_then h h' (hv j e)
theorem tx_drop (l : List UInt8) (k : Nat) : (tx l).extract k (tx l).size = tx (l.drop k) := by
  rw [tx_extract, tx_size, List.take_of_length_le (by simp)]
theorem tx_take (l : List UInt8) (k : Nat) : (tx l).extract 0 k = tx (l.take k) := by
  rw [tx_extract]
  simp
end Go.Proofs.YtjbbmnmbcdohiaaDoor
