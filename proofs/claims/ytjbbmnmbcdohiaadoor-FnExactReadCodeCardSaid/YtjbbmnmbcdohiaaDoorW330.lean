/- The lines of a program: what stands in a text decides the program. -/
import Derived.Test.YtjbbmnmbcdohiaaDoorW319
import Derived.Test.YtjbbmnmbcdohiaaDoorW60
namespace Go.Proofs.YtjbbmnmbcdohiaaDoor
open Go.RowKit
/-- Is it a valid instruction? -/
abbrev insB (c : Ins) : Bool := vB c.op.toList c.d c.a c.b c.k
/-- Its text. -/
abbrev insL (c : Ins) : List UInt8 := showL c.op.toList c.d c.a c.b c.k
/-- The lines of n instructions. -/
def linesL (n : Nat) (f : Nat → Ins) : List (List UInt8) := (List.range n).map fun j => insL (f j)
theorem linesL_len (n : Nat) (f : Nat → Ins) : (linesL n f).length = n := by simp [linesL]
theorem linesL_get (n : Nat) (f : Nat → Ins) (j : Nat) (h : j < n) : (linesL n f)[j]? = some (insL (f j)) := by simp [linesL, h]
theorem linesL_more (k : Nat) (f : Nat → Ins) (c : Ins) : linesL (k + 1) (fun j => if j = k then c else f j) = linesL k f ++ [insL c] := by
  unfold linesL
  rw [List.range_succ, List.map_append, List.map_singleton]
  congr 1
  · apply List.map_congr_left
    intro j hj
    have := List.mem_range.1 hj
    show insL (if j = k then c else f j) = insL (f j)
    rw [if_neg (by omega)]
  · show [insL (if k = k then c else f k)] = [insL c]
    rw [if_pos rfl]
theorem ins_inj {c c' : Ins} (h : insB c = true) (h' : insB c' = true) (e : insL c = insL c') : c = c' := by
  obtain ⟨h1, h2, h3, h4, h5⟩ := show_inj h h' e
  obtain ⟨op, d, a, b, k⟩ := c
  obtain ⟨op', d', a', b', k'⟩ := c'
  simp only at h1 h2 h3 h4 h5
  rw [toList_inj h1, h2, h3, h4, h5]
theorem vcB_congr {n : Nat} {f g : Nat → Ins} (h : ∀ j, j < n → f j = g j) : vcB n f = vcB n g := by
  unfold vcB
  congr 1
  rw [Bool.eq_iff_iff, allI_iff, allI_iff]
  constructor
  · intro h1 j hj
    rw [← h j hj]
    exact h1 j hj
  · intro h1 j hj
    rw [h j hj]
    exact h1 j hj
/-- The text is the lines of the program. -/
structure RC (s : List UInt8) (n : Nat) (f : Nat → Ins) : Prop where
  cut : splitC 10 s = linesL n f ++ [[]]
  val : ∀ j, j < n → insB (f j) = true
  ok : vcB n f = true
/-- The text is of no program. -/
def NoC (s : List UInt8) : Prop := ∀ n f, ¬ RC s n f
theorem RC.det {s : List UInt8} {n n' : Nat} {f f' : Nat → Ins} (h : RC s n f) (h' : RC s n' f') : n = n' ∧ ∀ j, j < n → f j = f' j := by
  have hc := h.cut.symm.trans h'.cut
  have hn : n = n' := by
    have := congrArg List.length hc
    simp only [List.length_append, linesL_len, List.length_singleton] at this
    omega
  subst hn
  refine ⟨rfl, fun j hj => ins_inj (h.val j hj) (h'.val j hj) ?_⟩
  have := congrArg (fun l : List (List UInt8) => l[j]?) hc
  simp only [List.getElem?_append_left (show j < (linesL n f).length by rw [linesL_len]; exact hj), List.getElem?_append_left (show j < (linesL n f').length by rw [linesL_len]; exact hj), linesL_get _ _ _ hj] at this
  exact Option.some.inj this
theorem RC.at {s a : List UInt8} {n : Nat} {f : Nat → Ins} {xs ys : List (List UInt8)} (h : RC s n f) (hx : splitC 10 s = xs ++ a :: ys) (hy : ys ≠ []) : xs.length < n ∧ insB (f xs.length) = true ∧ insL (f xs.length) = a := by
  have hc := h.cut.symm.trans hx
  have hl := congrArg List.length hc
  simp only [List.length_append, linesL_len, List.length_cons, List.length_nil] at hl
  have hy1 : 0 < ys.length := List.length_pos_iff.2 hy
  have hlt : xs.length < n := by omega
  refine ⟨hlt, h.val _ hlt, ?_⟩
  have := congrArg (fun l : List (List UInt8) => l[xs.length]?) hc
  simp only [List.getElem?_append_left (show xs.length < (linesL n f).length by rw [linesL_len]; exact hlt), linesL_get _ _ _ hlt, List.getElem?_append_right (Nat.le_refl _), Nat.sub_self, List.getElem?_cons_zero] at this
  exact Option.some.inj this
theorem NoC.line {s a : List UInt8} {xs ys : List (List UInt8)} (hx : splitC 10 s = xs ++ a :: ys) (hy : ys ≠ []) (h : NoI a) : NoC s := fun n f hR => by
  obtain ⟨_, h1, h2⟩ := hR.at hx hy
  exact h _ _ _ _ _ h1 h2
theorem NoC.last {s r : List UInt8} {xs : List (List UInt8)} (hx : splitC 10 s = xs ++ [r]) (hr : r ≠ []) : NoC s := fun n f hR => by
  have hc := hR.cut.symm.trans hx
  have := congrArg List.getLast? hc
  simp only [List.getLast?_append, List.getLast?_singleton, Option.some_or, Option.some.injEq] at this
  exact hr this.symm
theorem NoC.long {s a : List UInt8} {xs ys : List (List UInt8)} (hx : splitC 10 s = xs ++ a :: ys) (hy : ys ≠ []) (h : 40 ≤ xs.length) : NoC s := fun n f hR => by
  obtain ⟨h1, _, _⟩ := hR.at hx hy
  have := hR.ok
  rw [vcB_big (by omega)] at this
  cases this
theorem NoC.bad {s : List UInt8} {k : Nat} {f : Nat → Ins} (hx : splitC 10 s = linesL k f ++ [[]]) (hv : ∀ j, j < k → insB (f j) = true) (h : vcB k f = false) : NoC s := fun n g hR => by
  have hc := hR.cut.symm.trans hx
  have hn : n = k := by
    have := congrArg List.length hc
    simp only [List.length_append, linesL_len, List.length_singleton] at this
    omega
  subst hn
  have he : ∀ j, j < n → g j = f j := fun j hj => ins_inj (hR.val j hj) (hv j hj) (by
    have := congrArg (fun l : List (List UInt8) => l[j]?) hc
    simp only [List.getElem?_append_left (show j < (linesL n f).length by rw [linesL_len]; exact hj), List.getElem?_append_left (show j < (linesL n g).length by rw [linesL_len]; exact hj), linesL_get _ _ _ hj] at this
    exact Option.some.inj this)
  have := hR.ok
  rw [vcB_congr he, h] at this
  cases this
theorem val_more {k : Nat} {f : Nat → Ins} {c : Ins} (h : ∀ j, j < k → insB (f j) = true) (hc : insB c = true) : ∀ j, j < k + 1 → insB ((fun j => if j = k then c else f j) j) = true := by
  intro j hj
  show insB (if j = k then c else f j) = true
  by_cases e : j = k
  · rw [if_pos e]
    exact hc
  · rw [if_neg e]
    exact h j (by omega)
/-- What ReadCode gives. -/
def RCw (s : List UInt8) (w : World) (e : Ending) (w' : World) : Prop :=
  ∃ (A : Option Addr) (n c : Nat) (f : Nat → Ins) (ok : Bool), e = .returned (.tuple #[.slice A n c, .bool ok]) ∧ (ok = true → RC s n f) ∧ (ok = false → NoC s ∧ n = 0) ∧ Code w' A n f ∧ n ≤ 40 ∧ w.grownBy w' none ∧ (∀ b o, A = some ⟨b, o, none⟩ → w.heap.size ≤ b)
/-- What is read so far: a row of the call's own. -/
structure CB (w wr : World) (v : Value) (k : Nat) (f : Nat → Ins) : Prop where
  own : wr.ownsRow w.heap.size 24 5 v k (codeL k f)
  low : w.grownBy wr none
section
variable {w wr w2 w3 : World} {v v' : Value} {k k' : Nat} {f f' : Nat → Ins}
theorem CB.on (h : CB w wr v k f) (hG : wr.grownBy w2 none) : CB w w2 v k f := ⟨World.ownsRow.kept h.own hG (Classical.em _), grown_same h.low hG⟩
theorem CB.val (h : CB w wr v k f) : ∃ A c, v = .slice A k c ∧ Code wr A k f ∧ ∀ b o, A = some ⟨b, o, none⟩ → w.heap.size ≤ b := by
  rcases h.own.2 with ⟨e, h0⟩ | ⟨g', c, cur, e, hb, _⟩
  · subst h0
    exact ⟨none, 0, e, .inl rfl, by intro _ _ e; cases e⟩
  · have ho := h.own
    rw [e] at ho
    exact ⟨some ⟨g', 0, none⟩, c, e, OwnC.code ho, by intro b o e; injection e with e; injection e with e; omega⟩
theorem CB.snoc (h : CB w wr v k f) (hG : wr.grownBy w2 none) (ho : w3.ownsRow w.heap.size 24 5 v' k' (codeL k' f')) (hG' : w2.grownBy w3 v.ownBlock) : CB w w3 v' k' f' :=
  ⟨ho, grown_rowS (grown_same h.low hG) hG' (fun j e => (World.ownsRow.lt (h.on hG).own j e).1)⟩
end
end Go.Proofs.YtjbbmnmbcdohiaaDoor
