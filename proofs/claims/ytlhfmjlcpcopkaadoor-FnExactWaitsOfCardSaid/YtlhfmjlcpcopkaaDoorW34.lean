/- The laws' helpers over machines: compare, mark, test, measure, copy. -/
import Derived.Test.YtlhfmjlcpcopkaaDoorW33
namespace Go.Proofs.YtlhfmjlcpcopkaaDoor
open Go.RowKit
/-- Only the blocks g1 and g2 may have changed. -/
structure But (w w' : World) (g1 g2 : Nat) : Prop where
  os : w'.os = w.os
  tape : w'.tape = w.tape
  output : w'.output = w.output
  size : w.heap.size ≤ w'.heap.size
  block : ∀ i, i < w.heap.size → i ≠ g1 → i ≠ g2 → w'.heap[i]? = w.heap[i]?
theorem But.of1 {w w' : World} {g1 : Nat} (g2 : Nat) (h : w.grownBy w' (some g1)) : But w w' g1 g2 := ⟨h.os, h.tape, h.output, h.size, fun i hi h1 _ => h.block i hi (by simpa using h1)⟩
theorem But.of2 {w w' : World} (g1 : Nat) {g2 : Nat} (h : w.grownBy w' (some g2)) : But w w' g1 g2 := ⟨h.os, h.tape, h.output, h.size, fun i hi _ h1 => h.block i hi (by simpa using h1)⟩
theorem But.of {w w' : World} (g1 g2 : Nat) (h : w.grownBy w' none) : But w w' g1 g2 := ⟨h.os, h.tape, h.output, h.size, fun i hi _ _ => h.block i hi (by simp)⟩
theorem But.trans {a b c : World} {g1 g2 : Nat} (h : But a b g1 g2) (h' : But b c g1 g2) : But a c g1 g2 :=
  ⟨h'.os.trans h.os, h'.tape.trans h.tape, h'.output.trans h.output, Nat.le_trans h.size h'.size, fun i hi h1 h2 => (h'.block i (Nat.lt_of_lt_of_le hi h.size) h1 h2).trans (h.block i hi h1 h2)⟩
theorem But.below {w w' : World} {g1 g2 B : Nat} (h : But w w' g1 g2) (h1 : B ≤ g1) (h2 : B ≤ g2) (hB : B ≤ w.heap.size) : Below B w w' := ⟨h.os, h.tape, h.output, h.size, fun i hi => h.block i (by omega) (by omega) (by omega)⟩
theorem But.holds {w w' : World} {g1 g2 g : Nat} {t : TypeId} {cs : Array Value} (h : But w w' g1 g2) (hh : Holds5 w g t cs) (h1 : g ≠ g1) (h2 : g ≠ g2) : Holds5 w' g t cs := (h.block g hh.inside h1 h2).trans hh
theorem But.nums {w w' : World} {g1 g2 : Nat} {A : Option Addr} {n : Nat} {f : Nat → Int} (h : But w w' g1 g2) (hh : Nums w A n f) (hne : ∀ b off, A = some ⟨b, off, none⟩ → b ≠ g1 ∧ b ≠ g2) : Nums w' A n f := by
  rcases hh with hh | ⟨b, off, hA, hlt, hc⟩
  · exact .inl hh
  · obtain ⟨n1, n2⟩ := hne b off hA
    exact .inr ⟨b, off, hA, Nat.lt_of_lt_of_le hlt h.size, fun j hj => (World.cell?_of_block (a := ⟨b, off + j, none⟩) (h.block b hlt n1 n2)).trans (hc j hj)⟩


/-- What a slice's block is: below the heap's size, if it has elements. -/
theorem Nums.ne {w : World} {A : Option Addr} {n : Nat} {f : Nat → Int} (h : Nums w A n f) (o : Obj) : Nums (w.alloc o) A n f := h.alloc o
end Go.Proofs.YtlhfmjlcpcopkaaDoor