/- What the walk of an exact law over a program keeps. -/
import Derived.Test.YtlmjbflnfpccdaaDoorW97d
namespace Go.Proofs.YtlmjbflnfpccdaaDoor
open Go.RowKit
/-- The program that came in can be read; nothing that was there has changed. -/
structure SC (w wr : World) (A : Option Addr) (n : Nat) (F : Nat → Ins) : Prop where
  wt0 : WT w
  code0 : Code w A n F
  base : w.grownBy wr none
section
variable {w wr w2 : World} {A : Option Addr} {n : Nat} {F : Nat → Ins}
theorem SC.wt (h : SC w wr A n F) : WT wr := h.wt0.below (below_of_grown h.base) (wt_lt h.wt0)
theorem SC.code (h : SC w wr A n F) : Code wr A n F := h.code0.on h.base
theorem SC.grown (h : SC w wr A n F) (hg : wr.grownBy w2 none) : SC w w2 A n F := ⟨h.wt0, h.code0, grown_same h.base hg⟩
theorem SC.row {row : Option Nat} (h : SC w wr A n F) (g : wr.grownBy w2 row) (hb : ∀ b, row = some b → w.heap.size ≤ b) : SC w w2 A n F := by
  refine ⟨h.wt0, h.code0, ⟨g.os.trans h.base.os, g.tape.trans h.base.tape, g.output.trans h.base.output, Nat.le_trans h.base.size g.size, fun i hi hn => (g.block i (Nat.lt_of_lt_of_le hi h.base.size) (fun e => ?_)).trans (h.base.block i hi hn)⟩⟩
  have := hb i e.symm
  omega
theorem SC.lt (h : SC w wr A n F) : w.heap.size ≤ wr.heap.size := h.base.size
end
end Go.Proofs.YtlmjbflnfpccdaaDoor
