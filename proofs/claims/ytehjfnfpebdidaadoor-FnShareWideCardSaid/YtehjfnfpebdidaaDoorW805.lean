/- What the walk of an exact law over wide instructions keeps. -/
import Derived.Test.YtehjfnfpebdidaaDoorW803
import Derived.Test.YtehjfnfpebdidaaDoorW812
namespace Go.Proofs.YtehjfnfpebdidaaDoor
open Go.RowKit
theorem OwnW_on {w w' : World} {B g n c : Nat} {f : Nat → Wid} (h : OwnW w B (some ⟨g, 0, none⟩) n c f) (hg : w.grownBy w' none) : OwnW w' B (some ⟨g, 0, none⟩) n c f := World.ownsRow.kept h hg (.inr (by
  show some g ≠ none
  simp))
theorem OwnW_lt {w : World} {B g n c : Nat} {f : Nat → Wid} (h : OwnW w B (some ⟨g, 0, none⟩) n c f) : B ≤ g ∧ g < w.heap.size := World.ownsRow.lt h g rfl
/-- The wide instructions that came in can be read; nothing that was there has changed. -/
structure SW (w wr : World) (A : Option Addr) (n : Nat) (F : Nat → Wid) : Prop where
  wt0 : WT w
  wds0 : Wds w A n F
  base : w.grownBy wr none
section
variable {w wr w2 : World} {A : Option Addr} {n : Nat} {F : Nat → Wid}
theorem SW.wt (h : SW w wr A n F) : WT wr := h.wt0.below (below_of_grown h.base) (wt_lt h.wt0)
theorem SW.wds (h : SW w wr A n F) : Wds wr A n F := h.wds0.on h.base
theorem SW.grown (h : SW w wr A n F) (hg : wr.grownBy w2 none) : SW w w2 A n F := ⟨h.wt0, h.wds0, grown_same h.base hg⟩
theorem SW.row {row : Option Nat} (h : SW w wr A n F) (g : wr.grownBy w2 row) (hb : ∀ b, row = some b → w.heap.size ≤ b) : SW w w2 A n F := by
  refine ⟨h.wt0, h.wds0, ⟨g.os.trans h.base.os, g.tape.trans h.base.tape, g.output.trans h.base.output, Nat.le_trans h.base.size g.size, fun i hi hn => (g.block i (Nat.lt_of_lt_of_le hi h.base.size) (fun e => ?_)).trans (h.base.block i hi hn)⟩⟩
  have := hb i e.symm
  omega
theorem SW.lt (h : SW w wr A n F) : w.heap.size ≤ wr.heap.size := h.base.size
end
/-- What a call leaves that answers a value without memory. -/
def ValRes (v : Value) (w : World) (e : Ending) (w' : World) : Prop := e = .returned v ∧ w.grownBy w' none
end Go.Proofs.YtehjfnfpebdidaaDoor
