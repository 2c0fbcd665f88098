/- What the walk of StepMachine's exact law keeps. -/
import Derived.Test.YtbcncifadklkgaaDoorW79
import Derived.Deep.DeepCutAuto
namespace Go.Proofs.YtbcncifadklkgaaDoor
open Go.ChangeShapes Go.WideShapes Go.ChangeAt Go.WideMaps Go.WideElems Go.RowKit
/-- What came in can be read; nothing that was there has changed. -/
structure SX (w wr : World) (B : Nat) (A : Option Addr) (n : Nat) (F : Nat → Ins) (at' : Int) (A1 : Option Addr) (n1 c1 : Nat) (A2 : Option Addr) (n2 c2 : Nat) (f1 f2 : Nat → Int) : Prop where
  wt0 : WT (w.alloc (.cells #[.int .i64 at', .slice A1 n1 c1, .slice A2 n2 c2] 49))
  code0 : Code (w.alloc (.cells #[.int .i64 at', .slice A1 n1 c1, .slice A2 n2 c2] 49)) A n F
  mach0 : EX w (w.alloc (.cells #[.int .i64 at', .slice A1 n1 c1, .slice A2 n2 c2] 49)) B at' A1 n1 c1 A2 n2 c2 f1 f2
  base : (w.alloc (.cells #[.int .i64 at', .slice A1 n1 c1, .slice A2 n2 c2] 49)).grownBy wr none
section
variable {w wr w2 : World} {B : Nat} {A : Option Addr} {n : Nat} {F : Nat → Ins} {at' : Int} {A1 : Option Addr} {n1 c1 : Nat} {A2 : Option Addr} {n2 c2 : Nat} {f1 f2 : Nat → Int}
theorem SX.wt (h : SX w wr B A n F at' A1 n1 c1 A2 n2 c2 f1 f2) : WT wr := h.wt0.below (below_of_grown h.base) (wt_lt h.wt0)
theorem SX.code (h : SX w wr B A n F at' A1 n1 c1 A2 n2 c2 f1 f2) : Code wr A n F := h.code0.on h.base
theorem SX.mach (h : SX w wr B A n F at' A1 n1 c1 A2 n2 c2 f1 f2) : EX w wr B at' A1 n1 c1 A2 n2 c2 f1 f2 := h.mach0.grown h.base
theorem SX.grown (h : SX w wr B A n F at' A1 n1 c1 A2 n2 c2 f1 f2) (hg : wr.grownBy w2 none) : SX w w2 B A n F at' A1 n1 c1 A2 n2 c2 f1 f2 := ⟨h.wt0, h.code0, h.mach0, grown_same h.base hg⟩
theorem SX.lt (h : SX w wr B A n F at' A1 n1 c1 A2 n2 c2 f1 f2) : w.heap.size < wr.heap.size := by
  have := h.base.size
  rw [World.size_alloc] at this
  omega
theorem grown_set3 (w : World) (b : Nat) (x y z : Value) : w.grownBy (((w.setCell ⟨b, 0, none⟩ x).setCell ⟨b, 1, none⟩ y).setCell ⟨b, 2, none⟩ z) (some b) := grown_same (grown_same (grown_set b 0 x) (grown_set b 1 y)) (grown_set b 2 z)
theorem SX.but1 (h : SX w wr B A n F at' A1 n1 c1 A2 n2 c2 f1 f2) {b : Nat} (g : wr.grownBy w2 (some b)) (hb : w.heap.size < b) : SX w w2 B A n F at' A1 n1 c1 A2 n2 c2 f1 f2 := by
  have hb' : (w.alloc (.cells #[.int .i64 at', .slice A1 n1 c1, .slice A2 n2 c2] 49)).heap.size ≤ b := by rw [World.size_alloc]; omega
  exact ⟨h.wt0, h.code0, h.mach0, ⟨g.os.trans h.base.os, g.tape.trans h.base.tape, g.output.trans h.base.output, Nat.le_trans h.base.size g.size, fun i hi hn => (g.block i (Nat.lt_of_lt_of_le hi h.base.size) (by intro e; injection e with e; omega)).trans (h.base.block i hi hn)⟩⟩
theorem SX.put3 (h : SX w wr B A n F at' A1 n1 c1 A2 n2 c2 f1 f2) {b : Nat} (hb : w.heap.size < b) (x y z : Value) : SX w (((wr.setCell ⟨b, 0, none⟩ x).setCell ⟨b, 1, none⟩ y).setCell ⟨b, 2, none⟩ z) B A n F at' A1 n1 c1 A2 n2 c2 f1 f2 := by
  have g := grown_set3 wr b x y z
  have hb' : (w.alloc (.cells #[.int .i64 at', .slice A1 n1 c1, .slice A2 n2 c2] 49)).heap.size ≤ b := by rw [World.size_alloc]; omega
  exact ⟨h.wt0, h.code0, h.mach0, ⟨g.os.trans h.base.os, g.tape.trans h.base.tape, g.output.trans h.base.output, Nat.le_trans h.base.size g.size, fun i hi hn => (g.block i (Nat.lt_of_lt_of_le hi h.base.size) (by intro e; injection e with e; omega)).trans (h.base.block i hi hn)⟩⟩
end
section
variable {w w' wr : World} {B b : Nat} {R1 R2 : Option Addr} {k1 d1 k2 d2 : Nat} {g1 g2 : Nat → Int}
theorem OwnC_on {g n c : Nat} {f : Nat → Ins} (h : OwnC w B (some ⟨g, 0, none⟩) n c f) (hg : w.grownBy w' none) : OwnC w' B (some ⟨g, 0, none⟩) n c f := World.ownsRow.kept h hg (.inr (by
  show some g ≠ none
  simp))
theorem size_drewS (W : World) : W.drew.heap.size = W.heap.size := rfl
theorem Holds5_on {g : Nat} {t : TypeId} {cs : Array Value} (h : Holds5 w g t cs) (hg : w.grownBy w' none) : Holds5 w' g t cs := h.grown hg (by intro e; cases e)
theorem RM.lower (h : RM wr B R1 k1 d1 R2 k2 d2 g1 g2) {B' : Nat} (hB : B' ≤ B) : RM wr B' R1 k1 d1 R2 k2 d2 g1 g2 := by
  rcases h with h | ⟨r1, r2, e1, e2, hne, o1, o2⟩
  · exact .inl h
  · exact .inr ⟨r1, r2, e1, e2, hne, o1.lower hB, o2.lower hB⟩
theorem RM.but1 (h : RM wr B R1 k1 d1 R2 k2 d2 g1 g2) (hg : wr.grownBy w' (some b)) (h1 : R1.map (·.block) ≠ some b) (h2 : R2.map (·.block) ≠ some b) : RM w' B R1 k1 d1 R2 k2 d2 g1 g2 := by
  rcases h with h | ⟨r1, r2, rfl, rfl, hne, o1, o2⟩
  · exact .inl h
  · have e1 : r1 ≠ b := fun e => h1 (by rw [e]; rfl)
    have e2 : r2 ≠ b := fun e => h2 (by rw [e]; rfl)
    exact .inr ⟨r1, r2, rfl, rfl, hne, o1.but (But.of1 b hg) e1 e1, o2.but (But.of1 b hg) e2 e2⟩
end
section
variable {w w5 : World} {B' b : Nat} {A : Option Addr} {n : Nat} {F : Nat → Ins} {at' : Int} {A1 : Option Addr} {n1 c1 : Nat} {A2 : Option Addr} {n2 c2 : Nat} {f1 f2 : Nat → Int} {at2 : Int} {R1 R2 : Option Addr} {k1 d1 k2 d2 : Nat} {g1 g2 : Nat → Int}
theorem made_put (hP : Holds5 w5 b 31 #[.int .i64 0, .slice none 0 0, .slice none 0 0]) (hS : SX w w5 w.heap.size A n F at' A1 n1 c1 A2 n2 c2 f1 f2) (hlt : w.heap.size < b) (hR : RM w5 B' R1 k1 d1 R2 k2 d2 g1 g2) (hb : b < B') :
    Holds5 (((w5.setCell ⟨b, 0, none⟩ (.int .i64 at2)).setCell ⟨b, 1, none⟩ (.slice R1 k1 d1)).setCell ⟨b, 2, none⟩ (.slice R2 k2 d2)) b 31 #[.int .i64 at2, .slice R1 k1 d1, .slice R2 k2 d2] ∧ RM (((w5.setCell ⟨b, 0, none⟩ (.int .i64 at2)).setCell ⟨b, 1, none⟩ (.slice R1 k1 d1)).setCell ⟨b, 2, none⟩ (.slice R2 k2 d2)) w.heap.size R1 k1 d1 R2 k2 d2 g1 g2 ∧ (w.heap.size < b ∧ R1.map (·.block) ≠ some b ∧ R2.map (·.block) ≠ some b) ∧ SX w (((w5.setCell ⟨b, 0, none⟩ (.int .i64 at2)).setCell ⟨b, 1, none⟩ (.slice R1 k1 d1)).setCell ⟨b, 2, none⟩ (.slice R2 k2 d2)) w.heap.size A n F at' A1 n1 c1 A2 n2 c2 f1 f2 := by
  have n1 : R1.map (·.block) ≠ some b := fun e => by have := (hR.low.1 b e).1; omega
  have n2 : R2.map (·.block) ≠ some b := fun e => by have := (hR.low.2 b e).1; omega
  exact ⟨((hP.put 0 _).put 1 _).put 2 _, (hR.lower (by omega)).but1 (grown_set3 _ _ _ _ _) n1 n2, ⟨hlt, n1, n2⟩, hS.put3 hlt _ _ _⟩
theorem made_new (hS : SX w w5 w.heap.size A n F at' A1 n1 c1 A2 n2 c2 f1 f2) (hR : RM w5 B' R1 k1 d1 R2 k2 d2 g1 g2) (hB : w.heap.size ≤ B') :
    Holds5 (w5.alloc (.cells #[.int .i64 at2, .slice R1 k1 d1, .slice R2 k2 d2] 31)) w5.heap.size 31 #[.int .i64 at2, .slice R1 k1 d1, .slice R2 k2 d2] ∧ RM (w5.alloc (.cells #[.int .i64 at2, .slice R1 k1 d1, .slice R2 k2 d2] 31)) w.heap.size R1 k1 d1 R2 k2 d2 g1 g2 ∧ (w.heap.size < w5.heap.size ∧ R1.map (·.block) ≠ some w5.heap.size ∧ R2.map (·.block) ≠ some w5.heap.size) ∧ SX w (w5.alloc (.cells #[.int .i64 at2, .slice R1 k1 d1, .slice R2 k2 d2] 31)) w.heap.size A n F at' A1 n1 c1 A2 n2 c2 f1 f2 := by
  have n1 : R1.map (·.block) ≠ some w5.heap.size := fun e => by have := (hR.low.1 _ e).2; omega
  have n2 : R2.map (·.block) ≠ some w5.heap.size := fun e => by have := (hR.low.2 _ e).2; omega
  exact ⟨Holds5.fresh _ _ _, (hR.on (World.grownBy_alloc _ _ _)).lower hB, ⟨hS.lt, n1, n2⟩, hS.grown (World.grownBy_alloc _ _ _)⟩
end
theorem SX.box3 {w wr : World} {B : Nat} {A : Option Addr} {n : Nat} {F : Nat → Ins} {at' : Int} {A1 : Option Addr} {n1 c1 : Nat} {A2 : Option Addr} {n2 c2 : Nat} {f1 f2 : Nat → Int} (h : SX w wr B A n F at' A1 n1 c1 A2 n2 c2 f1 f2) : wr.cell? ⟨B, 0, none⟩ = some (.int .i64 at') ∧ wr.cell? ⟨B, 1, none⟩ = some (.slice A1 n1 c1) ∧ wr.cell? ⟨B, 2, none⟩ = some (.slice A2 n2 c2) :=
  ⟨(h.mach.box.look 0).trans rfl, (h.mach.box.look 1).trans rfl, (h.mach.box.look 2).trans rfl⟩
end Go.Proofs.YtbcncifadklkgaaDoor
