/- The laws' marks over a slice of instructions that the call owns: every cell is written, nothing else changes. Two machines in blocks of their own. What StepMachine and its model leave, in one form; marks on it. A program and a machine that came in, opened; the machine in its box. What the walk of StepMachine's exact law keeps. The memory that the walk of StepMachine's exact law holds: the two answers, the two arguments' copies, all apart. -/
import Derived.Test.YtjeflaodeafhbaaDoorG50
import Derived.Laws.IdiomStrings
import Derived.Laws.Concat
import Derived.Test.YtjeflaodeafhbaaDoorG33
import Derived.Test.YtjeflaodeafhbaaDoorG76
import Derived.Test.YtjeflaodeafhbaaDoorW9
import Derived.WalkKit
import Derived.ProofKit
import Derived.OpenShut
import Derived.Carry
import Derived.ChangeSlices
import Derived.Deep.Slices
import Derived.Deep.DeepCutAuto
namespace Go.Proofs.YtjeflaodeafhbaaDoor
open Go.RowKit
theorem size_one (b : UInt8) (s : ByteArray) : (ByteArray.append ⟨#[b]⟩ s).size = s.size + 1 := by
  have : ((⟨#[b]⟩ : ByteArray) ++ s).size = (⟨#[b]⟩ : ByteArray).size + s.size := ByteArray.size_append
  rw [show ByteArray.append ⟨#[b]⟩ s = (⟨#[b]⟩ : ByteArray) ++ s from rfl, this]
  show 1 + s.size = s.size + 1
  omega
theorem grown_then_some {a b c : World} {g : Nat} (h : a.grownBy b (some g)) (h' : b.grownBy c none) : a.grownBy c (some g) :=
  ⟨h'.os.trans h.os, h'.tape.trans h.tape, h'.output.trans h.output, Nat.le_trans h.size h'.size, fun i hi hne => (h'.block i (Nat.lt_of_lt_of_le hi h.size) (by simp)).trans (h.block i hi hne)⟩
end Go.Proofs.YtjeflaodeafhbaaDoor

namespace Go.Proofs.YtjeflaodeafhbaaDoor
open Go.RowKit


/-- Two machines in blocks B1 and B2, with memory of their own; nothing that was there in w has changed. -/
structure TwoM (w w' : World) (B1 B2 : Nat) (at' : Int) (n1 n2 a1 p1 a2 p2 g1 q1 g2 q2 : Nat) (fa1 fa2 fg1 fg2 : Nat → Int) : Prop where
  P1 : Holds5 w' B1 29 #[.int .i64 at', .slice (some ⟨a1, 0, none⟩) n1 p1, .slice (some ⟨a2, 0, none⟩) n2 p2]
  P2 : Holds5 w' B2 29 #[.int .i64 at', .slice (some ⟨g1, 0, none⟩) n1 q1, .slice (some ⟨g2, 0, none⟩) n2 q2]
  oa1 : Own w' w.heap.size (some ⟨a1, 0, none⟩) n1 p1 fa1
  oa2 : Own w' w.heap.size (some ⟨a2, 0, none⟩) n2 p2 fa2
  og1 : Own w' w.heap.size (some ⟨g1, 0, none⟩) n1 q1 fg1
  og2 : Own w' w.heap.size (some ⟨g2, 0, none⟩) n2 q2 fg2
  low : w.grownBy w' none
  ne : (g1 ≠ g2 ∧ a1 ≠ g1 ∧ a1 ≠ g2) ∧ (a2 ≠ g1 ∧ a2 ≠ g2) ∧ (B1 ≠ g1 ∧ B1 ≠ g2) ∧ (B2 ≠ g1 ∧ B2 ≠ g2)
theorem TwoM.grown {w w' w2 : World} {B1 B2 : Nat} {at' : Int} {n1 n2 a1 p1 a2 p2 g1 q1 g2 q2 : Nat} {fa1 fa2 fg1 fg2 : Nat → Int} (h : TwoM w w' B1 B2 at' n1 n2 a1 p1 a2 p2 g1 q1 g2 q2 fa1 fa2 fg1 fg2) (hg : w'.grownBy w2 none) :
    TwoM w w2 B1 B2 at' n1 n2 a1 p1 a2 p2 g1 q1 g2 q2 fa1 fa2 fg1 fg2 :=
  ⟨h.P1.grown hg (by intro e; cases e), h.P2.grown hg (by intro e; cases e), h.oa1.on hg, h.oa2.on hg, h.og1.on hg, h.og2.on hg, grown_same h.low hg, h.ne⟩
theorem Own.but {w w' : World} {B g n c g1 g2 : Nat} {f : Nat → Int} (h : Own w B (some ⟨g, 0, none⟩) n c f) (hb : But w w' g1 g2) (h1 : g ≠ g1) (h2 : g ≠ g2) : Own w' B (some ⟨g, 0, none⟩) n c f := by
  refine ⟨h.1, ?_⟩
  rcases h.2 with h' | ⟨g', cap', cur, e, hB, hg, rest⟩
  · exact .inl h'
  · have e' := e
    simp only [Value.slice.injEq, Option.some.injEq, Addr.mk.injEq, and_true, true_and] at e'
    refine .inr ⟨g', cap', cur, e, hB, ?_, rest⟩
    rw [hb.block g' (by
      by_cases hl : g' < w.heap.size
      · exact hl
      · rw [Array.getElem?_eq_none (by omega)] at hg
        cases hg) (by omega) (by omega)]
    exact hg
theorem TwoM.but {w w' w2 : World} {B1 B2 : Nat} {at' : Int} {n1 n2 a1 p1 a2 p2 g1 q1 g2 q2 : Nat} {fa1 fa2 fg1 fg2 fh1 fh2 : Nat → Int} (h : TwoM w w' B1 B2 at' n1 n2 a1 p1 a2 p2 g1 q1 g2 q2 fa1 fa2 fg1 fg2) (hb : But w' w2 g1 g2)
    (m1 : Own w2 w.heap.size (some ⟨g1, 0, none⟩) n1 q1 fh1) (m2 : Own w2 w.heap.size (some ⟨g2, 0, none⟩) n2 q2 fh2) :
    TwoM w w2 B1 B2 at' n1 n2 a1 p1 a2 p2 g1 q1 g2 q2 fa1 fa2 fh1 fh2 := by
  obtain ⟨⟨e1, e2, e3⟩, ⟨e4, e5⟩, ⟨e6, e7⟩, ⟨e8, e9⟩⟩ := h.ne
  have l1 := h.og1.lt
  have l2 := h.og2.lt
  refine ⟨hb.holds h.P1 e6 e7, hb.holds h.P2 e8 e9, h.oa1.but hb e2 e3, h.oa2.but hb e4 e5, m1, m2, ?_, h.ne⟩
  have := hb.below (B := w.heap.size) l1.1 l2.1 h.low.size
  exact ⟨this.os.trans h.low.os, this.tape.trans h.low.tape, this.output.trans h.low.output, Nat.le_trans h.low.size this.size, fun i hi hn => (this.block i hi).trans (h.low.block i hi hn)⟩

end Go.Proofs.YtjeflaodeafhbaaDoor
namespace Go.Proofs.YtjeflaodeafhbaaDoor
open Go.RowKit
/-- The memory of a machine that a call has made: none, or two slices of its own. -/
def RM (wr : World) (B : Nat) (B1 : Option Addr) (k1 d1 : Nat) (B2 : Option Addr) (k2 d2 : Nat) (g1 g2 : Nat → Int) : Prop :=
  (k1 = 0 ∧ k2 = 0 ∧ B1 = none ∧ B2 = none) ∨ ∃ r1 r2, B1 = some ⟨r1, 0, none⟩ ∧ B2 = some ⟨r2, 0, none⟩ ∧ r1 ≠ r2 ∧ Own wr B (some ⟨r1, 0, none⟩) k1 d1 g1 ∧ Own wr B (some ⟨r2, 0, none⟩) k2 d2 g2
section
variable {w wr w' : World} {B : Nat} {B1 B2 : Option Addr} {k1 d1 k2 d2 : Nat} {g1 g2 : Nat → Int}
theorem RM.nums (h : RM wr B B1 k1 d1 B2 k2 d2 g1 g2) : Nums wr B1 k1 g1 ∧ Nums wr B2 k2 g2 := by
  rcases h with ⟨h1, h2, _, _⟩ | ⟨r1, r2, rfl, rfl, _, o1, o2⟩
  · exact ⟨.inl h1, .inl h2⟩
  · exact ⟨o1.nums, o2.nums⟩
theorem RM.on (h : RM wr B B1 k1 d1 B2 k2 d2 g1 g2) (hg : wr.grownBy w' none) : RM w' B B1 k1 d1 B2 k2 d2 g1 g2 := by
  rcases h with h | ⟨r1, r2, e1, e2, hne, o1, o2⟩
  · exact .inl h
  · exact .inr ⟨r1, r2, e1, e2, hne, o1.on hg, o2.on hg⟩
/-- Only the blocks of two slices may have changed. -/
structure ButO (w w' : World) (B1 B2 : Option Addr) : Prop where
  os : w'.os = w.os
  tape : w'.tape = w.tape
  output : w'.output = w.output
  size : w.heap.size ≤ w'.heap.size
  block : ∀ i, i < w.heap.size → B1.map (·.block) ≠ some i → B2.map (·.block) ≠ some i → w'.heap[i]? = w.heap[i]?
theorem RM.low (h : RM wr B B1 k1 d1 B2 k2 d2 g1 g2) : (∀ i, B1.map (·.block) = some i → B ≤ i ∧ i < wr.heap.size) ∧ (∀ i, B2.map (·.block) = some i → B ≤ i ∧ i < wr.heap.size) := by
  rcases h with ⟨_, _, rfl, rfl⟩ | ⟨r1, r2, rfl, rfl, hne, o1, o2⟩
  · refine ⟨fun i e => ?_, fun i e => ?_⟩
    · have e' : none = some i := e
      injection e'
    · have e' : none = some i := e
      injection e'
  · refine ⟨fun i e => ?_, fun i e => ?_⟩
    · have e' : some r1 = some i := e
      injection e' with e'
      subst e'
      exact o1.lt
    · have e' : some r2 = some i := e
      injection e' with e'
      subst e'
      exact o2.lt
theorem ButO.holds {g : Nat} {t : TypeId} {cs : Array Value} (h : ButO w w' B1 B2) (hh : Holds5 w g t cs) (h1 : B1.map (·.block) ≠ some g) (h2 : B2.map (·.block) ≠ some g) : Holds5 w' g t cs := (h.block g hh.inside h1 h2).trans hh
theorem ButO.nums {A : Option Addr} {n : Nat} {f : Nat → Int} (h : ButO w w' B1 B2) (hh : Nums w A n f) (hne : ∀ b off, A = some ⟨b, off, none⟩ → B1.map (·.block) ≠ some b ∧ B2.map (·.block) ≠ some b) : Nums w' A n f := by
  rcases hh with hh | ⟨b, off, hA, hlt, hc⟩
  · exact .inl hh
  · obtain ⟨n1, n2⟩ := hne b off hA
    exact .inr ⟨b, off, hA, Nat.lt_of_lt_of_le hlt h.size, fun j hj => (World.cell?_of_block (a := ⟨b, off + j, none⟩) (h.block b hlt n1 n2)).trans (hc j hj)⟩
end
/-- What a step leaves, in one form. -/
def StepRes (w : World) (ok : Bool) (at2 : Int) (k1 k2 : Nat) (g1 g2 : Nat → Int) (e : Ending) (w' : World) : Prop :=
  ∃ B1 d1 B2 d2, e = .returned (.tuple #[MV at2 B1 k1 d1 B2 k2 d2, .bool ok]) ∧ RM w' w.heap.size B1 k1 d1 B2 k2 d2 g1 g2 ∧ w.grownBy w' none
theorem StepRes.no {w : World} {e : Ending} {w' : World} (g1 g2 : Nat → Int) (h : NoStep w e w') : StepRes w false 0 0 0 g1 g2 e w' := ⟨none, 0, none, 0, h.1, .inl ⟨rfl, rfl, rfl, rfl⟩, h.2⟩
theorem StepRes.yes {w : World} {at2 : Int} {g1 g2 : Nat → Int} {e : Ending} {w' : World} (h : YesStep w at2 g1 g2 e w') : StepRes w true at2 4 8 g1 g2 e w' := by
  obtain ⟨r1, c1, r2, c2, he, hne, o1, o2, hg⟩ := h
  exact ⟨_, c1, _, c2, he, .inr ⟨r1, r2, rfl, rfl, hne, o1, o2⟩, hg⟩
end Go.Proofs.YtjeflaodeafhbaaDoor

namespace Go.Proofs.YtjeflaodeafhbaaDoor
open Go.ChangeShapes Go.WideShapes Go.ChangeAt Go.WideMaps Go.WideElems Go.RowKit
theorem five_cells {W : World} {ab ao : Nat} {cs : List Value} (h : W.cells? 0 ⟨ab, ao, none⟩ 5 = some cs) : ∀ i, i < 5 → W.cell? ⟨ab, ao + i, none⟩ = cs[i]? := by
  intro i hi
  have h1 := (World.cells?_some h).2.2 i hi
  rwa [Addr.add_lit] at h1
theorem cellsI : Tryd.prog.cellsOf 25 = 1 := by kernel_rfl
end Go.Proofs.YtjeflaodeafhbaaDoor

namespace Go.Proofs.YtjeflaodeafhbaaDoor
open Go.ChangeShapes Go.WideShapes Go.ChangeAt Go.WideMaps Go.WideElems Go.RowKit
section
variable {w wr w2 : World} {B : Nat} {A : Option Addr} {n : Nat} {F : Nat → Ins} {at' : Int} {A1 : Option Addr} {n1 c1 : Nat} {A2 : Option Addr} {n2 c2 : Nat} {f1 f2 : Nat → Int}
theorem grown_set3 (w : World) (b : Nat) (x y z : Value) : w.grownBy (((w.setCell ⟨b, 0, none⟩ x).setCell ⟨b, 1, none⟩ y).setCell ⟨b, 2, none⟩ z) (some b) := grown_same (grown_same (grown_set b 0 x) (grown_set b 1 y)) (grown_set b 2 z)
end
section
variable {w w' wr : World} {B b : Nat} {R1 R2 : Option Addr} {k1 d1 k2 d2 : Nat} {g1 g2 : Nat → Int}
theorem OwnC_on {g n c : Nat} {f : Nat → Ins} (h : OwnC w B (some ⟨g, 0, none⟩) n c f) (hg : w.grownBy w' none) : OwnC w' B (some ⟨g, 0, none⟩) n c f := World.ownsRow.kept h hg (.inr (by
  show some g ≠ none
  simp))
theorem size_drewS (W : World) : W.drew.heap.size = W.heap.size := rfl
theorem Holds5_on {g : Nat} {t : TypeId} {cs : Array Value} (h : Holds5 w g t cs) (hg : w.grownBy w' none) : Holds5 w' g t cs := h.grown hg (by intro e; cases e)
theorem RM.lower (h : RM wr B R1 k1 d1 R2 k2 d2 g1 g2) {B' : Nat} (hB : B' ≤ B) : RM wr B' R1 k1 d1 R2 k2 d2 g1 g2 := by
  rcases h with h | ⟨r1, r2, e1, e2, hne, o1, o2⟩
  · exact .inl h
  · exact .inr ⟨r1, r2, e1, e2, hne, o1.lower hB, o2.lower hB⟩
theorem RM.but1 (h : RM wr B R1 k1 d1 R2 k2 d2 g1 g2) (hg : wr.grownBy w' (some b)) (h1 : R1.map (·.block) ≠ some b) (h2 : R2.map (·.block) ≠ some b) : RM w' B R1 k1 d1 R2 k2 d2 g1 g2 := by
  rcases h with h | ⟨r1, r2, rfl, rfl, hne, o1, o2⟩
  · exact .inl h
  · have e1 : r1 ≠ b := fun e => h1 (by rw [e]; rfl)
    have e2 : r2 ≠ b := fun e => h2 (by rw [e]; rfl)
    exact .inr ⟨r1, r2, rfl, rfl, hne, o1.but (But.of1 b hg) e1 e1, o2.but (But.of1 b hg) e2 e2⟩
end
section
variable {w w5 : World} {B' b : Nat} {A : Option Addr} {n : Nat} {F : Nat → Ins} {at' : Int} {A1 : Option Addr} {n1 c1 : Nat} {A2 : Option Addr} {n2 c2 : Nat} {f1 f2 : Nat → Int} {at2 : Int} {R1 R2 : Option Addr} {k1 d1 k2 d2 : Nat} {g1 g2 : Nat → Int}
end
end Go.Proofs.YtjeflaodeafhbaaDoor

namespace Go.Proofs.YtjeflaodeafhbaaDoor
open Go.ChangeShapes Go.WideShapes Go.ChangeAt Go.WideMaps Go.WideElems Go.RowKit
/-- The blocks of a made machine's memory lie in a stretch. -/
def Within (lo hi : Nat) (R1 R2 : Option Addr) : Prop := (∀ i, R1.map (·.block) = some i → lo ≤ i ∧ i < hi) ∧ ∀ i, R2.map (·.block) = some i → lo ≤ i ∧ i < hi
theorem Within.ne {lo hi b : Nat} {R1 R2 : Option Addr} (h : Within lo hi R1 R2) (hb : b < lo ∨ hi ≤ b) : R1.map (·.block) ≠ some b ∧ R2.map (·.block) ≠ some b :=
  ⟨fun e => by have := h.1 b e; omega, fun e => by have := h.2 b e; omega⟩
/-- A machine that a call has made, in a box of its own. -/
structure Boxed (wr : World) (b lo hi : Nat) (at2 : Int) (R1 : Option Addr) (k1 d1 : Nat) (R2 : Option Addr) (k2 d2 : Nat) (g1 g2 : Nat → Int) : Prop where
  box : Holds5 wr b 29 #[.int .i64 at2, .slice R1 k1 d1, .slice R2 k2 d2]
  mem : RM wr lo R1 k1 d1 R2 k2 d2 g1 g2
  within : Within lo hi R1 R2
  apart : R1.map (·.block) ≠ some b ∧ R2.map (·.block) ≠ some b
section
variable {w w' wr w2 : World} {b lo hi : Nat} {at2 : Int} {R1 R2 Q1 Q2 : Option Addr} {k1 d1 k2 d2 : Nat} {g1 g2 : Nat → Int}
theorem Boxed.grown (h : Boxed wr b lo hi at2 R1 k1 d1 R2 k2 d2 g1 g2) (hg : wr.grownBy w2 none) : Boxed w2 b lo hi at2 R1 k1 d1 R2 k2 d2 g1 g2 :=
  ⟨h.box.grown hg (by intro e; cases e), h.mem.on hg, h.within, h.apart⟩
theorem Boxed.but1 {c : Nat} (h : Boxed wr b lo hi at2 R1 k1 d1 R2 k2 d2 g1 g2) (hg : wr.grownBy w2 (some c)) (hb : b ≠ c) (hc : c < lo ∨ hi ≤ c) : Boxed w2 b lo hi at2 R1 k1 d1 R2 k2 d2 g1 g2 :=
  ⟨h.box.grown hg (by intro e; injection e with e; exact hb e), h.mem.but1 hg (h.within.ne hc).1 (h.within.ne hc).2, h.within, h.apart⟩
theorem RM.butO (h : RM wr lo R1 k1 d1 R2 k2 d2 g1 g2) (hg : ButO wr w2 Q1 Q2) (hn : ∀ i, (R1.map (·.block) = some i ∨ R2.map (·.block) = some i) → Q1.map (·.block) ≠ some i ∧ Q2.map (·.block) ≠ some i) : RM w2 lo R1 k1 d1 R2 k2 d2 g1 g2 := by
  rcases h with h | ⟨r1, r2, rfl, rfl, hne, o1, o2⟩
  · exact .inl h
  · obtain ⟨a1, a2⟩ := hn r1 (.inl rfl)
    obtain ⟨b1, b2⟩ := hn r2 (.inr rfl)
    have hh : ∀ {r n c : Nat} {f : Nat → Int}, Own wr lo (some ⟨r, 0, none⟩) n c f → Q1.map (·.block) ≠ some r → Q2.map (·.block) ≠ some r → Own w2 lo (some ⟨r, 0, none⟩) n c f := by
      intro r n c f h h1 h2
      refine ⟨h.1, ?_⟩
      rcases h.2 with h' | ⟨g', cap', cur, e, hB, hg', rest⟩
      · exact .inl h'
      · have e' := e
        simp only [Value.slice.injEq, Option.some.injEq, Addr.mk.injEq, and_true, true_and] at e'
        obtain ⟨rfl, _⟩ := e'
        refine .inr ⟨r, cap', cur, e, hB, ?_, rest⟩
        rw [hg.block r (by
          by_cases hl : r < wr.heap.size
          · exact hl
          · rw [Array.getElem?_eq_none (by omega)] at hg'
            cases hg') h1 h2]
        exact hg'
    exact .inr ⟨r1, r2, rfl, rfl, hne, hh o1 a1 a2, hh o2 b1 b2⟩
theorem Boxed.butO {lo' hi' : Nat} (h : Boxed wr b lo hi at2 R1 k1 d1 R2 k2 d2 g1 g2) (hg : ButO wr w2 Q1 Q2) (hq : Within lo' hi' Q1 Q2) (hb : b < lo' ∨ hi' ≤ b) (hl : hi ≤ lo' ∨ hi' ≤ lo) : Boxed w2 b lo hi at2 R1 k1 d1 R2 k2 d2 g1 g2 :=
  ⟨hg.holds h.box (hq.ne hb).1 (hq.ne hb).2, h.mem.butO hg (fun i hi => by
    have hw : lo ≤ i ∧ i < _ := hi.elim (h.within.1 i) (h.within.2 i)
    exact hq.ne (by omega)), h.within, h.apart⟩
end
theorem Boxed.box3 {wr : World} {b lo hi : Nat} {at2 : Int} {R1 R2 : Option Addr} {k1 d1 k2 d2 : Nat} {g1 g2 : Nat → Int} (h : Boxed wr b lo hi at2 R1 k1 d1 R2 k2 d2 g1 g2) : wr.cell? ⟨b, 0, none⟩ = some (.int .i64 at2) ∧ wr.cell? ⟨b, 1, none⟩ = some (.slice R1 k1 d1) ∧ wr.cell? ⟨b, 2, none⟩ = some (.slice R2 k2 d2) :=
  ⟨(h.box.look 0).trans rfl, (h.box.look 1).trans rfl, (h.box.look 2).trans rfl⟩
theorem made_put2 {wp w5 : World} {B' b : Nat} {at2 : Int} {R1 R2 : Option Addr} {k1 d1 k2 d2 : Nat} {g1 g2 : Nat → Int} (hP : Holds5 w5 b 29 #[.int .i64 0, .slice none 0 0, .slice none 0 0]) (hg : wp.grownBy w5 none) (hlt : wp.heap.size ≤ b) (hR : RM w5 B' R1 k1 d1 R2 k2 d2 g1 g2) (hb : b < B') :
    wp.grownBy (((w5.setCell ⟨b, 0, none⟩ (.int .i64 at2)).setCell ⟨b, 1, none⟩ (.slice R1 k1 d1)).setCell ⟨b, 2, none⟩ (.slice R2 k2 d2)) none ∧ Holds5 (((w5.setCell ⟨b, 0, none⟩ (.int .i64 at2)).setCell ⟨b, 1, none⟩ (.slice R1 k1 d1)).setCell ⟨b, 2, none⟩ (.slice R2 k2 d2)) b 29 #[.int .i64 at2, .slice R1 k1 d1, .slice R2 k2 d2] ∧ RM (((w5.setCell ⟨b, 0, none⟩ (.int .i64 at2)).setCell ⟨b, 1, none⟩ (.slice R1 k1 d1)).setCell ⟨b, 2, none⟩ (.slice R2 k2 d2)) wp.heap.size R1 k1 d1 R2 k2 d2 g1 g2 := by
  have n1 : R1.map (·.block) ≠ some b := fun e => by have := (hR.low.1 b e).1; omega
  have n2 : R2.map (·.block) ≠ some b := fun e => by have := (hR.low.2 b e).1; omega
  have g := grown_set3 w5 b (.int .i64 at2) (.slice R1 k1 d1) (.slice R2 k2 d2)
  exact ⟨⟨g.os.trans hg.os, g.tape.trans hg.tape, g.output.trans hg.output, Nat.le_trans hg.size g.size, fun i hi hn => (g.block i (Nat.lt_of_lt_of_le hi hg.size) (by intro e; injection e with e; omega)).trans (hg.block i hi hn)⟩, ((hP.put 0 _).put 1 _).put 2 _, (hR.lower (by omega)).but1 g n1 n2⟩
theorem made_new2 {wp w5 : World} {B' : Nat} {at2 : Int} {R1 R2 : Option Addr} {k1 d1 k2 d2 : Nat} {g1 g2 : Nat → Int} (hg : wp.grownBy w5 none) (hR : RM w5 B' R1 k1 d1 R2 k2 d2 g1 g2) (hB : wp.heap.size ≤ B') :
    wp.grownBy (w5.alloc (.cells #[.int .i64 at2, .slice R1 k1 d1, .slice R2 k2 d2] 29)) none ∧ Holds5 (w5.alloc (.cells #[.int .i64 at2, .slice R1 k1 d1, .slice R2 k2 d2] 29)) w5.heap.size 29 #[.int .i64 at2, .slice R1 k1 d1, .slice R2 k2 d2] ∧ RM (w5.alloc (.cells #[.int .i64 at2, .slice R1 k1 d1, .slice R2 k2 d2] 29)) wp.heap.size R1 k1 d1 R2 k2 d2 g1 g2 :=
  ⟨grown_same hg (World.grownBy_alloc _ _ _), Holds5.fresh _ _ _, (hR.on (World.grownBy_alloc _ _ _)).lower hB⟩
theorem Boxed.marked {w w' : World} {b lo hi : Nat} {at2 : Int} {R1 R2 : Option Addr} {k1 d1 k2 d2 : Nat} {g1 g2 h1 h2 : Nat → Int} (h : Boxed w b lo hi at2 R1 k1 d1 R2 k2 d2 g1 g2) (hb : ButO w w' R1 R2) (hm : RM w' lo R1 k1 d1 R2 k2 d2 h1 h2) : Boxed w' b lo hi at2 R1 k1 d1 R2 k2 d2 h1 h2 :=
  ⟨hb.holds h.box h.apart.1 h.apart.2, hm, h.within, h.apart⟩
theorem boxed_new {w4 : World} {at' : Int} {g1 g2 n1 k1 n2 k2 : Nat} {f1 f2 : Nat → Int} {lo : Nat} (hne : g1 ≠ g2) (h1 : Own w4 lo (some ⟨g1, 0, none⟩) n1 k1 f1) (h2 : Own w4 lo (some ⟨g2, 0, none⟩) n2 k2 f2) :
    Boxed (w4.alloc (.cells #[.int .i64 at', .slice (some ⟨g1, 0, none⟩) n1 k1, .slice (some ⟨g2, 0, none⟩) n2 k2] 29)) w4.heap.size lo w4.heap.size at' (some ⟨g1, 0, none⟩) n1 k1 (some ⟨g2, 0, none⟩) n2 k2 f1 f2 := by
  have l1 := h1.lt
  have l2 := h2.lt
  have hg := World.grownBy_alloc w4 (.cells #[.int .i64 at', .slice (some ⟨g1, 0, none⟩) n1 k1, .slice (some ⟨g2, 0, none⟩) n2 k2] 29) none
  have hw : Within lo w4.heap.size (some ⟨g1, 0, none⟩) (some ⟨g2, 0, none⟩) := ⟨fun i e => by
    have e' : some g1 = some i := e
    injection e' with e'
    omega, fun i e => by
    have e' : some g2 = some i := e
    injection e' with e'
    omega⟩
  exact ⟨Holds5.fresh _ _ _, .inr ⟨g1, g2, rfl, rfl, hne, h1.on hg, h2.on hg⟩, hw, hw.ne (.inr (Nat.le_refl _))⟩
theorem boxed_ret {w5 : World} {at2 : Int} {lo : Nat} {G1 : Option Addr} {j1 e1 : Nat} {G2 : Option Addr} {j2 e2 : Nat} {u1 u2 : Nat → Int} (h : RM w5 lo G1 j1 e1 G2 j2 e2 u1 u2) :
    Boxed (w5.alloc (.cells #[.int .i64 at2, .slice G1 j1 e1, .slice G2 j2 e2] 29)) w5.heap.size lo w5.heap.size at2 G1 j1 e1 G2 j2 e2 u1 u2 :=
  ⟨Holds5.fresh _ _ _, h.on (World.grownBy_alloc _ _ _), h.low, Within.ne h.low (.inr (Nat.le_refl _))⟩
theorem OwnC_lt {w : World} {B g n c : Nat} {f : Nat → Ins} (h : OwnC w B (some ⟨g, 0, none⟩) n c f) : B ≤ g ∧ g < w.heap.size := World.ownsRow.lt h g rfl
end Go.Proofs.YtjeflaodeafhbaaDoor
