/- Two machines in blocks of their own. What StepMachine and its model leave, in one form; marks on it. A program and a machine that came in, opened; the machine in its box. What the walk of StepMachine's exact law keeps. -/
import Derived.Test.YtlmjbflnfpccdaaDoorG31
import Derived.Test.YtlmjbflnfpccdaaDoorG76
import Derived.Test.YtlmjbflnfpccdaaDoorW77
import Derived.Test.YtlmjbflnfpccdaaDoorW9
import Derived.WalkKit
import Derived.ProofKit
import Derived.OpenShut
import Derived.Carry
import Derived.ChangeSlices
import Derived.Deep.Slices
import Derived.Test.YtlmjbflnfpccdaaDoorW97d
import Derived.Deep.DeepCutAuto
namespace Go.Proofs.YtlmjbflnfpccdaaDoor
open Go.RowKit


/-- Two machines in blocks B1 and B2, with memory of their own; nothing that was there in w has changed. -/
structure TwoM (w w' : World) (B1 B2 : Nat) (at' : Int) (n1 n2 a1 p1 a2 p2 g1 q1 g2 q2 : Nat) (fa1 fa2 fg1 fg2 : Nat → Int) : Prop where
  P1 : Holds5 w' B1 78 #[.int .i64 at', .slice (some ⟨a1, 0, none⟩) n1 p1, .slice (some ⟨a2, 0, none⟩) n2 p2]
  P2 : Holds5 w' B2 78 #[.int .i64 at', .slice (some ⟨g1, 0, none⟩) n1 q1, .slice (some ⟨g2, 0, none⟩) n2 q2]
  oa1 : Own w' w.heap.size (some ⟨a1, 0, none⟩) n1 p1 fa1
  oa2 : Own w' w.heap.size (some ⟨a2, 0, none⟩) n2 p2 fa2
  og1 : Own w' w.heap.size (some ⟨g1, 0, none⟩) n1 q1 fg1
  og2 : Own w' w.heap.size (some ⟨g2, 0, none⟩) n2 q2 fg2
  low : w.grownBy w' none
  ne : (g1 ≠ g2 ∧ a1 ≠ g1 ∧ a1 ≠ g2) ∧ (a2 ≠ g1 ∧ a2 ≠ g2) ∧ (B1 ≠ g1 ∧ B1 ≠ g2) ∧ (B2 ≠ g1 ∧ B2 ≠ g2)
theorem TwoM.grown {w w' w2 : World} {B1 B2 : Nat} {at' : Int} {n1 n2 a1 p1 a2 p2 g1 q1 g2 q2 : Nat} {fa1 fa2 fg1 fg2 : Nat → Int} (h : TwoM w w' B1 B2 at' n1 n2 a1 p1 a2 p2 g1 q1 g2 q2 fa1 fa2 fg1 fg2) (hg : w'.grownBy w2 none) :
    TwoM w w2 B1 B2 at' n1 n2 a1 p1 a2 p2 g1 q1 g2 q2 fa1 fa2 fg1 fg2 :=
  ⟨h.P1.grown hg (by intro e; cases e), h.P2.grown hg (by intro e; cases e), h.oa1.on hg, h.oa2.on hg, h.og1.on hg, h.og2.on hg, grown_same h.low hg, h.ne⟩
theorem Own.but {w w' : World} {B g n c g1 g2 : Nat} {f : Nat → Int} (h : Own w B (some ⟨g, 0, none⟩) n c f) (hb : But w w' g1 g2) (h1 : g ≠ g1) (h2 : g ≠ g2) : Own w' B (some ⟨g, 0, none⟩) n c f := by
  refine ⟨h.1, ?_⟩
  rcases h.2 with h' | ⟨g', cap', cur, e, hB, hg, rest⟩
  · exact .inl h'
  · have e' := e
    simp only [Value.slice.injEq, Option.some.injEq, Addr.mk.injEq, and_true, true_and] at e'
    refine .inr ⟨g', cap', cur, e, hB, ?_, rest⟩
    rw [hb.block g' (by
      by_cases hl : g' < w.heap.size
      · exact hl
      · rw [Array.getElem?_eq_none (by omega)] at hg
        cases hg) (by omega) (by omega)]
    exact hg
theorem TwoM.but {w w' w2 : World} {B1 B2 : Nat} {at' : Int} {n1 n2 a1 p1 a2 p2 g1 q1 g2 q2 : Nat} {fa1 fa2 fg1 fg2 fh1 fh2 : Nat → Int} (h : TwoM w w' B1 B2 at' n1 n2 a1 p1 a2 p2 g1 q1 g2 q2 fa1 fa2 fg1 fg2) (hb : But w' w2 g1 g2)
    (m1 : Own w2 w.heap.size (some ⟨g1, 0, none⟩) n1 q1 fh1) (m2 : Own w2 w.heap.size (some ⟨g2, 0, none⟩) n2 q2 fh2) :
    TwoM w w2 B1 B2 at' n1 n2 a1 p1 a2 p2 g1 q1 g2 q2 fa1 fa2 fh1 fh2 := by
  obtain ⟨⟨e1, e2, e3⟩, ⟨e4, e5⟩, ⟨e6, e7⟩, ⟨e8, e9⟩⟩ := h.ne
  have l1 := h.og1.lt
  have l2 := h.og2.lt
  refine ⟨hb.holds h.P1 e6 e7, hb.holds h.P2 e8 e9, h.oa1.but hb e2 e3, h.oa2.but hb e4 e5, m1, m2, ?_, h.ne⟩
  have := hb.below (B := w.heap.size) l1.1 l2.1 h.low.size
  exact ⟨this.os.trans h.low.os, this.tape.trans h.low.tape, this.output.trans h.low.output, Nat.le_trans h.low.size this.size, fun i hi hn => (this.block i hi).trans (h.low.block i hi hn)⟩

end Go.Proofs.YtlmjbflnfpccdaaDoor
namespace Go.Proofs.YtlmjbflnfpccdaaDoor
open Go.RowKit
/-- The memory of a machine that a call has made: none, or two slices of its own. -/
def RM (wr : World) (B : Nat) (B1 : Option Addr) (k1 d1 : Nat) (B2 : Option Addr) (k2 d2 : Nat) (g1 g2 : Nat → Int) : Prop :=
  (k1 = 0 ∧ k2 = 0 ∧ B1 = none ∧ B2 = none) ∨ ∃ r1 r2, B1 = some ⟨r1, 0, none⟩ ∧ B2 = some ⟨r2, 0, none⟩ ∧ r1 ≠ r2 ∧ Own wr B (some ⟨r1, 0, none⟩) k1 d1 g1 ∧ Own wr B (some ⟨r2, 0, none⟩) k2 d2 g2
section
variable {w wr w' : World} {B : Nat} {B1 B2 : Option Addr} {k1 d1 k2 d2 : Nat} {g1 g2 : Nat → Int}
theorem RM.nums (h : RM wr B B1 k1 d1 B2 k2 d2 g1 g2) : Nums wr B1 k1 g1 ∧ Nums wr B2 k2 g2 := by
  rcases h with ⟨h1, h2, _, _⟩ | ⟨r1, r2, rfl, rfl, _, o1, o2⟩
  · exact ⟨.inl h1, .inl h2⟩
  · exact ⟨o1.nums, o2.nums⟩
theorem RM.on (h : RM wr B B1 k1 d1 B2 k2 d2 g1 g2) (hg : wr.grownBy w' none) : RM w' B B1 k1 d1 B2 k2 d2 g1 g2 := by
  rcases h with h | ⟨r1, r2, e1, e2, hne, o1, o2⟩
  · exact .inl h
  · exact .inr ⟨r1, r2, e1, e2, hne, o1.on hg, o2.on hg⟩
/-- Only the blocks of two slices may have changed. -/
structure ButO (w w' : World) (B1 B2 : Option Addr) : Prop where
  os : w'.os = w.os
  tape : w'.tape = w.tape
  output : w'.output = w.output
  size : w.heap.size ≤ w'.heap.size
  block : ∀ i, i < w.heap.size → B1.map (·.block) ≠ some i → B2.map (·.block) ≠ some i → w'.heap[i]? = w.heap[i]?
theorem RM.low (h : RM wr B B1 k1 d1 B2 k2 d2 g1 g2) : (∀ i, B1.map (·.block) = some i → B ≤ i ∧ i < wr.heap.size) ∧ (∀ i, B2.map (·.block) = some i → B ≤ i ∧ i < wr.heap.size) := by
  rcases h with ⟨_, _, rfl, rfl⟩ | ⟨r1, r2, rfl, rfl, hne, o1, o2⟩
  · refine ⟨fun i e => ?_, fun i e => ?_⟩
    · have e' : none = some i := e
      injection e'
    · have e' : none = some i := e
      injection e'
  · refine ⟨fun i e => ?_, fun i e => ?_⟩
    · have e' : some r1 = some i := e
      injection e' with e'
      subst e'
      exact o1.lt
    · have e' : some r2 = some i := e
      injection e' with e'
      subst e'
      exact o2.lt
theorem ButO.holds {g : Nat} {t : TypeId} {cs : Array Value} (h : ButO w w' B1 B2) (hh : Holds5 w g t cs) (h1 : B1.map (·.block) ≠ some g) (h2 : B2.map (·.block) ≠ some g) : Holds5 w' g t cs := (h.block g hh.inside h1 h2).trans hh
theorem ButO.nums {A : Option Addr} {n : Nat} {f : Nat → Int} (h : ButO w w' B1 B2) (hh : Nums w A n f) (hne : ∀ b off, A = some ⟨b, off, none⟩ → B1.map (·.block) ≠ some b ∧ B2.map (·.block) ≠ some b) : Nums w' A n f := by
  rcases hh with hh | ⟨b, off, hA, hlt, hc⟩
  · exact .inl hh
  · obtain ⟨n1, n2⟩ := hne b off hA
    exact .inr ⟨b, off, hA, Nat.lt_of_lt_of_le hlt h.size, fun j hj => (World.cell?_of_block (a := ⟨b, off + j, none⟩) (h.block b hlt n1 n2)).trans (hc j hj)⟩
end
/-- What a step leaves, in one form. -/
def StepRes (w : World) (ok : Bool) (at2 : Int) (k1 k2 : Nat) (g1 g2 : Nat → Int) (e : Ending) (w' : World) : Prop :=
  ∃ B1 d1 B2 d2, e = .returned (.tuple #[MV at2 B1 k1 d1 B2 k2 d2, .bool ok]) ∧ RM w' w.heap.size B1 k1 d1 B2 k2 d2 g1 g2 ∧ w.grownBy w' none
theorem StepRes.no {w : World} {e : Ending} {w' : World} (g1 g2 : Nat → Int) (h : NoStep w e w') : StepRes w false 0 0 0 g1 g2 e w' := ⟨none, 0, none, 0, h.1, .inl ⟨rfl, rfl, rfl, rfl⟩, h.2⟩
theorem StepRes.yes {w : World} {at2 : Int} {g1 g2 : Nat → Int} {e : Ending} {w' : World} (h : YesStep w at2 g1 g2 e w') : StepRes w true at2 4 8 g1 g2 e w' := by
  obtain ⟨r1, c1, r2, c2, he, hne, o1, o2, hg⟩ := h
  exact ⟨_, c1, _, c2, he, .inr ⟨r1, r2, rfl, rfl, hne, o1, o2⟩, hg⟩
end Go.Proofs.YtlmjbflnfpccdaaDoor

namespace Go.Proofs.YtlmjbflnfpccdaaDoor
open Go.ChangeShapes Go.WideShapes Go.ChangeAt Go.WideMaps Go.WideElems Go.RowKit
theorem five_cells {W : World} {ab ao : Nat} {cs : List Value} (h : W.cells? 0 ⟨ab, ao, none⟩ 5 = some cs) : ∀ i, i < 5 → W.cell? ⟨ab, ao + i, none⟩ = cs[i]? := by
  intro i hi
  have h1 := (World.cells?_some h).2.2 i hi
  rwa [Addr.add_lit] at h1
set_option maxRecDepth 100000 in
theorem ins_of {H : Type} {enc : TypeId × Value → H} {W : World} {base fuel : Nat} {spare : Nat → Bool} {held : Bool} {cs : List Value} {x : DataW H × List MemPlace} (hl : cs.length = 5)
    (h : DataW.trod enc Tryd.prog W base spare held fuel 51 cs = some x) : ∃ c : Ins, cs = [.string c.op, .int .i64 c.d, .int .i64 c.a, .int .i64 c.b, .int .i64 c.k] ∧ c.op.size ≤ maxLen := by
  obtain ⟨xs, n, _, hx, _, hlen, hfd⟩ := DataW.trod_struct Tryd.underlying51 h
  match cs, hl, xs, hlen with
  | [c0, c1, c2, c3, c4], _, [x0, x1, x2, x3, x4], _ =>
    have g0 := hfd 0 _ rfl
    have g1 := hfd 1 _ rfl
    have g2 := hfd 2 _ rfl
    have g3 := hfd 3 _ rfl
    have g4 := hfd 4 _ rfl
    simp [cells9, cells3] at g0 g1 g2 g3 g4
    obtain ⟨s, e0, _, hs⟩ := DataW.trod_string Tryd.underlying9 g0
    obtain ⟨n1, e1, _⟩ := DataW.trod_int Tryd.underlying3 g1
    obtain ⟨n2, e2, _⟩ := DataW.trod_int Tryd.underlying3 g2
    obtain ⟨n3, e3, _⟩ := DataW.trod_int Tryd.underlying3 g3
    obtain ⟨n4, e4, _⟩ := DataW.trod_int Tryd.underlying3 g4
    simp at e0 e1 e2 e3 e4
    subst e0 e1 e2 e3 e4
    exact ⟨⟨s, n1, n2, n3, n4⟩, rfl, hs⟩
set_option maxRecDepth 100000 in
/-- A program that came in, opened. -/
theorem open_code {H : Type} {enc : TypeId × Value → H} {W : World} {r : Reach} {b0 : Nat} {v : Value} {dt : DataW H} {ps : List MemPlace}
    (hv : Value.okWide Tryd.prog W r b0 22 v) (h : DataW.Trod enc Tryd.prog W 0 (fun _ => true) true 22 v dt ps) :
    ∃ (A : Option Addr) (n c : Nat) (f : Nat → Ins), v = .slice A n c ∧ Code W A n f ∧ n ≤ 9223372036854775807 ∧ ∀ j, j < n → (f j).op.size ≤ 9223372036854775807 := by
  obtain ⟨a1, len, cap, rfl⟩ := okWide_slice Tryd.underlying22 hv
  obtain ⟨fuel, hf⟩ := h
  rcases Go.Deep.open_slice Tryd.underlying22 hf with ⟨hcs, hx⟩ | ⟨a, len', cap', m, n, D, Pl, hcs, _, hl, hm, hmm, hx, hel⟩
  · simp [Value.cells] at hcs
    obtain ⟨rfl, rfl, rfl⟩ := hcs
    exact ⟨none, 0, 0, fun _ => zIns, rfl, .inl rfl, by omega, fun j hj => by omega⟩
  · simp [Value.cells] at hcs
    obtain ⟨rfl, rfl, rfl⟩ := hcs
    simp only [if_true] at hmm
    unfold maxLen at hm
    rw [cells38] at hel
    have hex : ∀ i, i < len → ∃ c : Ins, (∀ k, k < 5 → W.cell? (a.add (i * 5 + k)) = some (c.part k)) ∧ c.op.size ≤ 9223372036854775807 := by
      intro i hi
      obtain ⟨cs', h1, h2⟩ := hel i (by omega)
      obtain ⟨_, hl5, h3⟩ := World.cells?_some h1
      obtain ⟨c, rfl, hs⟩ := ins_of hl5 h2
      refine ⟨c, fun k hk => ?_, by unfold maxLen at hs; omega⟩
      have := h3 k hk
      rw [Addr.add_add] at this
      rw [this]
      match k, hk with
      | 0, _ => rfl
      | 1, _ => rfl
      | 2, _ => rfl
      | 3, _ => rfl
      | 4, _ => rfl
    refine ⟨some a, len, cap, fun i => if h : i < len then Classical.choose (hex i h) else zIns, rfl, ?_, by omega, fun j hj => ?_⟩
    · by_cases h0 : len = 0
      · exact .inl h0
      · obtain ⟨ab, ao, spot⟩ := a
        have c0 := (Classical.choose_spec (hex 0 (by omega))).1 0 (by omega)
        have hspot : spot = none := by simpa [Addr.add] using World.cell?_spot c0
        subst hspot
        rw [Addr.add_lit] at c0
        refine .inr ⟨ab, ao, rfl, World.block_lt_of_cell? W _ c0, fun j i hj hi => ?_⟩
        have := (Classical.choose_spec (hex j hj)).1 i hi
        rw [Addr.add_lit] at this
        simp only [dif_pos hj, Nat.add_assoc]
        exact this
    · simp only [dif_pos hj]
      exact (Classical.choose_spec (hex j hj)).2
theorem cellsI : Tryd.prog.cellsOf 25 = 1 := by kernel_rfl
end Go.Proofs.YtlmjbflnfpccdaaDoor

namespace Go.Proofs.YtlmjbflnfpccdaaDoor
open Go.ChangeShapes Go.WideShapes Go.ChangeAt Go.WideMaps Go.WideElems Go.RowKit
section
variable {w wr w2 : World} {B : Nat} {A : Option Addr} {n : Nat} {F : Nat → Ins} {at' : Int} {A1 : Option Addr} {n1 c1 : Nat} {A2 : Option Addr} {n2 c2 : Nat} {f1 f2 : Nat → Int}
theorem grown_set3 (w : World) (b : Nat) (x y z : Value) : w.grownBy (((w.setCell ⟨b, 0, none⟩ x).setCell ⟨b, 1, none⟩ y).setCell ⟨b, 2, none⟩ z) (some b) := grown_same (grown_same (grown_set b 0 x) (grown_set b 1 y)) (grown_set b 2 z)
end
section
variable {w w' wr : World} {B b : Nat} {R1 R2 : Option Addr} {k1 d1 k2 d2 : Nat} {g1 g2 : Nat → Int}
theorem size_drewS (W : World) : W.drew.heap.size = W.heap.size := rfl
theorem Holds5_on {g : Nat} {t : TypeId} {cs : Array Value} (h : Holds5 w g t cs) (hg : w.grownBy w' none) : Holds5 w' g t cs := h.grown hg (by intro e; cases e)
theorem RM.lower (h : RM wr B R1 k1 d1 R2 k2 d2 g1 g2) {B' : Nat} (hB : B' ≤ B) : RM wr B' R1 k1 d1 R2 k2 d2 g1 g2 := by
  rcases h with h | ⟨r1, r2, e1, e2, hne, o1, o2⟩
  · exact .inl h
  · exact .inr ⟨r1, r2, e1, e2, hne, o1.lower hB, o2.lower hB⟩
theorem RM.but1 (h : RM wr B R1 k1 d1 R2 k2 d2 g1 g2) (hg : wr.grownBy w' (some b)) (h1 : R1.map (·.block) ≠ some b) (h2 : R2.map (·.block) ≠ some b) : RM w' B R1 k1 d1 R2 k2 d2 g1 g2 := by
  rcases h with h | ⟨r1, r2, rfl, rfl, hne, o1, o2⟩
  · exact .inl h
  · have e1 : r1 ≠ b := fun e => h1 (by rw [e]; rfl)
    have e2 : r2 ≠ b := fun e => h2 (by rw [e]; rfl)
    exact .inr ⟨r1, r2, rfl, rfl, hne, o1.but (But.of1 b hg) e1 e1, o2.but (But.of1 b hg) e2 e2⟩
end
section
variable {w w5 : World} {B' b : Nat} {A : Option Addr} {n : Nat} {F : Nat → Ins} {at' : Int} {A1 : Option Addr} {n1 c1 : Nat} {A2 : Option Addr} {n2 c2 : Nat} {f1 f2 : Nat → Int} {at2 : Int} {R1 R2 : Option Addr} {k1 d1 k2 d2 : Nat} {g1 g2 : Nat → Int}
end
end Go.Proofs.YtlmjbflnfpccdaaDoor
