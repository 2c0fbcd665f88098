/- Two machines in blocks of their own. -/
import Derived.Test.YtbcncifadklkgaaDoorW34
namespace Go.Proofs.YtbcncifadklkgaaDoor
open Go.RowKit


/-- Two machines in blocks B1 and B2, with memory of their own; nothing that was there in w has changed. -/
structure TwoM (w w' : World) (B1 B2 : Nat) (at' : Int) (n1 n2 a1 p1 a2 p2 g1 q1 g2 q2 : Nat) (fa1 fa2 fg1 fg2 : Nat → Int) : Prop where
  P1 : Holds5 w' B1 31 #[.int .i64 at', .slice (some ⟨a1, 0, none⟩) n1 p1, .slice (some ⟨a2, 0, none⟩) n2 p2]
  P2 : Holds5 w' B2 31 #[.int .i64 at', .slice (some ⟨g1, 0, none⟩) n1 q1, .slice (some ⟨g2, 0, none⟩) n2 q2]
  oa1 : Own w' w.heap.size (some ⟨a1, 0, none⟩) n1 p1 fa1
  oa2 : Own w' w.heap.size (some ⟨a2, 0, none⟩) n2 p2 fa2
  og1 : Own w' w.heap.size (some ⟨g1, 0, none⟩) n1 q1 fg1
  og2 : Own w' w.heap.size (some ⟨g2, 0, none⟩) n2 q2 fg2
  low : w.grownBy w' none
  ne : (g1 ≠ g2 ∧ a1 ≠ g1 ∧ a1 ≠ g2) ∧ (a2 ≠ g1 ∧ a2 ≠ g2) ∧ (B1 ≠ g1 ∧ B1 ≠ g2) ∧ (B2 ≠ g1 ∧ B2 ≠ g2)
theorem TwoM.grown {w w' w2 : World} {B1 B2 : Nat} {at' : Int} {n1 n2 a1 p1 a2 p2 g1 q1 g2 q2 : Nat} {fa1 fa2 fg1 fg2 : Nat → Int} (h : TwoM w w' B1 B2 at' n1 n2 a1 p1 a2 p2 g1 q1 g2 q2 fa1 fa2 fg1 fg2) (hg : w'.grownBy w2 none) :
    TwoM w w2 B1 B2 at' n1 n2 a1 p1 a2 p2 g1 q1 g2 q2 fa1 fa2 fg1 fg2 :=
  ⟨h.P1.grown hg (by intro e; cases e), h.P2.grown hg (by intro e; cases e), h.oa1.on hg, h.oa2.on hg, h.og1.on hg, h.og2.on hg, grown_same h.low hg, h.ne⟩
theorem Own.but {w w' : World} {B g n c g1 g2 : Nat} {f : Nat → Int} (h : Own w B (some ⟨g, 0, none⟩) n c f) (hb : But w w' g1 g2) (h1 : g ≠ g1) (h2 : g ≠ g2) : Own w' B (some ⟨g, 0, none⟩) n c f := by
  refine ⟨h.1, ?_⟩
  rcases h.2 with h' | ⟨g', cap', cur, e, hB, hg, rest⟩
  · exact .inl h'
  · have e' := e
    simp only [Value.slice.injEq, Option.some.injEq, Addr.mk.injEq, and_true, true_and] at e'
    refine .inr ⟨g', cap', cur, e, hB, ?_, rest⟩
    rw [hb.block g' (by
      by_cases hl : g' < w.heap.size
      · exact hl
      · rw [Array.getElem?_eq_none (by omega)] at hg
        cases hg) (by omega) (by omega)]
    exact hg
theorem TwoM.but {w w' w2 : World} {B1 B2 : Nat} {at' : Int} {n1 n2 a1 p1 a2 p2 g1 q1 g2 q2 : Nat} {fa1 fa2 fg1 fg2 fh1 fh2 : Nat → Int} (h : TwoM w w' B1 B2 at' n1 n2 a1 p1 a2 p2 g1 q1 g2 q2 fa1 fa2 fg1 fg2) (hb : But w' w2 g1 g2)
    (m1 : Own w2 w.heap.size (some ⟨g1, 0, none⟩) n1 q1 fh1) (m2 : Own w2 w.heap.size (some ⟨g2, 0, none⟩) n2 q2 fh2) :
    TwoM w w2 B1 B2 at' n1 n2 a1 p1 a2 p2 g1 q1 g2 q2 fa1 fa2 fh1 fh2 := by
  obtain ⟨⟨e1, e2, e3⟩, ⟨e4, e5⟩, ⟨e6, e7⟩, ⟨e8, e9⟩⟩ := h.ne
  have l1 := h.og1.lt
  have l2 := h.og2.lt
  refine ⟨hb.holds h.P1 e6 e7, hb.holds h.P2 e8 e9, h.oa1.but hb e2 e3, h.oa2.but hb e4 e5, m1, m2, ?_, h.ne⟩
  have := hb.below (B := w.heap.size) l1.1 l2.1 h.low.size
  exact ⟨this.os.trans h.low.os, this.tape.trans h.low.tape, this.output.trans h.low.output, Nat.le_trans h.low.size this.size, fun i hi hn => (this.block i hi).trans (h.low.block i hi hn)⟩

end Go.Proofs.YtbcncifadklkgaaDoor