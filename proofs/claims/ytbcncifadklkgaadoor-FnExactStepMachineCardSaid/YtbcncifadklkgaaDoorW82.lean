/- The memory that the walk of StepMachine's exact law holds: the two answers, the two arguments' copies, all apart. -/
import Derived.Test.YtbcncifadklkgaaDoorW80
namespace Go.Proofs.YtbcncifadklkgaaDoor
open Go.ChangeShapes Go.WideShapes Go.ChangeAt Go.WideMaps Go.WideElems Go.RowKit
/-- The blocks of a made machine's memory lie in a stretch. -/
def Within (lo hi : Nat) (R1 R2 : Option Addr) : Prop := (∀ i, R1.map (·.block) = some i → lo ≤ i ∧ i < hi) ∧ ∀ i, R2.map (·.block) = some i → lo ≤ i ∧ i < hi
theorem Within.ne {lo hi b : Nat} {R1 R2 : Option Addr} (h : Within lo hi R1 R2) (hb : b < lo ∨ hi ≤ b) : R1.map (·.block) ≠ some b ∧ R2.map (·.block) ≠ some b :=
  ⟨fun e => by have := h.1 b e; omega, fun e => by have := h.2 b e; omega⟩
/-- A machine that a call has made, in a box of its own. -/
structure Boxed (wr : World) (b lo hi : Nat) (at2 : Int) (R1 : Option Addr) (k1 d1 : Nat) (R2 : Option Addr) (k2 d2 : Nat) (g1 g2 : Nat → Int) : Prop where
  box : Holds5 wr b 31 #[.int .i64 at2, .slice R1 k1 d1, .slice R2 k2 d2]
  mem : RM wr lo R1 k1 d1 R2 k2 d2 g1 g2
  within : Within lo hi R1 R2
  apart : R1.map (·.block) ≠ some b ∧ R2.map (·.block) ≠ some b
section
variable {w w' wr w2 : World} {b lo hi : Nat} {at2 : Int} {R1 R2 Q1 Q2 : Option Addr} {k1 d1 k2 d2 : Nat} {g1 g2 : Nat → Int}
theorem Boxed.grown (h : Boxed wr b lo hi at2 R1 k1 d1 R2 k2 d2 g1 g2) (hg : wr.grownBy w2 none) : Boxed w2 b lo hi at2 R1 k1 d1 R2 k2 d2 g1 g2 :=
  ⟨h.box.grown hg (by intro e; cases e), h.mem.on hg, h.within, h.apart⟩
theorem Boxed.but1 {c : Nat} (h : Boxed wr b lo hi at2 R1 k1 d1 R2 k2 d2 g1 g2) (hg : wr.grownBy w2 (some c)) (hb : b ≠ c) (hc : c < lo ∨ hi ≤ c) : Boxed w2 b lo hi at2 R1 k1 d1 R2 k2 d2 g1 g2 :=
  ⟨h.box.grown hg (by intro e; injection e with e; exact hb e), h.mem.but1 hg (h.within.ne hc).1 (h.within.ne hc).2, h.within, h.apart⟩
theorem RM.butO (h : RM wr lo R1 k1 d1 R2 k2 d2 g1 g2) (hg : ButO wr w2 Q1 Q2) (hn : ∀ i, (R1.map (·.block) = some i ∨ R2.map (·.block) = some i) → Q1.map (·.block) ≠ some i ∧ Q2.map (·.block) ≠ some i) : RM w2 lo R1 k1 d1 R2 k2 d2 g1 g2 := by
  rcases h with h | ⟨r1, r2, rfl, rfl, hne, o1, o2⟩
  · exact .inl h
  · obtain ⟨a1, a2⟩ := hn r1 (.inl rfl)
    obtain ⟨b1, b2⟩ := hn r2 (.inr rfl)
    have hh : ∀ {r n c : Nat} {f : Nat → Int}, Own wr lo (some ⟨r, 0, none⟩) n c f → Q1.map (·.block) ≠ some r → Q2.map (·.block) ≠ some r → Own w2 lo (some ⟨r, 0, none⟩) n c f := by
      intro r n c f h h1 h2
      refine ⟨h.1, ?_⟩
      rcases h.2 with h' | ⟨g', cap', cur, e, hB, hg', rest⟩
      · exact .inl h'
      · have e' := e
        simp only [Value.slice.injEq, Option.some.injEq, Addr.mk.injEq, and_true, true_and] at e'
        obtain ⟨rfl, _⟩ := e'
        refine .inr ⟨r, cap', cur, e, hB, ?_, rest⟩
        rw [hg.block r (by
          by_cases hl : r < wr.heap.size
          · exact hl
          · rw [Array.getElem?_eq_none (by omega)] at hg'
            cases hg') h1 h2]
        exact hg'
    exact .inr ⟨r1, r2, rfl, rfl, hne, hh o1 a1 a2, hh o2 b1 b2⟩
theorem Boxed.butO {lo' hi' : Nat} (h : Boxed wr b lo hi at2 R1 k1 d1 R2 k2 d2 g1 g2) (hg : ButO wr w2 Q1 Q2) (hq : Within lo' hi' Q1 Q2) (hb : b < lo' ∨ hi' ≤ b) (hl : hi ≤ lo' ∨ hi' ≤ lo) : Boxed w2 b lo hi at2 R1 k1 d1 R2 k2 d2 g1 g2 :=
  ⟨hg.holds h.box (hq.ne hb).1 (hq.ne hb).2, h.mem.butO hg (fun i hi => by
    have hw : lo ≤ i ∧ i < _ := hi.elim (h.within.1 i) (h.within.2 i)
    exact hq.ne (by omega)), h.within, h.apart⟩
end
theorem Boxed.box3 {wr : World} {b lo hi : Nat} {at2 : Int} {R1 R2 : Option Addr} {k1 d1 k2 d2 : Nat} {g1 g2 : Nat → Int} (h : Boxed wr b lo hi at2 R1 k1 d1 R2 k2 d2 g1 g2) : wr.cell? ⟨b, 0, none⟩ = some (.int .i64 at2) ∧ wr.cell? ⟨b, 1, none⟩ = some (.slice R1 k1 d1) ∧ wr.cell? ⟨b, 2, none⟩ = some (.slice R2 k2 d2) :=
  ⟨(h.box.look 0).trans rfl, (h.box.look 1).trans rfl, (h.box.look 2).trans rfl⟩
theorem SX.butO {w wr w2 : World} {B : Nat} {A : Option Addr} {n : Nat} {F : Nat → Ins} {at' : Int} {A1 : Option Addr} {n1 c1 : Nat} {A2 : Option Addr} {n2 c2 : Nat} {f1 f2 : Nat → Int} {Q1 Q2 : Option Addr} {lo hi : Nat} (h : SX w wr B A n F at' A1 n1 c1 A2 n2 c2 f1 f2) (g : ButO wr w2 Q1 Q2) (hq : Within lo hi Q1 Q2) (hl : w.heap.size < lo) : SX w w2 B A n F at' A1 n1 c1 A2 n2 c2 f1 f2 := by
  refine ⟨h.wt0, h.code0, h.mach0, ⟨g.os.trans h.base.os, g.tape.trans h.base.tape, g.output.trans h.base.output, Nat.le_trans h.base.size g.size, fun i hi' hn => (g.block i (Nat.lt_of_lt_of_le hi' h.base.size) ?_ ?_).trans (h.base.block i hi' hn)⟩⟩
  · exact (hq.ne (.inl (by rw [World.size_alloc] at hi'; omega))).1
  · exact (hq.ne (.inl (by rw [World.size_alloc] at hi'; omega))).2
theorem made_put2 {wp w5 : World} {B' b : Nat} {at2 : Int} {R1 R2 : Option Addr} {k1 d1 k2 d2 : Nat} {g1 g2 : Nat → Int} (hP : Holds5 w5 b 31 #[.int .i64 0, .slice none 0 0, .slice none 0 0]) (hg : wp.grownBy w5 none) (hlt : wp.heap.size ≤ b) (hR : RM w5 B' R1 k1 d1 R2 k2 d2 g1 g2) (hb : b < B') :
    wp.grownBy (((w5.setCell ⟨b, 0, none⟩ (.int .i64 at2)).setCell ⟨b, 1, none⟩ (.slice R1 k1 d1)).setCell ⟨b, 2, none⟩ (.slice R2 k2 d2)) none ∧ Holds5 (((w5.setCell ⟨b, 0, none⟩ (.int .i64 at2)).setCell ⟨b, 1, none⟩ (.slice R1 k1 d1)).setCell ⟨b, 2, none⟩ (.slice R2 k2 d2)) b 31 #[.int .i64 at2, .slice R1 k1 d1, .slice R2 k2 d2] ∧ RM (((w5.setCell ⟨b, 0, none⟩ (.int .i64 at2)).setCell ⟨b, 1, none⟩ (.slice R1 k1 d1)).setCell ⟨b, 2, none⟩ (.slice R2 k2 d2)) wp.heap.size R1 k1 d1 R2 k2 d2 g1 g2 := by
  have n1 : R1.map (·.block) ≠ some b := fun e => by have := (hR.low.1 b e).1; omega
  have n2 : R2.map (·.block) ≠ some b := fun e => by have := (hR.low.2 b e).1; omega
  have g := grown_set3 w5 b (.int .i64 at2) (.slice R1 k1 d1) (.slice R2 k2 d2)
  exact ⟨⟨g.os.trans hg.os, g.tape.trans hg.tape, g.output.trans hg.output, Nat.le_trans hg.size g.size, fun i hi hn => (g.block i (Nat.lt_of_lt_of_le hi hg.size) (by intro e; injection e with e; omega)).trans (hg.block i hi hn)⟩, ((hP.put 0 _).put 1 _).put 2 _, (hR.lower (by omega)).but1 g n1 n2⟩
theorem made_new2 {wp w5 : World} {B' : Nat} {at2 : Int} {R1 R2 : Option Addr} {k1 d1 k2 d2 : Nat} {g1 g2 : Nat → Int} (hg : wp.grownBy w5 none) (hR : RM w5 B' R1 k1 d1 R2 k2 d2 g1 g2) (hB : wp.heap.size ≤ B') :
    wp.grownBy (w5.alloc (.cells #[.int .i64 at2, .slice R1 k1 d1, .slice R2 k2 d2] 31)) none ∧ Holds5 (w5.alloc (.cells #[.int .i64 at2, .slice R1 k1 d1, .slice R2 k2 d2] 31)) w5.heap.size 31 #[.int .i64 at2, .slice R1 k1 d1, .slice R2 k2 d2] ∧ RM (w5.alloc (.cells #[.int .i64 at2, .slice R1 k1 d1, .slice R2 k2 d2] 31)) wp.heap.size R1 k1 d1 R2 k2 d2 g1 g2 :=
  ⟨grown_same hg (World.grownBy_alloc _ _ _), Holds5.fresh _ _ _, (hR.on (World.grownBy_alloc _ _ _)).lower hB⟩
theorem Boxed.marked {w w' : World} {b lo hi : Nat} {at2 : Int} {R1 R2 : Option Addr} {k1 d1 k2 d2 : Nat} {g1 g2 h1 h2 : Nat → Int} (h : Boxed w b lo hi at2 R1 k1 d1 R2 k2 d2 g1 g2) (hb : ButO w w' R1 R2) (hm : RM w' lo R1 k1 d1 R2 k2 d2 h1 h2) : Boxed w' b lo hi at2 R1 k1 d1 R2 k2 d2 h1 h2 :=
  ⟨hb.holds h.box h.apart.1 h.apart.2, hm, h.within, h.apart⟩
theorem boxed_new {w4 : World} {at' : Int} {g1 g2 n1 k1 n2 k2 : Nat} {f1 f2 : Nat → Int} {lo : Nat} (hne : g1 ≠ g2) (h1 : Own w4 lo (some ⟨g1, 0, none⟩) n1 k1 f1) (h2 : Own w4 lo (some ⟨g2, 0, none⟩) n2 k2 f2) :
    Boxed (w4.alloc (.cells #[.int .i64 at', .slice (some ⟨g1, 0, none⟩) n1 k1, .slice (some ⟨g2, 0, none⟩) n2 k2] 31)) w4.heap.size lo w4.heap.size at' (some ⟨g1, 0, none⟩) n1 k1 (some ⟨g2, 0, none⟩) n2 k2 f1 f2 := by
  have l1 := h1.lt
  have l2 := h2.lt
  have hg := World.grownBy_alloc w4 (.cells #[.int .i64 at', .slice (some ⟨g1, 0, none⟩) n1 k1, .slice (some ⟨g2, 0, none⟩) n2 k2] 31) none
  have hw : Within lo w4.heap.size (some ⟨g1, 0, none⟩) (some ⟨g2, 0, none⟩) := ⟨fun i e => by
    have e' : some g1 = some i := e
    injection e' with e'
    omega, fun i e => by
    have e' : some g2 = some i := e
    injection e' with e'
    omega⟩
  exact ⟨Holds5.fresh _ _ _, .inr ⟨g1, g2, rfl, rfl, hne, h1.on hg, h2.on hg⟩, hw, hw.ne (.inr (Nat.le_refl _))⟩
theorem boxed_ret {w5 : World} {at2 : Int} {lo : Nat} {G1 : Option Addr} {j1 e1 : Nat} {G2 : Option Addr} {j2 e2 : Nat} {u1 u2 : Nat → Int} (h : RM w5 lo G1 j1 e1 G2 j2 e2 u1 u2) :
    Boxed (w5.alloc (.cells #[.int .i64 at2, .slice G1 j1 e1, .slice G2 j2 e2] 31)) w5.heap.size lo w5.heap.size at2 G1 j1 e1 G2 j2 e2 u1 u2 :=
  ⟨Holds5.fresh _ _ _, h.on (World.grownBy_alloc _ _ _), h.low, Within.ne h.low (.inr (Nat.le_refl _))⟩
theorem OwnC_lt {w : World} {B g n c : Nat} {f : Nat → Ins} (h : OwnC w B (some ⟨g, 0, none⟩) n c f) : B ≤ g ∧ g < w.heap.size := World.ownsRow.lt h g rfl
end Go.Proofs.YtbcncifadklkgaaDoor
