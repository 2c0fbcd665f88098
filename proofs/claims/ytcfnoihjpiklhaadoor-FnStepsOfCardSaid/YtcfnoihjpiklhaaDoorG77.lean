/- Two machines in blocks of their own. What StepMachine and its model leave, in one form; marks on it. A program and a machine that came in, opened; the machine in its box. What the walk of StepMachine's exact law keeps. The memory that the walk of StepMachine's exact law holds: the two answers, the two arguments' copies, all apart. -/
import Derived.Test.YtcfnoihjpiklhaaDoorW34
import Derived.Test.YtcfnoihjpiklhaaDoorW76
import Derived.Test.YtcfnoihjpiklhaaDoorW77
import Derived.Test.YtcfnoihjpiklhaaDoorW9
import Derived.WalkKit
import Derived.ProofKit
import Derived.OpenShut
import Derived.Carry
import Derived.ChangeSlices
import Derived.Deep.Slices
import Derived.Deep.DeepCutAuto
namespace Go.Proofs.YtcfnoihjpiklhaaDoor
open Go.RowKit


/-- Two machines in blocks B1 and B2, with memory of their own; nothing that was there in w has changed. -/
structure TwoM (w w' : World) (B1 B2 : Nat) (at' : Int) (n1 n2 a1 p1 a2 p2 g1 q1 g2 q2 : Nat) (fa1 fa2 fg1 fg2 : Nat → Int) : Prop where
  P1 : Holds5 w' B1 26 #[.int .i64 at', .slice (some ⟨a1, 0, none⟩) n1 p1, .slice (some ⟨a2, 0, none⟩) n2 p2]
  P2 : Holds5 w' B2 26 #[.int .i64 at', .slice (some ⟨g1, 0, none⟩) n1 q1, .slice (some ⟨g2, 0, none⟩) n2 q2]
  oa1 : Own w' w.heap.size (some ⟨a1, 0, none⟩) n1 p1 fa1
  oa2 : Own w' w.heap.size (some ⟨a2, 0, none⟩) n2 p2 fa2
  og1 : Own w' w.heap.size (some ⟨g1, 0, none⟩) n1 q1 fg1
  og2 : Own w' w.heap.size (some ⟨g2, 0, none⟩) n2 q2 fg2
  low : w.grownBy w' none
  ne : (g1 ≠ g2 ∧ a1 ≠ g1 ∧ a1 ≠ g2) ∧ (a2 ≠ g1 ∧ a2 ≠ g2) ∧ (B1 ≠ g1 ∧ B1 ≠ g2) ∧ (B2 ≠ g1 ∧ B2 ≠ g2)
theorem TwoM.grown {w w' w2 : World} {B1 B2 : Nat} {at' : Int} {n1 n2 a1 p1 a2 p2 g1 q1 g2 q2 : Nat} {fa1 fa2 fg1 fg2 : Nat → Int} (h : TwoM w w' B1 B2 at' n1 n2 a1 p1 a2 p2 g1 q1 g2 q2 fa1 fa2 fg1 fg2) (hg : w'.grownBy w2 none) :
    TwoM w w2 B1 B2 at' n1 n2 a1 p1 a2 p2 g1 q1 g2 q2 fa1 fa2 fg1 fg2 :=
  ⟨h.P1.grown hg (by intro e; cases e), h.P2.grown hg (by intro e; cases e), h.oa1.on hg, h.oa2.on hg, h.og1.on hg, h.og2.on hg, grown_same h.low hg, h.ne⟩
theorem Own.but {w w' : World} {B g n c g1 g2 : Nat} {f : Nat → Int} (h : Own w B (some ⟨g, 0, none⟩) n c f) (hb : But w w' g1 g2) (h1 : g ≠ g1) (h2 : g ≠ g2) : Own w' B (some ⟨g, 0, none⟩) n c f := by
  refine ⟨h.1, ?_⟩
  rcases h.2 with h' | ⟨g', cap', cur, e, hB, hg, rest⟩
  · exact .inl h'
  · have e' := e
    simp only [Value.slice.injEq, Option.some.injEq, Addr.mk.injEq, and_true, true_and] at e'
    refine .inr ⟨g', cap', cur, e, hB, ?_, rest⟩
    rw [hb.block g' (by
      by_cases hl : g' < w.heap.size
      · exact hl
      · rw [Array.getElem?_eq_none (by omega)] at hg
        cases hg) (by omega) (by omega)]
    exact hg
theorem TwoM.but {w w' w2 : World} {B1 B2 : Nat} {at' : Int} {n1 n2 a1 p1 a2 p2 g1 q1 g2 q2 : Nat} {fa1 fa2 fg1 fg2 fh1 fh2 : Nat → Int} (h : TwoM w w' B1 B2 at' n1 n2 a1 p1 a2 p2 g1 q1 g2 q2 fa1 fa2 fg1 fg2) (hb : But w' w2 g1 g2)
    (m1 : Own w2 w.heap.size (some ⟨g1, 0, none⟩) n1 q1 fh1) (m2 : Own w2 w.heap.size (some ⟨g2, 0, none⟩) n2 q2 fh2) :
    TwoM w w2 B1 B2 at' n1 n2 a1 p1 a2 p2 g1 q1 g2 q2 fa1 fa2 fh1 fh2 := by
  obtain ⟨⟨e1, e2, e3⟩, ⟨e4, e5⟩, ⟨e6, e7⟩, ⟨e8, e9⟩⟩ := h.ne
  have l1 := h.og1.lt
  have l2 := h.og2.lt
  refine ⟨hb.holds h.P1 e6 e7, hb.holds h.P2 e8 e9, h.oa1.but hb e2 e3, h.oa2.but hb e4 e5, m1, m2, ?_, h.ne⟩
  have := hb.below (B := w.heap.size) l1.1 l2.1 h.low.size
  exact ⟨this.os.trans h.low.os, this.tape.trans h.low.tape, this.output.trans h.low.output, Nat.le_trans h.low.size this.size, fun i hi hn => (this.block i hi).trans (h.low.block i hi hn)⟩

end Go.Proofs.YtcfnoihjpiklhaaDoor
namespace Go.Proofs.YtcfnoihjpiklhaaDoor
open Go.RowKit
/-- The memory of a machine that a call has made: none, or two slices of its own. -/
def RM (wr : World) (B : Nat) (B1 : Option Addr) (k1 d1 : Nat) (B2 : Option Addr) (k2 d2 : Nat) (g1 g2 : Nat → Int) : Prop :=
  (k1 = 0 ∧ k2 = 0 ∧ B1 = none ∧ B2 = none) ∨ ∃ r1 r2, B1 = some ⟨r1, 0, none⟩ ∧ B2 = some ⟨r2, 0, none⟩ ∧ r1 ≠ r2 ∧ Own wr B (some ⟨r1, 0, none⟩) k1 d1 g1 ∧ Own wr B (some ⟨r2, 0, none⟩) k2 d2 g2
section
variable {w wr w' : World} {B : Nat} {B1 B2 : Option Addr} {k1 d1 k2 d2 : Nat} {g1 g2 : Nat → Int}
theorem RM.nums (h : RM wr B B1 k1 d1 B2 k2 d2 g1 g2) : Nums wr B1 k1 g1 ∧ Nums wr B2 k2 g2 := by
  rcases h with ⟨h1, h2, _, _⟩ | ⟨r1, r2, rfl, rfl, _, o1, o2⟩
  · exact ⟨.inl h1, .inl h2⟩
  · exact ⟨o1.nums, o2.nums⟩
theorem RM.on (h : RM wr B B1 k1 d1 B2 k2 d2 g1 g2) (hg : wr.grownBy w' none) : RM w' B B1 k1 d1 B2 k2 d2 g1 g2 := by
  rcases h with h | ⟨r1, r2, e1, e2, hne, o1, o2⟩
  · exact .inl h
  · exact .inr ⟨r1, r2, e1, e2, hne, o1.on hg, o2.on hg⟩
/-- Only the blocks of two slices may have changed. -/
structure ButO (w w' : World) (B1 B2 : Option Addr) : Prop where
  os : w'.os = w.os
  tape : w'.tape = w.tape
  output : w'.output = w.output
  size : w.heap.size ≤ w'.heap.size
  block : ∀ i, i < w.heap.size → B1.map (·.block) ≠ some i → B2.map (·.block) ≠ some i → w'.heap[i]? = w.heap[i]?
theorem RM.low (h : RM wr B B1 k1 d1 B2 k2 d2 g1 g2) : (∀ i, B1.map (·.block) = some i → B ≤ i ∧ i < wr.heap.size) ∧ (∀ i, B2.map (·.block) = some i → B ≤ i ∧ i < wr.heap.size) := by
  rcases h with ⟨_, _, rfl, rfl⟩ | ⟨r1, r2, rfl, rfl, hne, o1, o2⟩
  · refine ⟨fun i e => ?_, fun i e => ?_⟩
    · have e' : none = some i := e
      injection e'
    · have e' : none = some i := e
      injection e'
  · refine ⟨fun i e => ?_, fun i e => ?_⟩
    · have e' : some r1 = some i := e
      injection e' with e'
      subst e'
      exact o1.lt
    · have e' : some r2 = some i := e
      injection e' with e'
      subst e'
      exact o2.lt
theorem ButO.holds {g : Nat} {t : TypeId} {cs : Array Value} (h : ButO w w' B1 B2) (hh : Holds5 w g t cs) (h1 : B1.map (·.block) ≠ some g) (h2 : B2.map (·.block) ≠ some g) : Holds5 w' g t cs := (h.block g hh.inside h1 h2).trans hh
theorem ButO.nums {A : Option Addr} {n : Nat} {f : Nat → Int} (h : ButO w w' B1 B2) (hh : Nums w A n f) (hne : ∀ b off, A = some ⟨b, off, none⟩ → B1.map (·.block) ≠ some b ∧ B2.map (·.block) ≠ some b) : Nums w' A n f := by
  rcases hh with hh | ⟨b, off, hA, hlt, hc⟩
  · exact .inl hh
  · obtain ⟨n1, n2⟩ := hne b off hA
    exact .inr ⟨b, off, hA, Nat.lt_of_lt_of_le hlt h.size, fun j hj => (World.cell?_of_block (a := ⟨b, off + j, none⟩) (h.block b hlt n1 n2)).trans (hc j hj)⟩
end
/-- What a step leaves, in one form. -/
def StepRes (w : World) (ok : Bool) (at2 : Int) (k1 k2 : Nat) (g1 g2 : Nat → Int) (e : Ending) (w' : World) : Prop :=
  ∃ B1 d1 B2 d2, e = .returned (.tuple #[MV at2 B1 k1 d1 B2 k2 d2, .bool ok]) ∧ RM w' w.heap.size B1 k1 d1 B2 k2 d2 g1 g2 ∧ w.grownBy w' none
theorem StepRes.no {w : World} {e : Ending} {w' : World} (g1 g2 : Nat → Int) (h : NoStep w e w') : StepRes w false 0 0 0 g1 g2 e w' := ⟨none, 0, none, 0, h.1, .inl ⟨rfl, rfl, rfl, rfl⟩, h.2⟩
theorem StepRes.yes {w : World} {at2 : Int} {g1 g2 : Nat → Int} {e : Ending} {w' : World} (h : YesStep w at2 g1 g2 e w') : StepRes w true at2 4 8 g1 g2 e w' := by
  obtain ⟨r1, c1, r2, c2, he, hne, o1, o2, hg⟩ := h
  exact ⟨_, c1, _, c2, he, .inr ⟨r1, r2, rfl, rfl, hne, o1, o2⟩, hg⟩
set_option maxHeartbeats 2000000 in
theorem markMachine_none (at' : Int) (d1 d2 : Nat) (m : Int) (w : World) (_hm0 : 0 ≤ m) (_hm : m ≤ 100000000) :
    Calls Tryd.prog 20 #[MV at' none 0 d1 none 0 d2, .int .i64 m] w fun e w' => e = .returned (.int .i64 m) ∧ w.grownBy w' none := by
  go_enter Tryd.func20, Tryd.ntmps20
  go_wp2_with fail
  refine (markIntS_zero none d1 m _).mono ?_
  rintro e w1 ⟨rfl, rfl⟩
  go_wp2_with fail
  refine (markIntS_zero none d2 m _).mono ?_
  rintro e w1 ⟨rfl, rfl⟩
  go_wp2_with fail
  go_ret
  exact ⟨rfl, World.grownBy_alloc _ _ _⟩
theorem markMachine_res (at' : Int) (B : Nat) (B1 : Option Addr) (k1 d1 : Nat) (B2 : Option Addr) (k2 d2 : Nat) (g1 g2 : Nat → Int) (m : Int) (w : World) (hm0 : 0 ≤ m) (hm : m ≤ 100000000) (hk1 : k1 ≤ 8388608) (hk2 : k2 ≤ 8388608) (h : RM w B B1 k1 d1 B2 k2 d2 g1 g2) :
    Calls Tryd.prog 20 #[MV at' B1 k1 d1 B2 k2 d2, .int .i64 m] w fun e w' => e = .returned (.int .i64 (m + k1 + k2)) ∧ RM w' B B1 k1 d1 B2 k2 d2 (fun j => m + (j : Int)) (fun j => m + k1 + (j : Int)) ∧ ButO w w' B1 B2 := by
  rcases h with ⟨rfl, rfl, rfl, rfl⟩ | ⟨r1, r2, rfl, rfl, hne, o1, o2⟩
  · refine (markMachine_none at' d1 d2 m w hm0 hm).mono ?_
    rintro e w' ⟨rfl, hg⟩
    exact ⟨by simp, .inl ⟨rfl, rfl, rfl, rfl⟩, ⟨hg.os, hg.tape, hg.output, hg.size, fun i hi _ _ => hg.block i hi (by simp)⟩⟩
  · refine (markMachine_at at' B r1 r2 k1 k2 d1 d2 g1 g2 m w hm0 (by omega) hne o1 o2).mono ?_
    rintro e w' ⟨rfl, m1, m2, hb⟩
    exact ⟨rfl, .inr ⟨r1, r2, rfl, rfl, hne, m1, m2⟩, ⟨hb.os, hb.tape, hb.output, hb.size, fun i hi h1 h2 => hb.block i hi (fun e => h1 (by rw [e]; rfl)) (fun e => h2 (by rw [e]; rfl))⟩⟩

end Go.Proofs.YtcfnoihjpiklhaaDoor

namespace Go.Proofs.YtcfnoihjpiklhaaDoor
open Go.ChangeShapes Go.WideShapes Go.ChangeAt Go.WideMaps Go.WideElems Go.RowKit
theorem five_cells {W : World} {ab ao : Nat} {cs : List Value} (h : W.cells? 0 ⟨ab, ao, none⟩ 5 = some cs) : ∀ i, i < 5 → W.cell? ⟨ab, ao + i, none⟩ = cs[i]? := by
  intro i hi
  have h1 := (World.cells?_some h).2.2 i hi
  rwa [Addr.add_lit] at h1
set_option maxRecDepth 100000 in
theorem ins_of {H : Type} {enc : TypeId × Value → H} {W : World} {base fuel : Nat} {spare : Nat → Bool} {held : Bool} {cs : List Value} {x : DataW H × List MemPlace} (hl : cs.length = 5)
    (h : DataW.trod enc Tryd.prog W base spare held fuel 68 cs = some x) : ∃ c : Ins, cs = [.string c.op, .int .i64 c.d, .int .i64 c.a, .int .i64 c.b, .int .i64 c.k] ∧ c.op.size ≤ maxLen := by
  obtain ⟨xs, n, _, hx, _, hlen, hfd⟩ := DataW.trod_struct Tryd.underlying68 h
  match cs, hl, xs, hlen with
  | [c0, c1, c2, c3, c4], _, [x0, x1, x2, x3, x4], _ =>
    have g0 := hfd 0 _ rfl
    have g1 := hfd 1 _ rfl
    have g2 := hfd 2 _ rfl
    have g3 := hfd 3 _ rfl
    have g4 := hfd 4 _ rfl
    simp [cells9, cells3] at g0 g1 g2 g3 g4
    obtain ⟨s, e0, _, hs⟩ := DataW.trod_string Tryd.underlying9 g0
    obtain ⟨n1, e1, _⟩ := DataW.trod_int Tryd.underlying3 g1
    obtain ⟨n2, e2, _⟩ := DataW.trod_int Tryd.underlying3 g2
    obtain ⟨n3, e3, _⟩ := DataW.trod_int Tryd.underlying3 g3
    obtain ⟨n4, e4, _⟩ := DataW.trod_int Tryd.underlying3 g4
    simp at e0 e1 e2 e3 e4
    subst e0 e1 e2 e3 e4
    exact ⟨⟨s, n1, n2, n3, n4⟩, rfl, hs⟩
set_option maxRecDepth 100000 in
/-- A program that came in, opened. -/
theorem open_code {H : Type} {enc : TypeId × Value → H} {W : World} {r : Reach} {b0 : Nat} {v : Value} {dt : DataW H} {ps : List MemPlace}
    (hv : Value.okWide Tryd.prog W r b0 39 v) (h : DataW.Trod enc Tryd.prog W 0 (fun _ => true) true 39 v dt ps) :
    ∃ (A : Option Addr) (n c : Nat) (f : Nat → Ins), v = .slice A n c ∧ Code W A n f ∧ n ≤ 9223372036854775807 ∧ ∀ j, j < n → (f j).op.size ≤ 9223372036854775807 := by
  obtain ⟨a1, len, cap, rfl⟩ := okWide_slice Tryd.underlying39 hv
  obtain ⟨fuel, hf⟩ := h
  rcases Go.Deep.open_slice Tryd.underlying39 hf with ⟨hcs, hx⟩ | ⟨a, len', cap', m, n, D, Pl, hcs, _, hl, hm, hmm, hx, hel⟩
  · simp [Value.cells] at hcs
    obtain ⟨rfl, rfl, rfl⟩ := hcs
    exact ⟨none, 0, 0, fun _ => zIns, rfl, .inl rfl, by omega, fun j hj => by omega⟩
  · simp [Value.cells] at hcs
    obtain ⟨rfl, rfl, rfl⟩ := hcs
    simp only [if_true] at hmm
    unfold maxLen at hm
    rw [cells38] at hel
    have hex : ∀ i, i < len → ∃ c : Ins, (∀ k, k < 5 → W.cell? (a.add (i * 5 + k)) = some (c.part k)) ∧ c.op.size ≤ 9223372036854775807 := by
      intro i hi
      obtain ⟨cs', h1, h2⟩ := hel i (by omega)
      obtain ⟨_, hl5, h3⟩ := World.cells?_some h1
      obtain ⟨c, rfl, hs⟩ := ins_of hl5 h2
      refine ⟨c, fun k hk => ?_, by unfold maxLen at hs; omega⟩
      have := h3 k hk
      rw [Addr.add_add] at this
      rw [this]
      match k, hk with
      | 0, _ => rfl
      | 1, _ => rfl
      | 2, _ => rfl
      | 3, _ => rfl
      | 4, _ => rfl
    refine ⟨some a, len, cap, fun i => if h : i < len then Classical.choose (hex i h) else zIns, rfl, ?_, by omega, fun j hj => ?_⟩
    · by_cases h0 : len = 0
      · exact .inl h0
      · obtain ⟨ab, ao, spot⟩ := a
        have c0 := (Classical.choose_spec (hex 0 (by omega))).1 0 (by omega)
        have hspot : spot = none := by simpa [Addr.add] using World.cell?_spot c0
        subst hspot
        rw [Addr.add_lit] at c0
        refine .inr ⟨ab, ao, rfl, World.block_lt_of_cell? W _ c0, fun j i hj hi => ?_⟩
        have := (Classical.choose_spec (hex j hj)).1 i hi
        rw [Addr.add_lit] at this
        simp only [dif_pos hj, Nat.add_assoc]
        exact this
    · simp only [dif_pos hj]
      exact (Classical.choose_spec (hex j hj)).2
theorem cellsI : Tryd.prog.cellsOf 24 = 1 := by kernel_rfl
theorem cellsL : Tryd.prog.cellsOf 40 = 3 := by kernel_rfl
set_option maxRecDepth 100000 in
/-- A machine that came in, opened. -/
theorem open_machine {H : Type} {enc : TypeId × Value → H} {W : World} {r : Reach} {b0 : Nat} {v : Value} {dt : DataW H} {ps : List MemPlace}
    (hv : Value.okWide Tryd.prog W r b0 40 v) (h : DataW.Trod enc Tryd.prog W 0 (fun _ => true) true 40 v dt ps) :
    ∃ (at' : Int) (A1 : Option Addr) (n1 c1 : Nat) (f1 : Nat → Int) (A2 : Option Addr) (n2 c2 : Nat) (f2 : Nat → Int), v = MV at' A1 n1 c1 A2 n2 c2 ∧ Nums W A1 n1 f1 ∧ Nums W A2 n2 f2 ∧ n1 ≤ 9223372036854775807 ∧ n2 ≤ 9223372036854775807 := by
  obtain ⟨cs, rfl, hsz⟩ := okWide_struct Tryd.underlying40 hv
  rw [cellsL] at hsz
  obtain ⟨fuel, hf⟩ := h
  obtain ⟨xs, n, _, hx, _, hlen, hfd⟩ := DataW.trod_struct Tryd.underlying40 hf
  obtain ⟨l⟩ := cs
  have hs : ∀ (c : Value) (x : DataW H × List MemPlace), DataW.trod enc Tryd.prog W 0 (fun _ => true) true n 24 [c] = some x → ∃ A m k f, c = .slice A m k ∧ Nums W A m f ∧ m ≤ 9223372036854775807 := by
    intro c x hc
    rcases open_ints Tryd.underlying24 Tryd.underlying3 cells3 hc with ⟨hcs, hx⟩ | ⟨a, len, cap, zs, hcs, _, hl, hm, hz, hx, hcell, hwz⟩
    · simp at hcs
      exact ⟨none, 0, 0, fun _ => 0, hcs, .inl rfl, by omega⟩
    · simp at hcs
      simp only [if_true] at hz
      unfold maxLen at hm
      refine ⟨some a, len, cap, fun j => zs.getD j 0, hcs, ?_, by omega⟩
      by_cases h0 : len = 0
      · exact .inl h0
      · obtain ⟨ab, ao, spot⟩ := a
        have hspot : spot = none := by simpa [Addr.add] using World.cell?_spot (hcell 0 (by omega))
        subst hspot
        refine .inr ⟨ab, ao, rfl, ?_, fun j hj => ?_⟩
        · have := hcell 0 (by omega)
          rw [Addr.add_lit] at this
          exact World.block_lt_of_cell? W _ this
        · have := hcell j (by omega)
          rw [Addr.add_lit] at this
          exact this
  match l, hsz, xs, hlen with
  | [x0, x1, x2], _, [y0, y1, y2], _ =>
    have g0 := hfd 0 _ rfl
    have g1 := hfd 1 _ rfl
    have g2 := hfd 2 _ rfl
    simp [Value.cells, cells3, cellsI] at g0 g1 g2
    obtain ⟨at', e0, _⟩ := DataW.trod_int Tryd.underlying3 g0
    obtain ⟨A1, n1, c1, f1, rfl, N1, m1⟩ := hs _ _ g1
    obtain ⟨A2, n2, c2, f2, rfl, N2, m2⟩ := hs _ _ g2
    simp at e0
    subst e0
    exact ⟨at', A1, n1, c1, f1, A2, n2, c2, f2, rfl, N1, N2, m1, m2⟩
/-- The machine that came in, in its box at B; its numbers can be read; nothing that was there has changed. -/
structure EX (w wr : World) (B : Nat) (at' : Int) (A1 : Option Addr) (n1 c1 : Nat) (A2 : Option Addr) (n2 c2 : Nat) (f1 f2 : Nat → Int) : Prop where
  box : Holds5 wr B 40 #[.int .i64 at', .slice A1 n1 c1, .slice A2 n2 c2]
  N1 : Nums wr A1 n1 f1
  N2 : Nums wr A2 n2 f2
  low : w.grownBy wr none
theorem EX.grown {w wr w2 : World} {B : Nat} {at' : Int} {A1 : Option Addr} {n1 c1 : Nat} {A2 : Option Addr} {n2 c2 : Nat} {f1 f2 : Nat → Int} (h : EX w wr B at' A1 n1 c1 A2 n2 c2 f1 f2) (hg : wr.grownBy w2 none) : EX w w2 B at' A1 n1 c1 A2 n2 c2 f1 f2 :=
  ⟨h.box.grown hg (by intro e; cases e), h.N1.grown hg (by intro _ _ _ e; cases e), h.N2.grown hg (by intro _ _ _ e; cases e), grown_same h.low hg⟩
end Go.Proofs.YtcfnoihjpiklhaaDoor

namespace Go.Proofs.YtcfnoihjpiklhaaDoor
open Go.ChangeShapes Go.WideShapes Go.ChangeAt Go.WideMaps Go.WideElems Go.RowKit
/-- What came in can be read; nothing that was there has changed. -/
structure SX (w wr : World) (B : Nat) (A : Option Addr) (n : Nat) (F : Nat → Ins) (at' : Int) (A1 : Option Addr) (n1 c1 : Nat) (A2 : Option Addr) (n2 c2 : Nat) (f1 f2 : Nat → Int) : Prop where
  wt0 : WT (w.alloc (.cells #[.int .i64 at', .slice A1 n1 c1, .slice A2 n2 c2] 40))
  code0 : Code (w.alloc (.cells #[.int .i64 at', .slice A1 n1 c1, .slice A2 n2 c2] 40)) A n F
  mach0 : EX w (w.alloc (.cells #[.int .i64 at', .slice A1 n1 c1, .slice A2 n2 c2] 40)) B at' A1 n1 c1 A2 n2 c2 f1 f2
  base : (w.alloc (.cells #[.int .i64 at', .slice A1 n1 c1, .slice A2 n2 c2] 40)).grownBy wr none
section
variable {w wr w2 : World} {B : Nat} {A : Option Addr} {n : Nat} {F : Nat → Ins} {at' : Int} {A1 : Option Addr} {n1 c1 : Nat} {A2 : Option Addr} {n2 c2 : Nat} {f1 f2 : Nat → Int}
theorem SX.wt (h : SX w wr B A n F at' A1 n1 c1 A2 n2 c2 f1 f2) : WT wr := h.wt0.below (below_of_grown h.base) (wt_lt h.wt0)
theorem SX.code (h : SX w wr B A n F at' A1 n1 c1 A2 n2 c2 f1 f2) : Code wr A n F := h.code0.on h.base
theorem SX.mach (h : SX w wr B A n F at' A1 n1 c1 A2 n2 c2 f1 f2) : EX w wr B at' A1 n1 c1 A2 n2 c2 f1 f2 := h.mach0.grown h.base
theorem SX.grown (h : SX w wr B A n F at' A1 n1 c1 A2 n2 c2 f1 f2) (hg : wr.grownBy w2 none) : SX w w2 B A n F at' A1 n1 c1 A2 n2 c2 f1 f2 := ⟨h.wt0, h.code0, h.mach0, grown_same h.base hg⟩
theorem SX.lt (h : SX w wr B A n F at' A1 n1 c1 A2 n2 c2 f1 f2) : w.heap.size < wr.heap.size := by
  have := h.base.size
  rw [World.size_alloc] at this
  omega
theorem grown_set3 (w : World) (b : Nat) (x y z : Value) : w.grownBy (((w.setCell ⟨b, 0, none⟩ x).setCell ⟨b, 1, none⟩ y).setCell ⟨b, 2, none⟩ z) (some b) := grown_same (grown_same (grown_set b 0 x) (grown_set b 1 y)) (grown_set b 2 z)
theorem SX.but1 (h : SX w wr B A n F at' A1 n1 c1 A2 n2 c2 f1 f2) {b : Nat} (g : wr.grownBy w2 (some b)) (hb : w.heap.size < b) : SX w w2 B A n F at' A1 n1 c1 A2 n2 c2 f1 f2 := by
  have hb' : (w.alloc (.cells #[.int .i64 at', .slice A1 n1 c1, .slice A2 n2 c2] 40)).heap.size ≤ b := by rw [World.size_alloc]; omega
  exact ⟨h.wt0, h.code0, h.mach0, ⟨g.os.trans h.base.os, g.tape.trans h.base.tape, g.output.trans h.base.output, Nat.le_trans h.base.size g.size, fun i hi hn => (g.block i (Nat.lt_of_lt_of_le hi h.base.size) (by intro e; injection e with e; omega)).trans (h.base.block i hi hn)⟩⟩
theorem SX.put3 (h : SX w wr B A n F at' A1 n1 c1 A2 n2 c2 f1 f2) {b : Nat} (hb : w.heap.size < b) (x y z : Value) : SX w (((wr.setCell ⟨b, 0, none⟩ x).setCell ⟨b, 1, none⟩ y).setCell ⟨b, 2, none⟩ z) B A n F at' A1 n1 c1 A2 n2 c2 f1 f2 := by
  have g := grown_set3 wr b x y z
  have hb' : (w.alloc (.cells #[.int .i64 at', .slice A1 n1 c1, .slice A2 n2 c2] 40)).heap.size ≤ b := by rw [World.size_alloc]; omega
  exact ⟨h.wt0, h.code0, h.mach0, ⟨g.os.trans h.base.os, g.tape.trans h.base.tape, g.output.trans h.base.output, Nat.le_trans h.base.size g.size, fun i hi hn => (g.block i (Nat.lt_of_lt_of_le hi h.base.size) (by intro e; injection e with e; omega)).trans (h.base.block i hi hn)⟩⟩
end
section
variable {w w' wr : World} {B b : Nat} {R1 R2 : Option Addr} {k1 d1 k2 d2 : Nat} {g1 g2 : Nat → Int}
theorem OwnC_on {g n c : Nat} {f : Nat → Ins} (h : OwnC w B (some ⟨g, 0, none⟩) n c f) (hg : w.grownBy w' none) : OwnC w' B (some ⟨g, 0, none⟩) n c f := World.ownsRow.kept h hg (.inr (by
  show some g ≠ none
  simp))
theorem size_drewS (W : World) : W.drew.heap.size = W.heap.size := rfl
theorem Holds5_on {g : Nat} {t : TypeId} {cs : Array Value} (h : Holds5 w g t cs) (hg : w.grownBy w' none) : Holds5 w' g t cs := h.grown hg (by intro e; cases e)
theorem RM.lower (h : RM wr B R1 k1 d1 R2 k2 d2 g1 g2) {B' : Nat} (hB : B' ≤ B) : RM wr B' R1 k1 d1 R2 k2 d2 g1 g2 := by
  rcases h with h | ⟨r1, r2, e1, e2, hne, o1, o2⟩
  · exact .inl h
  · exact .inr ⟨r1, r2, e1, e2, hne, o1.lower hB, o2.lower hB⟩
theorem RM.but1 (h : RM wr B R1 k1 d1 R2 k2 d2 g1 g2) (hg : wr.grownBy w' (some b)) (h1 : R1.map (·.block) ≠ some b) (h2 : R2.map (·.block) ≠ some b) : RM w' B R1 k1 d1 R2 k2 d2 g1 g2 := by
  rcases h with h | ⟨r1, r2, rfl, rfl, hne, o1, o2⟩
  · exact .inl h
  · have e1 : r1 ≠ b := fun e => h1 (by rw [e]; rfl)
    have e2 : r2 ≠ b := fun e => h2 (by rw [e]; rfl)
    exact .inr ⟨r1, r2, rfl, rfl, hne, o1.but (But.of1 b hg) e1 e1, o2.but (But.of1 b hg) e2 e2⟩
end
section
variable {w w5 : World} {B' b : Nat} {A : Option Addr} {n : Nat} {F : Nat → Ins} {at' : Int} {A1 : Option Addr} {n1 c1 : Nat} {A2 : Option Addr} {n2 c2 : Nat} {f1 f2 : Nat → Int} {at2 : Int} {R1 R2 : Option Addr} {k1 d1 k2 d2 : Nat} {g1 g2 : Nat → Int}
theorem made_put (hP : Holds5 w5 b 26 #[.int .i64 0, .slice none 0 0, .slice none 0 0]) (hS : SX w w5 w.heap.size A n F at' A1 n1 c1 A2 n2 c2 f1 f2) (hlt : w.heap.size < b) (hR : RM w5 B' R1 k1 d1 R2 k2 d2 g1 g2) (hb : b < B') :
    Holds5 (((w5.setCell ⟨b, 0, none⟩ (.int .i64 at2)).setCell ⟨b, 1, none⟩ (.slice R1 k1 d1)).setCell ⟨b, 2, none⟩ (.slice R2 k2 d2)) b 26 #[.int .i64 at2, .slice R1 k1 d1, .slice R2 k2 d2] ∧ RM (((w5.setCell ⟨b, 0, none⟩ (.int .i64 at2)).setCell ⟨b, 1, none⟩ (.slice R1 k1 d1)).setCell ⟨b, 2, none⟩ (.slice R2 k2 d2)) w.heap.size R1 k1 d1 R2 k2 d2 g1 g2 ∧ (w.heap.size < b ∧ R1.map (·.block) ≠ some b ∧ R2.map (·.block) ≠ some b) ∧ SX w (((w5.setCell ⟨b, 0, none⟩ (.int .i64 at2)).setCell ⟨b, 1, none⟩ (.slice R1 k1 d1)).setCell ⟨b, 2, none⟩ (.slice R2 k2 d2)) w.heap.size A n F at' A1 n1 c1 A2 n2 c2 f1 f2 := by
  have n1 : R1.map (·.block) ≠ some b := fun e => by have := (hR.low.1 b e).1; omega
  have n2 : R2.map (·.block) ≠ some b := fun e => by have := (hR.low.2 b e).1; omega
  exact ⟨((hP.put 0 _).put 1 _).put 2 _, (hR.lower (by omega)).but1 (grown_set3 _ _ _ _ _) n1 n2, ⟨hlt, n1, n2⟩, hS.put3 hlt _ _ _⟩
theorem made_new (hS : SX w w5 w.heap.size A n F at' A1 n1 c1 A2 n2 c2 f1 f2) (hR : RM w5 B' R1 k1 d1 R2 k2 d2 g1 g2) (hB : w.heap.size ≤ B') :
    Holds5 (w5.alloc (.cells #[.int .i64 at2, .slice R1 k1 d1, .slice R2 k2 d2] 26)) w5.heap.size 26 #[.int .i64 at2, .slice R1 k1 d1, .slice R2 k2 d2] ∧ RM (w5.alloc (.cells #[.int .i64 at2, .slice R1 k1 d1, .slice R2 k2 d2] 26)) w.heap.size R1 k1 d1 R2 k2 d2 g1 g2 ∧ (w.heap.size < w5.heap.size ∧ R1.map (·.block) ≠ some w5.heap.size ∧ R2.map (·.block) ≠ some w5.heap.size) ∧ SX w (w5.alloc (.cells #[.int .i64 at2, .slice R1 k1 d1, .slice R2 k2 d2] 26)) w.heap.size A n F at' A1 n1 c1 A2 n2 c2 f1 f2 := by
  have n1 : R1.map (·.block) ≠ some w5.heap.size := fun e => by have := (hR.low.1 _ e).2; omega
  have n2 : R2.map (·.block) ≠ some w5.heap.size := fun e => by have := (hR.low.2 _ e).2; omega
  exact ⟨Holds5.fresh _ _ _, (hR.on (World.grownBy_alloc _ _ _)).lower hB, ⟨hS.lt, n1, n2⟩, hS.grown (World.grownBy_alloc _ _ _)⟩
end
theorem SX.box3 {w wr : World} {B : Nat} {A : Option Addr} {n : Nat} {F : Nat → Ins} {at' : Int} {A1 : Option Addr} {n1 c1 : Nat} {A2 : Option Addr} {n2 c2 : Nat} {f1 f2 : Nat → Int} (h : SX w wr B A n F at' A1 n1 c1 A2 n2 c2 f1 f2) : wr.cell? ⟨B, 0, none⟩ = some (.int .i64 at') ∧ wr.cell? ⟨B, 1, none⟩ = some (.slice A1 n1 c1) ∧ wr.cell? ⟨B, 2, none⟩ = some (.slice A2 n2 c2) :=
  ⟨(h.mach.box.look 0).trans rfl, (h.mach.box.look 1).trans rfl, (h.mach.box.look 2).trans rfl⟩
end Go.Proofs.YtcfnoihjpiklhaaDoor

namespace Go.Proofs.YtcfnoihjpiklhaaDoor
open Go.ChangeShapes Go.WideShapes Go.ChangeAt Go.WideMaps Go.WideElems Go.RowKit
/-- The blocks of a made machine's memory lie in a stretch. -/
def Within (lo hi : Nat) (R1 R2 : Option Addr) : Prop := (∀ i, R1.map (·.block) = some i → lo ≤ i ∧ i < hi) ∧ ∀ i, R2.map (·.block) = some i → lo ≤ i ∧ i < hi
theorem Within.ne {lo hi b : Nat} {R1 R2 : Option Addr} (h : Within lo hi R1 R2) (hb : b < lo ∨ hi ≤ b) : R1.map (·.block) ≠ some b ∧ R2.map (·.block) ≠ some b :=
  ⟨fun e => by have := h.1 b e; omega, fun e => by have := h.2 b e; omega⟩
/-- A machine that a call has made, in a box of its own. -/
structure Boxed (wr : World) (b lo hi : Nat) (at2 : Int) (R1 : Option Addr) (k1 d1 : Nat) (R2 : Option Addr) (k2 d2 : Nat) (g1 g2 : Nat → Int) : Prop where
  box : Holds5 wr b 26 #[.int .i64 at2, .slice R1 k1 d1, .slice R2 k2 d2]
  mem : RM wr lo R1 k1 d1 R2 k2 d2 g1 g2
  within : Within lo hi R1 R2
  apart : R1.map (·.block) ≠ some b ∧ R2.map (·.block) ≠ some b
section
variable {w w' wr w2 : World} {b lo hi : Nat} {at2 : Int} {R1 R2 Q1 Q2 : Option Addr} {k1 d1 k2 d2 : Nat} {g1 g2 : Nat → Int}
theorem Boxed.grown (h : Boxed wr b lo hi at2 R1 k1 d1 R2 k2 d2 g1 g2) (hg : wr.grownBy w2 none) : Boxed w2 b lo hi at2 R1 k1 d1 R2 k2 d2 g1 g2 :=
  ⟨h.box.grown hg (by intro e; cases e), h.mem.on hg, h.within, h.apart⟩
theorem Boxed.but1 {c : Nat} (h : Boxed wr b lo hi at2 R1 k1 d1 R2 k2 d2 g1 g2) (hg : wr.grownBy w2 (some c)) (hb : b ≠ c) (hc : c < lo ∨ hi ≤ c) : Boxed w2 b lo hi at2 R1 k1 d1 R2 k2 d2 g1 g2 :=
  ⟨h.box.grown hg (by intro e; injection e with e; exact hb e), h.mem.but1 hg (h.within.ne hc).1 (h.within.ne hc).2, h.within, h.apart⟩
theorem RM.butO (h : RM wr lo R1 k1 d1 R2 k2 d2 g1 g2) (hg : ButO wr w2 Q1 Q2) (hn : ∀ i, (R1.map (·.block) = some i ∨ R2.map (·.block) = some i) → Q1.map (·.block) ≠ some i ∧ Q2.map (·.block) ≠ some i) : RM w2 lo R1 k1 d1 R2 k2 d2 g1 g2 := by
  rcases h with h | ⟨r1, r2, rfl, rfl, hne, o1, o2⟩
  · exact .inl h
  · obtain ⟨a1, a2⟩ := hn r1 (.inl rfl)
    obtain ⟨b1, b2⟩ := hn r2 (.inr rfl)
    have hh : ∀ {r n c : Nat} {f : Nat → Int}, Own wr lo (some ⟨r, 0, none⟩) n c f → Q1.map (·.block) ≠ some r → Q2.map (·.block) ≠ some r → Own w2 lo (some ⟨r, 0, none⟩) n c f := by
      intro r n c f h h1 h2
      refine ⟨h.1, ?_⟩
      rcases h.2 with h' | ⟨g', cap', cur, e, hB, hg', rest⟩
      · exact .inl h'
      · have e' := e
        simp only [Value.slice.injEq, Option.some.injEq, Addr.mk.injEq, and_true, true_and] at e'
        obtain ⟨rfl, _⟩ := e'
        refine .inr ⟨r, cap', cur, e, hB, ?_, rest⟩
        rw [hg.block r (by
          by_cases hl : r < wr.heap.size
          · exact hl
          · rw [Array.getElem?_eq_none (by omega)] at hg'
            cases hg') h1 h2]
        exact hg'
    exact .inr ⟨r1, r2, rfl, rfl, hne, hh o1 a1 a2, hh o2 b1 b2⟩
theorem Boxed.butO {lo' hi' : Nat} (h : Boxed wr b lo hi at2 R1 k1 d1 R2 k2 d2 g1 g2) (hg : ButO wr w2 Q1 Q2) (hq : Within lo' hi' Q1 Q2) (hb : b < lo' ∨ hi' ≤ b) (hl : hi ≤ lo' ∨ hi' ≤ lo) : Boxed w2 b lo hi at2 R1 k1 d1 R2 k2 d2 g1 g2 :=
  ⟨hg.holds h.box (hq.ne hb).1 (hq.ne hb).2, h.mem.butO hg (fun i hi => by
    have hw : lo ≤ i ∧ i < _ := hi.elim (h.within.1 i) (h.within.2 i)
    exact hq.ne (by omega)), h.within, h.apart⟩
end
theorem Boxed.box3 {wr : World} {b lo hi : Nat} {at2 : Int} {R1 R2 : Option Addr} {k1 d1 k2 d2 : Nat} {g1 g2 : Nat → Int} (h : Boxed wr b lo hi at2 R1 k1 d1 R2 k2 d2 g1 g2) : wr.cell? ⟨b, 0, none⟩ = some (.int .i64 at2) ∧ wr.cell? ⟨b, 1, none⟩ = some (.slice R1 k1 d1) ∧ wr.cell? ⟨b, 2, none⟩ = some (.slice R2 k2 d2) :=
  ⟨(h.box.look 0).trans rfl, (h.box.look 1).trans rfl, (h.box.look 2).trans rfl⟩
theorem SX.butO {w wr w2 : World} {B : Nat} {A : Option Addr} {n : Nat} {F : Nat → Ins} {at' : Int} {A1 : Option Addr} {n1 c1 : Nat} {A2 : Option Addr} {n2 c2 : Nat} {f1 f2 : Nat → Int} {Q1 Q2 : Option Addr} {lo hi : Nat} (h : SX w wr B A n F at' A1 n1 c1 A2 n2 c2 f1 f2) (g : ButO wr w2 Q1 Q2) (hq : Within lo hi Q1 Q2) (hl : w.heap.size < lo) : SX w w2 B A n F at' A1 n1 c1 A2 n2 c2 f1 f2 := by
  refine ⟨h.wt0, h.code0, h.mach0, ⟨g.os.trans h.base.os, g.tape.trans h.base.tape, g.output.trans h.base.output, Nat.le_trans h.base.size g.size, fun i hi' hn => (g.block i (Nat.lt_of_lt_of_le hi' h.base.size) ?_ ?_).trans (h.base.block i hi' hn)⟩⟩
  · exact (hq.ne (.inl (by rw [World.size_alloc] at hi'; omega))).1
  · exact (hq.ne (.inl (by rw [World.size_alloc] at hi'; omega))).2
theorem made_put2 {wp w5 : World} {B' b : Nat} {at2 : Int} {R1 R2 : Option Addr} {k1 d1 k2 d2 : Nat} {g1 g2 : Nat → Int} (hP : Holds5 w5 b 26 #[.int .i64 0, .slice none 0 0, .slice none 0 0]) (hg : wp.grownBy w5 none) (hlt : wp.heap.size ≤ b) (hR : RM w5 B' R1 k1 d1 R2 k2 d2 g1 g2) (hb : b < B') :
    wp.grownBy (((w5.setCell ⟨b, 0, none⟩ (.int .i64 at2)).setCell ⟨b, 1, none⟩ (.slice R1 k1 d1)).setCell ⟨b, 2, none⟩ (.slice R2 k2 d2)) none ∧ Holds5 (((w5.setCell ⟨b, 0, none⟩ (.int .i64 at2)).setCell ⟨b, 1, none⟩ (.slice R1 k1 d1)).setCell ⟨b, 2, none⟩ (.slice R2 k2 d2)) b 26 #[.int .i64 at2, .slice R1 k1 d1, .slice R2 k2 d2] ∧ RM (((w5.setCell ⟨b, 0, none⟩ (.int .i64 at2)).setCell ⟨b, 1, none⟩ (.slice R1 k1 d1)).setCell ⟨b, 2, none⟩ (.slice R2 k2 d2)) wp.heap.size R1 k1 d1 R2 k2 d2 g1 g2 := by
  have n1 : R1.map (·.block) ≠ some b := fun e => by have := (hR.low.1 b e).1; omega
  have n2 : R2.map (·.block) ≠ some b := fun e => by have := (hR.low.2 b e).1; omega
  have g := grown_set3 w5 b (.int .i64 at2) (.slice R1 k1 d1) (.slice R2 k2 d2)
  exact ⟨⟨g.os.trans hg.os, g.tape.trans hg.tape, g.output.trans hg.output, Nat.le_trans hg.size g.size, fun i hi hn => (g.block i (Nat.lt_of_lt_of_le hi hg.size) (by intro e; injection e with e; omega)).trans (hg.block i hi hn)⟩, ((hP.put 0 _).put 1 _).put 2 _, (hR.lower (by omega)).but1 g n1 n2⟩
theorem made_new2 {wp w5 : World} {B' : Nat} {at2 : Int} {R1 R2 : Option Addr} {k1 d1 k2 d2 : Nat} {g1 g2 : Nat → Int} (hg : wp.grownBy w5 none) (hR : RM w5 B' R1 k1 d1 R2 k2 d2 g1 g2) (hB : wp.heap.size ≤ B') :
    wp.grownBy (w5.alloc (.cells #[.int .i64 at2, .slice R1 k1 d1, .slice R2 k2 d2] 26)) none ∧ Holds5 (w5.alloc (.cells #[.int .i64 at2, .slice R1 k1 d1, .slice R2 k2 d2] 26)) w5.heap.size 26 #[.int .i64 at2, .slice R1 k1 d1, .slice R2 k2 d2] ∧ RM (w5.alloc (.cells #[.int .i64 at2, .slice R1 k1 d1, .slice R2 k2 d2] 26)) wp.heap.size R1 k1 d1 R2 k2 d2 g1 g2 :=
  ⟨grown_same hg (World.grownBy_alloc _ _ _), Holds5.fresh _ _ _, (hR.on (World.grownBy_alloc _ _ _)).lower hB⟩
theorem Boxed.marked {w w' : World} {b lo hi : Nat} {at2 : Int} {R1 R2 : Option Addr} {k1 d1 k2 d2 : Nat} {g1 g2 h1 h2 : Nat → Int} (h : Boxed w b lo hi at2 R1 k1 d1 R2 k2 d2 g1 g2) (hb : ButO w w' R1 R2) (hm : RM w' lo R1 k1 d1 R2 k2 d2 h1 h2) : Boxed w' b lo hi at2 R1 k1 d1 R2 k2 d2 h1 h2 :=
  ⟨hb.holds h.box h.apart.1 h.apart.2, hm, h.within, h.apart⟩
theorem boxed_new {w4 : World} {at' : Int} {g1 g2 n1 k1 n2 k2 : Nat} {f1 f2 : Nat → Int} {lo : Nat} (hne : g1 ≠ g2) (h1 : Own w4 lo (some ⟨g1, 0, none⟩) n1 k1 f1) (h2 : Own w4 lo (some ⟨g2, 0, none⟩) n2 k2 f2) :
    Boxed (w4.alloc (.cells #[.int .i64 at', .slice (some ⟨g1, 0, none⟩) n1 k1, .slice (some ⟨g2, 0, none⟩) n2 k2] 26)) w4.heap.size lo w4.heap.size at' (some ⟨g1, 0, none⟩) n1 k1 (some ⟨g2, 0, none⟩) n2 k2 f1 f2 := by
  have l1 := h1.lt
  have l2 := h2.lt
  have hg := World.grownBy_alloc w4 (.cells #[.int .i64 at', .slice (some ⟨g1, 0, none⟩) n1 k1, .slice (some ⟨g2, 0, none⟩) n2 k2] 26) none
  have hw : Within lo w4.heap.size (some ⟨g1, 0, none⟩) (some ⟨g2, 0, none⟩) := ⟨fun i e => by
    have e' : some g1 = some i := e
    injection e' with e'
    omega, fun i e => by
    have e' : some g2 = some i := e
    injection e' with e'
    omega⟩
  exact ⟨Holds5.fresh _ _ _, .inr ⟨g1, g2, rfl, rfl, hne, h1.on hg, h2.on hg⟩, hw, hw.ne (.inr (Nat.le_refl _))⟩
theorem boxed_ret {w5 : World} {at2 : Int} {lo : Nat} {G1 : Option Addr} {j1 e1 : Nat} {G2 : Option Addr} {j2 e2 : Nat} {u1 u2 : Nat → Int} (h : RM w5 lo G1 j1 e1 G2 j2 e2 u1 u2) :
    Boxed (w5.alloc (.cells #[.int .i64 at2, .slice G1 j1 e1, .slice G2 j2 e2] 26)) w5.heap.size lo w5.heap.size at2 G1 j1 e1 G2 j2 e2 u1 u2 :=
  ⟨Holds5.fresh _ _ _, h.on (World.grownBy_alloc _ _ _), h.low, Within.ne h.low (.inr (Nat.le_refl _))⟩
theorem OwnC_lt {w : World} {B g n c : Nat} {f : Nat → Ins} (h : OwnC w B (some ⟨g, 0, none⟩) n c f) : B ≤ g ∧ g < w.heap.size := World.ownsRow.lt h g rfl
end Go.Proofs.YtcfnoihjpiklhaaDoor
