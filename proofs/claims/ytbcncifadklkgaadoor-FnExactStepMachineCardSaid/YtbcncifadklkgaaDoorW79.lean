/- A program and a machine that came in, opened; the machine in its box. -/
import Derived.Test.YtbcncifadklkgaaDoorW78
import Derived.Test.YtbcncifadklkgaaDoorW9
import Derived.WalkKit
import Derived.ProofKit
import Derived.OpenShut
import Derived.Carry
import Derived.ChangeSlices
import Derived.Deep.Slices
namespace Go.Proofs.YtbcncifadklkgaaDoor
open Go.ChangeShapes Go.WideShapes Go.ChangeAt Go.WideMaps Go.WideElems Go.RowKit
theorem five_cells {W : World} {ab ao : Nat} {cs : List Value} (h : W.cells? 0 ⟨ab, ao, none⟩ 5 = some cs) : ∀ i, i < 5 → W.cell? ⟨ab, ao + i, none⟩ = cs[i]? := by
  intro i hi
  have h1 := (World.cells?_some h).2.2 i hi
  rwa [Addr.add_lit] at h1
set_option maxRecDepth 100000 in
theorem ins_of {H : Type} {enc : TypeId × Value → H} {W : World} {base fuel : Nat} {spare : Nat → Bool} {held : Bool} {cs : List Value} {x : DataW H × List MemPlace} (hl : cs.length = 5)
    (h : DataW.trod enc Tryd.prog W base spare held fuel 94 cs = some x) : ∃ c : Ins, cs = [.string c.op, .int .i64 c.d, .int .i64 c.a, .int .i64 c.b, .int .i64 c.k] ∧ c.op.size ≤ maxLen := by
  obtain ⟨xs, n, _, hx, _, hlen, hfd⟩ := DataW.trod_struct Tryd.underlying94 h
  match cs, hl, xs, hlen with
  | [c0, c1, c2, c3, c4], _, [x0, x1, x2, x3, x4], _ =>
    have g0 := hfd 0 _ rfl
    have g1 := hfd 1 _ rfl
    have g2 := hfd 2 _ rfl
    have g3 := hfd 3 _ rfl
    have g4 := hfd 4 _ rfl
    simp [cells9, cells3] at g0 g1 g2 g3 g4
    obtain ⟨s, e0, _, hs⟩ := DataW.trod_string Tryd.underlying9 g0
    obtain ⟨n1, e1, _⟩ := DataW.trod_int Tryd.underlying3 g1
    obtain ⟨n2, e2, _⟩ := DataW.trod_int Tryd.underlying3 g2
    obtain ⟨n3, e3, _⟩ := DataW.trod_int Tryd.underlying3 g3
    obtain ⟨n4, e4, _⟩ := DataW.trod_int Tryd.underlying3 g4
    simp at e0 e1 e2 e3 e4
    subst e0 e1 e2 e3 e4
    exact ⟨⟨s, n1, n2, n3, n4⟩, rfl, hs⟩
set_option maxRecDepth 100000 in
/-- A program that came in, opened. -/
theorem open_code {H : Type} {enc : TypeId × Value → H} {W : World} {r : Reach} {b0 : Nat} {v : Value} {dt : DataW H} {ps : List MemPlace}
    (hv : Value.okWide Tryd.prog W r b0 48 v) (h : DataW.Trod enc Tryd.prog W 0 (fun _ => true) true 48 v dt ps) :
    ∃ (A : Option Addr) (n c : Nat) (f : Nat → Ins), v = .slice A n c ∧ Code W A n f ∧ n ≤ 9223372036854775807 ∧ ∀ j, j < n → (f j).op.size ≤ 9223372036854775807 := by
  obtain ⟨a1, len, cap, rfl⟩ := okWide_slice Tryd.underlying48 hv
  obtain ⟨fuel, hf⟩ := h
  rcases Go.Deep.open_slice Tryd.underlying48 hf with ⟨hcs, hx⟩ | ⟨a, len', cap', m, n, D, Pl, hcs, _, hl, hm, hmm, hx, hel⟩
  · simp [Value.cells] at hcs
    obtain ⟨rfl, rfl, rfl⟩ := hcs
    exact ⟨none, 0, 0, fun _ => zIns, rfl, .inl rfl, by omega, fun j hj => by omega⟩
  · simp [Value.cells] at hcs
    obtain ⟨rfl, rfl, rfl⟩ := hcs
    simp only [if_true] at hmm
    unfold maxLen at hm
    rw [cells38] at hel
    have hex : ∀ i, i < len → ∃ c : Ins, (∀ k, k < 5 → W.cell? (a.add (i * 5 + k)) = some (c.part k)) ∧ c.op.size ≤ 9223372036854775807 := by
      intro i hi
      obtain ⟨cs', h1, h2⟩ := hel i (by omega)
      obtain ⟨_, hl5, h3⟩ := World.cells?_some h1
      obtain ⟨c, rfl, hs⟩ := ins_of hl5 h2
      refine ⟨c, fun k hk => ?_, by unfold maxLen at hs; omega⟩
      have := h3 k hk
      rw [Addr.add_add] at this
      rw [this]
      match k, hk with
      | 0, _ => rfl
      | 1, _ => rfl
      | 2, _ => rfl
      | 3, _ => rfl
      | 4, _ => rfl
    refine ⟨some a, len, cap, fun i => if h : i < len then Classical.choose (hex i h) else zIns, rfl, ?_, by omega, fun j hj => ?_⟩
    · by_cases h0 : len = 0
      · exact .inl h0
      · obtain ⟨ab, ao, spot⟩ := a
        have c0 := (Classical.choose_spec (hex 0 (by omega))).1 0 (by omega)
        have hspot : spot = none := by simpa [Addr.add] using World.cell?_spot c0
        subst hspot
        rw [Addr.add_lit] at c0
        refine .inr ⟨ab, ao, rfl, World.block_lt_of_cell? W _ c0, fun j i hj hi => ?_⟩
        have := (Classical.choose_spec (hex j hj)).1 i hi
        rw [Addr.add_lit] at this
        simp only [dif_pos hj, Nat.add_assoc]
        exact this
    · simp only [dif_pos hj]
      exact (Classical.choose_spec (hex j hj)).2
theorem cellsI : Tryd.prog.cellsOf 29 = 1 := by kernel_rfl
theorem cellsL : Tryd.prog.cellsOf 49 = 3 := by kernel_rfl
set_option maxRecDepth 100000 in
/-- A machine that came in, opened. -/
theorem open_machine {H : Type} {enc : TypeId × Value → H} {W : World} {r : Reach} {b0 : Nat} {v : Value} {dt : DataW H} {ps : List MemPlace}
    (hv : Value.okWide Tryd.prog W r b0 49 v) (h : DataW.Trod enc Tryd.prog W 0 (fun _ => true) true 49 v dt ps) :
    ∃ (at' : Int) (A1 : Option Addr) (n1 c1 : Nat) (f1 : Nat → Int) (A2 : Option Addr) (n2 c2 : Nat) (f2 : Nat → Int), v = MV at' A1 n1 c1 A2 n2 c2 ∧ Nums W A1 n1 f1 ∧ Nums W A2 n2 f2 ∧ n1 ≤ 9223372036854775807 ∧ n2 ≤ 9223372036854775807 := by
  obtain ⟨cs, rfl, hsz⟩ := okWide_struct Tryd.underlying49 hv
  rw [cellsL] at hsz
  obtain ⟨fuel, hf⟩ := h
  obtain ⟨xs, n, _, hx, _, hlen, hfd⟩ := DataW.trod_struct Tryd.underlying49 hf
  obtain ⟨l⟩ := cs
  have hs : ∀ (c : Value) (x : DataW H × List MemPlace), DataW.trod enc Tryd.prog W 0 (fun _ => true) true n 29 [c] = some x → ∃ A m k f, c = .slice A m k ∧ Nums W A m f ∧ m ≤ 9223372036854775807 := by
    intro c x hc
    rcases open_ints Tryd.underlying29 Tryd.underlying3 cells3 hc with ⟨hcs, hx⟩ | ⟨a, len, cap, zs, hcs, _, hl, hm, hz, hx, hcell, hwz⟩
    · simp at hcs
      exact ⟨none, 0, 0, fun _ => 0, hcs, .inl rfl, by omega⟩
    · simp at hcs
      simp only [if_true] at hz
      unfold maxLen at hm
      refine ⟨some a, len, cap, fun j => zs.getD j 0, hcs, ?_, by omega⟩
      by_cases h0 : len = 0
      · exact .inl h0
      · obtain ⟨ab, ao, spot⟩ := a
        have hspot : spot = none := by simpa [Addr.add] using World.cell?_spot (hcell 0 (by omega))
        subst hspot
        refine .inr ⟨ab, ao, rfl, ?_, fun j hj => ?_⟩
        · have := hcell 0 (by omega)
          rw [Addr.add_lit] at this
          exact World.block_lt_of_cell? W _ this
        · have := hcell j (by omega)
          rw [Addr.add_lit] at this
          exact this
  match l, hsz, xs, hlen with
  | [x0, x1, x2], _, [y0, y1, y2], _ =>
    have g0 := hfd 0 _ rfl
    have g1 := hfd 1 _ rfl
    have g2 := hfd 2 _ rfl
    simp [Value.cells, cells3, cellsI] at g0 g1 g2
    obtain ⟨at', e0, _⟩ := DataW.trod_int Tryd.underlying3 g0
    obtain ⟨A1, n1, c1, f1, rfl, N1, m1⟩ := hs _ _ g1
    obtain ⟨A2, n2, c2, f2, rfl, N2, m2⟩ := hs _ _ g2
    simp at e0
    subst e0
    exact ⟨at', A1, n1, c1, f1, A2, n2, c2, f2, rfl, N1, N2, m1, m2⟩
/-- The machine that came in, in its box at B; its numbers can be read; nothing that was there has changed. -/
structure EX (w wr : World) (B : Nat) (at' : Int) (A1 : Option Addr) (n1 c1 : Nat) (A2 : Option Addr) (n2 c2 : Nat) (f1 f2 : Nat → Int) : Prop where
  box : Holds5 wr B 49 #[.int .i64 at', .slice A1 n1 c1, .slice A2 n2 c2]
  N1 : Nums wr A1 n1 f1
  N2 : Nums wr A2 n2 f2
  low : w.grownBy wr none
theorem EX.grown {w wr w2 : World} {B : Nat} {at' : Int} {A1 : Option Addr} {n1 c1 : Nat} {A2 : Option Addr} {n2 c2 : Nat} {f1 f2 : Nat → Int} (h : EX w wr B at' A1 n1 c1 A2 n2 c2 f1 f2) (hg : wr.grownBy w2 none) : EX w w2 B at' A1 n1 c1 A2 n2 c2 f1 f2 :=
  ⟨h.box.grown hg (by intro e; cases e), h.N1.grown hg (by intro _ _ _ e; cases e), h.N2.grown hg (by intro _ _ _ e; cases e), grown_same h.low hg⟩
end Go.Proofs.YtbcncifadklkgaaDoor
