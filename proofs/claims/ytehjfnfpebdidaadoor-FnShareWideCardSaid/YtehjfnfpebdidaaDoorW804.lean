/- Wide instructions that came in, opened. -/
import Derived.Test.YtehjfnfpebdidaaDoorW801
import Derived.Test.YtehjfnfpebdidaaDoorCards
import Derived.Test.YtehjfnfpebdidaaDoorTie
import Derived.SevenTiedAt
import Derived.Deep.Slices
namespace Go.Proofs.YtehjfnfpebdidaaDoor
open Go.ChangeShapes Go.WideShapes Go.ChangeAt Go.WideMaps Go.WideElems Go.RowKit
theorem cells4w : Tryd.prog.cellsOf 50 = 4 := by kernel_rfl
theorem four_cells {W : World} {ab ao : Nat} {cs : List Value} (h : W.cells? 0 ⟨ab, ao, none⟩ 4 = some cs) : ∀ i, i < 4 → W.cell? ⟨ab, ao + i, none⟩ = cs[i]? := by
  intro i hi
  have h1 := (World.cells?_some h).2.2 i hi
  rwa [Addr.add_lit] at h1
set_option maxRecDepth 100000 in
theorem wid_of {H : Type} {enc : TypeId × Value → H} {W : World} {base fuel : Nat} {spare : Nat → Bool} {held : Bool} {cs : List Value} {x : DataW H × List MemPlace} (hl : cs.length = 4)
    (h : DataW.trod enc Tryd.prog W base spare held fuel 50 cs = some x) : ∃ c : Wid, cs = [.string c.op, .int .i64 c.a, .int .i64 c.b, .int .i64 c.k] ∧ c.op.size ≤ maxLen := by
  obtain ⟨xs, n, _, hx, _, hlen, hfd⟩ := DataW.trod_struct Tryd.underlying50 h
  match cs, hl, xs, hlen with
  | [c0, c1, c2, c3], _, [x0, x1, x2, x3], _ =>
    have g0 := hfd 0 _ rfl
    have g1 := hfd 1 _ rfl
    have g2 := hfd 2 _ rfl
    have g3 := hfd 3 _ rfl
    simp [cells9, cells3] at g0 g1 g2 g3
    obtain ⟨s, e0, _, hs⟩ := DataW.trod_string Tryd.underlying9 g0
    obtain ⟨n1, e1, _⟩ := DataW.trod_int Tryd.underlying3 g1
    obtain ⟨n2, e2, _⟩ := DataW.trod_int Tryd.underlying3 g2
    obtain ⟨n3, e3, _⟩ := DataW.trod_int Tryd.underlying3 g3
    simp at e0 e1 e2 e3
    subst e0 e1 e2 e3
    exact ⟨⟨s, n1, n2, n3⟩, rfl, hs⟩
set_option maxRecDepth 100000 in
/-- A program that came in, opened. -/
theorem open_wides {H : Type} {enc : TypeId × Value → H} {W : World} {r : Reach} {b0 : Nat} {v : Value} {dt : DataW H} {ps : List MemPlace}
    (hv : Value.okWide Tryd.prog W r b0 33 v) (h : DataW.Trod enc Tryd.prog W 0 (fun _ => true) true 33 v dt ps) :
    ∃ (A : Option Addr) (n c : Nat) (f : Nat → Wid), v = .slice A n c ∧ Wds W A n f ∧ n ≤ 9223372036854775807 ∧ ∀ j, j < n → (f j).op.size ≤ 9223372036854775807 := by
  obtain ⟨a1, len, cap, rfl⟩ := okWide_slice Tryd.underlying33 hv
  obtain ⟨fuel, hf⟩ := h
  rcases Go.Deep.open_slice Tryd.underlying33 hf with ⟨hcs, hx⟩ | ⟨a, len', cap', m, n, D, Pl, hcs, _, hl, hm, hmm, hx, hel⟩
  · simp [Value.cells] at hcs
    obtain ⟨rfl, rfl, rfl⟩ := hcs
    exact ⟨none, 0, 0, fun _ => zWid, rfl, .inl rfl, by omega, fun j hj => by omega⟩
  · simp [Value.cells] at hcs
    obtain ⟨rfl, rfl, rfl⟩ := hcs
    simp only [if_true] at hmm
    unfold maxLen at hm
    rw [cells4w] at hel
    have hex : ∀ i, i < len → ∃ c : Wid, (∀ k, k < 4 → W.cell? (a.add (i * 4 + k)) = some (c.part k)) ∧ c.op.size ≤ 9223372036854775807 := by
      intro i hi
      obtain ⟨cs', h1, h2⟩ := hel i (by omega)
      obtain ⟨_, hl4, h3⟩ := World.cells?_some h1
      obtain ⟨c, rfl, hs⟩ := wid_of hl4 h2
      refine ⟨c, fun k hk => ?_, by unfold maxLen at hs; omega⟩
      have := h3 k hk
      rw [Addr.add_add] at this
      rw [this]
      match k, hk with
      | 0, _ => rfl
      | 1, _ => rfl
      | 2, _ => rfl
      | 3, _ => rfl
    refine ⟨some a, len, cap, fun i => if h : i < len then Classical.choose (hex i h) else zWid, rfl, ?_, by omega, fun j hj => ?_⟩
    · by_cases h0 : len = 0
      · exact .inl h0
      · obtain ⟨ab, ao, spot⟩ := a
        have c0 := (Classical.choose_spec (hex 0 (by omega))).1 0 (by omega)
        have hspot : spot = none := by simpa [Addr.add] using World.cell?_spot c0
        subst hspot
        rw [Addr.add_lit] at c0
        refine .inr ⟨ab, ao, rfl, World.block_lt_of_cell? W _ c0, fun j i hj hi => ?_⟩
        have := (Classical.choose_spec (hex j hj)).1 i hi
        rw [Addr.add_lit] at this
        simp only [dif_pos hj, Nat.add_assoc]
        exact this
    · simp only [dif_pos hj]
      exact (Classical.choose_spec (hex j hj)).2
end Go.Proofs.YtehjfnfpebdidaaDoor
