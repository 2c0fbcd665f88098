/- ValidCode answers as its model at every program, whatever the program, under the conditions of the row. -/
import Derived.Test.YtlmjbflnfpccdaaDoorW52
import Derived.Deep.Slices
namespace Go.Proofs.YtlmjbflnfpccdaaDoor
open Go.ChangeShapes Go.WideShapes Go.ChangeAt Go.WideMaps Go.WideElems Go.RowKit
theorem five_cells {W : World} {ab ao : Nat} {cs : List Value} (h : W.cells? 0 ⟨ab, ao, none⟩ 5 = some cs) : ∀ i, i < 5 → W.cell? ⟨ab, ao + i, none⟩ = cs[i]? := by
  intro i hi
  have h1 := (World.cells?_some h).2.2 i hi
  rwa [Addr.add_lit] at h1
set_option maxRecDepth 100000 in
theorem ins_of {H : Type} {enc : TypeId × Value → H} {W : World} {base fuel : Nat} {spare : Nat → Bool} {held : Bool} {cs : List Value} {x : DataW H × List MemPlace} (hl : cs.length = 5)
    (h : DataW.trod enc Tryd.prog W base spare held fuel 51 cs = some x) : ∃ c : Ins, cs = [.string c.op, .int .i64 c.d, .int .i64 c.a, .int .i64 c.b, .int .i64 c.k] ∧ c.op.size ≤ maxLen := by
  obtain ⟨xs, n, _, hx, _, hlen, hfd⟩ := DataW.trod_struct Tryd.underlying51 h
  match cs, hl, xs, hlen with
  | [c0, c1, c2, c3, c4], _, [x0, x1, x2, x3, x4], _ =>
    have g0 := hfd 0 _ rfl
    have g1 := hfd 1 _ rfl
    have g2 := hfd 2 _ rfl
    have g3 := hfd 3 _ rfl
    have g4 := hfd 4 _ rfl
    simp [cells9, cells3] at g0 g1 g2 g3 g4
    obtain ⟨s, e0, _, hs⟩ := DataW.trod_string Tryd.underlying9 g0
    obtain ⟨n1, e1, _⟩ := DataW.trod_int Tryd.underlying3 g1
    obtain ⟨n2, e2, _⟩ := DataW.trod_int Tryd.underlying3 g2
    obtain ⟨n3, e3, _⟩ := DataW.trod_int Tryd.underlying3 g3
    obtain ⟨n4, e4, _⟩ := DataW.trod_int Tryd.underlying3 g4
    simp at e0 e1 e2 e3 e4
    subst e0 e1 e2 e3 e4
    exact ⟨⟨s, n1, n2, n3, n4⟩, rfl, hs⟩
set_option maxRecDepth 100000 in
/-- A program that came in, opened. -/
theorem open_code {H : Type} {enc : TypeId × Value → H} {W : World} {r : Reach} {b0 : Nat} {v : Value} {dt : DataW H} {ps : List MemPlace}
    (hv : Value.okWide Tryd.prog W r b0 22 v) (h : DataW.Trod enc Tryd.prog W 0 (fun _ => true) true 22 v dt ps) :
    ∃ (A : Option Addr) (n c : Nat) (f : Nat → Ins), v = .slice A n c ∧ Code W A n f ∧ n ≤ 9223372036854775807 ∧ ∀ j, j < n → (f j).op.size ≤ 9223372036854775807 := by
  obtain ⟨a1, len, cap, rfl⟩ := okWide_slice Tryd.underlying22 hv
  obtain ⟨fuel, hf⟩ := h
  rcases Go.Deep.open_slice Tryd.underlying22 hf with ⟨hcs, hx⟩ | ⟨a, len', cap', m, n, D, Pl, hcs, _, hl, hm, hmm, hx, hel⟩
  · simp [Value.cells] at hcs
    obtain ⟨rfl, rfl, rfl⟩ := hcs
    exact ⟨none, 0, 0, fun _ => zIns, rfl, .inl rfl, by omega, fun j hj => by omega⟩
  · simp [Value.cells] at hcs
    obtain ⟨rfl, rfl, rfl⟩ := hcs
    simp only [if_true] at hmm
    unfold maxLen at hm
    rw [cells38] at hel
    have hex : ∀ i, i < len → ∃ c : Ins, (∀ k, k < 5 → W.cell? (a.add (i * 5 + k)) = some (c.part k)) ∧ c.op.size ≤ 9223372036854775807 := by
      intro i hi
      obtain ⟨cs', h1, h2⟩ := hel i (by omega)
      obtain ⟨_, hl5, h3⟩ := World.cells?_some h1
      obtain ⟨c, rfl, hs⟩ := ins_of hl5 h2
      refine ⟨c, fun k hk => ?_, by unfold maxLen at hs; omega⟩
      have := h3 k hk
      rw [Addr.add_add] at this
      rw [this]
      match k, hk with
      | 0, _ => rfl
      | 1, _ => rfl
      | 2, _ => rfl
      | 3, _ => rfl
      | 4, _ => rfl
    refine ⟨some a, len, cap, fun i => if h : i < len then Classical.choose (hex i h) else zIns, rfl, ?_, by omega, fun j hj => ?_⟩
    · by_cases h0 : len = 0
      · exact .inl h0
      · obtain ⟨ab, ao, spot⟩ := a
        have c0 := (Classical.choose_spec (hex 0 (by omega))).1 0 (by omega)
        have hspot : spot = none := by simpa [Addr.add] using World.cell?_spot c0
        subst hspot
        rw [Addr.add_lit] at c0
        refine .inr ⟨ab, ao, rfl, World.block_lt_of_cell? W _ c0, fun j i hj hi => ?_⟩
        have := (Classical.choose_spec (hex j hj)).1 i hi
        rw [Addr.add_lit] at this
        simp only [dif_pos hj, Nat.add_assoc]
        exact this
    · simp only [dif_pos hj]
      exact (Classical.choose_spec (hex j hj)).2



end Go.Proofs.YtlmjbflnfpccdaaDoor
