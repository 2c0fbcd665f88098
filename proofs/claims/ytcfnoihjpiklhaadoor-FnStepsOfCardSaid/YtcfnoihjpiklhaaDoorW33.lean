/- A state's machine is a machine of memory of its own with the state's numbers. -/
import Derived.Test.YtcfnoihjpiklhaaDoorW32
import Derived.Test.YtcfnoihjpiklhaaDoorW51
namespace Go.Proofs.YtcfnoihjpiklhaaDoor
open Go.RowKit
/-- A state as a value. -/
abbrev SV (at' : Int) (f1 f2 : Nat → Int) : Value := .agg #[.int .i64 at', .int .i64 (f1 0), .int .i64 (f1 1), .int .i64 (f1 2), .int .i64 (f1 3), .int .i64 (f2 0), .int .i64 (f2 1), .int .i64 (f2 2), .int .i64 (f2 3), .int .i64 (f2 4), .int .i64 (f2 5), .int .i64 (f2 6), .int .i64 (f2 7)]
/-- What the region of 'machine' keeps: the state's numbers, and a block for the result. -/
structure MS (s r : Nat) (f1 f2 : Nat → Int) (w : World) : Prop where
  n1 : Nums w (some ⟨s, 1, none⟩) 4 f1
  n2 : Nums w (some ⟨s, 5, none⟩) 8 f2
  blk : ∃ x y z, Holds5 w r 26 #[x, y, z]
theorem MS.grown {s r : Nat} {f1 f2 : Nat → Int} {w w' : World} (h : MS s r f1 f2 w) (hg : w.grownBy w' none) : MS s r f1 f2 w' := by
  obtain ⟨x, y, z, hb⟩ := h.blk
  exact ⟨h.n1.grown hg (by intro _ _ _ e; cases e), h.n2.grown hg (by intro _ _ _ e; cases e), x, y, z, hb.grown hg (by intro e; cases e)⟩
theorem MS.put {s r : Nat} {f1 f2 : Nat → Int} {w : World} (h : MS s r f1 f2 w) (hne : s ≠ r) (x y z : Value) : MS s r f1 f2 (((w.setCell ⟨r, 0, none⟩ x).setCell ⟨r, 1, none⟩ y).setCell ⟨r, 2, none⟩ z) := by
  have hf : ∀ (w : World) (o : Nat) (u : Value), Nums w (some ⟨s, 1, none⟩) 4 f1 → Nums (w.setCell ⟨r, o, none⟩ u) (some ⟨s, 1, none⟩) 4 f1 := fun w o u h => h.grown (w' := w.setCell ⟨r, o, none⟩ u) (row := some r) ⟨rfl, rfl, rfl, by simp, fun k _ hk => heap_setCell_other w ⟨r, o, none⟩ k u (fun e => hk (by simp [e]))⟩ (by
    intro b off e1 e2
    injection e1 with e1
    injection e1 with e1
    injection e2 with e2
    omega)
  have hf' : ∀ (w : World) (o : Nat) (u : Value), Nums w (some ⟨s, 5, none⟩) 8 f2 → Nums (w.setCell ⟨r, o, none⟩ u) (some ⟨s, 5, none⟩) 8 f2 := fun w o u h => h.grown (w' := w.setCell ⟨r, o, none⟩ u) (row := some r) ⟨rfl, rfl, rfl, by simp, fun k _ hk => heap_setCell_other w ⟨r, o, none⟩ k u (fun e => hk (by simp [e]))⟩ (by
    intro b off e1 e2
    injection e1 with e1
    injection e1 with e1
    injection e2 with e2
    omega)
  obtain ⟨a, b, c, hb⟩ := h.blk
  refine ⟨hf _ _ _ (hf _ _ _ (hf _ _ _ h.n1)), hf' _ _ _ (hf' _ _ _ (hf' _ _ _ h.n2)), x, y, z, ?_⟩
  have := ((hb.put 0 x).put 1 y).put 2 z
  simpa using this
theorem MS.drew {s r : Nat} {f1 f2 : Nat → Int} {w : World} (h : MS s r f1 f2 w) : MS s r f1 f2 w.drew := ⟨h.n1, h.n2, h.blk⟩
theorem cell_drew {w : World} {a : Addr} {v : Value} (h : w.cell? a = some v) : w.drew.cell? a = some v := h
theorem Own.far {w : World} {B g n c r : Nat} {f : Nat → Int} (h : Own w B (some ⟨g, 0, none⟩) n c f) (hne : g ≠ r) (o : Nat) (u : Value) : Own (w.setCell ⟨r, o, none⟩ u) B (some ⟨g, 0, none⟩) n c f :=
  World.ownsRow.kept h (grown_set r o u) (.inr (by
    show some g ≠ some r
    simpa using hne))
theorem grown_put {a w : World} (h : a.grownBy w none) {r : Nat} (hr : a.heap.size ≤ r) (o : Nat) (u : Value) : a.grownBy (w.setCell ⟨r, o, none⟩ u) none := grown_then h (grown_set r o u) hr
theorem Own.on {w w' : World} {B g n c : Nat} {f : Nat → Int} (h : Own w B (some ⟨g, 0, none⟩) n c f) (hg : w.grownBy w' none) : Own w' B (some ⟨g, 0, none⟩) n c f :=
  World.ownsRow.kept h hg (.inr (by
    show some g ≠ none
    simp))
theorem state_nums {w : World} {s : Nat} {t : TypeId} {at' : Int} {f1 f2 : Nat → Int} (h : Holds5 w s t #[.int .i64 at', .int .i64 (f1 0), .int .i64 (f1 1), .int .i64 (f1 2), .int .i64 (f1 3), .int .i64 (f2 0), .int .i64 (f2 1), .int .i64 (f2 2), .int .i64 (f2 3), .int .i64 (f2 4), .int .i64 (f2 5), .int .i64 (f2 6), .int .i64 (f2 7)]) : Nums w (some ⟨s, 1, none⟩) 4 f1 ∧ Nums w (some ⟨s, 5, none⟩) 8 f2 := by
  refine ⟨.inr ⟨s, 1, rfl, h.inside, fun j hj => ?_⟩, .inr ⟨s, 5, rfl, h.inside, fun j hj => ?_⟩⟩
  · rw [h.look]
    match j, hj with
    | 0, _ => rfl
    | 1, _ => rfl
    | 2, _ => rfl
    | 3, _ => rfl
  · rw [h.look]
    match j, hj with
    | 0, _ => rfl
    | 1, _ => rfl
    | 2, _ => rfl
    | 3, _ => rfl
    | 4, _ => rfl
    | 5, _ => rfl
    | 6, _ => rfl
    | 7, _ => rfl
end Go.Proofs.YtcfnoihjpiklhaaDoor