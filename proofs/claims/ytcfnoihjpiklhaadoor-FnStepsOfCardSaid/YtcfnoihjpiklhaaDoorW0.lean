/- Small facts on blocks of memory that the walks share; no conditions. -/
import Derived.Test.YtcfnoihjpiklhaaDoorChecked
import Derived.WalkKit
import Derived.WalkSpells
import Derived.WalkLawsBesides
import Derived.Handy
import Derived.Below
import Derived.Deep.Draws
import Derived.Laws.Rows
namespace Go.Proofs.YtcfnoihjpiklhaaDoor
open Go.RowKit
/-- Keeps a fact from the walk's rules. -/
theorem shade {p : Prop} (h : p) : Hid p := h
theorem Hid.bare {p : Prop} (h : Hid p) : p := h
/-- Block g holds just these cells, and may be written. -/
def Holds5 (w : World) (g : Nat) (t : TypeId) (cs : Array Value) : Prop := w.heap[g]? = some (.cells cs t (0, 0))
section
variable {w w' : World} {g : Nat} {t : TypeId} {cs : Array Value}
theorem Holds5.inside (h : Holds5 w g t cs) : g < w.heap.size := by
  unfold Holds5 at h
  by_cases hl : g < w.heap.size
  · exact hl
  · rw [Array.getElem?_eq_none (by omega)] at h
    exact absurd h (by simp)
theorem Holds5.look (h : Holds5 w g t cs) (i : Nat) : w.cell? ⟨g, i, none⟩ = cs[i]? := cell_of_row w g i cs t (0, 0) h
theorem Holds5.free (h : Holds5 w g t cs) (i : Nat) : w.frozen? ⟨g, i, none⟩ = false := by
  have h' : w.heap[g]? = some (.cells cs t (0, 0)) := h
  simp [World.frozen?, h']
theorem Holds5.fresh (w : World) (t : TypeId) (cs : Array Value) : Holds5 (w.alloc (.cells cs t)) w.heap.size t cs := heap_alloc_new w _
theorem Holds5.alloc (h : Holds5 w g t cs) (o : Obj) : Holds5 (w.alloc o) g t cs := (Below.heap_alloc w o g h.inside).trans h
theorem Holds5.drew (h : Holds5 w g t cs) : Holds5 w.drew g t cs := h
theorem Holds5.drewN (h : Holds5 w g t cs) (n : Nat) : Holds5 (w.drewN n) g t cs := h
theorem Holds5.put (h : Holds5 w g t cs) (i : Nat) (u : Value) : Holds5 (w.setCell ⟨g, i, none⟩ u) g t (cs.setIfInBounds i u) := by
  have h' : w.heap[g]? = some (.cells cs t (0, 0)) := h
  show (w.setCell ⟨g, i, none⟩ u).heap[g]? = _
  simp [World.setCell, Array.getElem?_modify, h']
theorem Holds5.other (h : Holds5 w g t cs) {p : Addr} (hp : g ≠ p.block) (u : Value) : Holds5 (w.setCell p u) g t cs := (Below.heap_setCell w p u g hp).trans h
theorem Holds5.below {B : Nat} (h : Holds5 w g t cs) (hb : Below B w w') (hg : g < B) : Holds5 w' g t cs := (hb.block g hg).trans h
theorem Holds5.grown {row : Option Nat} (h : Holds5 w g t cs) (hb : w.grownBy w' row) (hg : some g ≠ row) : Holds5 w' g t cs := (hb.block g h.inside hg).trans h
theorem Holds5.five {x0 x1 x2 x3 x4 : Value} (h : Holds5 w g t #[x0, x1, x2, x3, x4]) (y0 y1 y2 y3 y4 : Value) :
    Holds5 (((((w.setCell ⟨g, 0, none⟩ y0).setCell ⟨g, 1, none⟩ y1).setCell ⟨g, 2, none⟩ y2).setCell ⟨g, 3, none⟩ y3).setCell ⟨g, 4, none⟩ y4) g t #[y0, y1, y2, y3, y4] := by
  simpa using ((((h.put 0 y0).put 1 y1).put 2 y2).put 3 y3).put 4 y4
end
end Go.Proofs.YtcfnoihjpiklhaaDoor
