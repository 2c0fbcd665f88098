/- Ticks and waits while they are made: what the world holds, and what changes it. -/
import Derived.Test.YtblnchcgeepemaaDoorW961
import Derived.Test.YtblnchcgeepemaaDoorW957
namespace Go.Proofs.YtblnchcgeepemaaDoor
open Go.RowKit
/-- What lies in a cell. -/
def cellV (W : World) (a : Addr) : Value := (W.cell? a).getD undef
theorem cellV_is {W : World} {a : Addr} {v : Value} (h : W.cell? a = some v) : W.cell? a = some (cellV W a) := by
  unfold cellV
  rw [h]
  rfl
theorem cellV_eq {W : World} {a : Addr} {v : Value} (h : W.cell? a = some v) : cellV W a = v := by
  unfold cellV
  rw [h]
  rfl
theorem own_not_held {W : World} {B : Nat} {e t : TypeId} {z : Nat} {v : Value} {n : Nat} {xs : List Value} {g : Nat} {cs : Array Value} (h : W.ownsRow B e z v n xs) (h' : Holds5 W g t cs) (ht : e ≠ t) : v.ownBlock ≠ some g := by
  intro hb
  rcases h.2 with ⟨e1, h0⟩ | ⟨g', c, cur, e1, _, hw, _⟩
  · rw [e1] at hb
    cases hb
  · rw [e1] at hb
    have a1 : g' = g := by injection hb
    subst a1
    unfold Holds5 at h'
    rw [hw] at h'
    injection h' with h1
    injection h1 with h2 h3
    exact ht h3
section
variable {wr w2 : World} {lo hi : Nat} {v : Value} {K : Nat} {AS : Nat → Value} {len len' : Nat → Nat} {R : Nat → Nat → Int}
/-- Another block than those of the rows may change. -/
theorem Rws.but {row : Option Nat} (h : Rws wr lo hi v K AS len R) (hg : wr.grownBy w2 row) (hv : v.ownBlock = none ∨ v.ownBlock ≠ row) (hr : ∀ j, j < K → (AS j).ownBlock = none ∨ (AS j).ownBlock ≠ row) : Rws w2 lo hi v K AS len R :=
  ⟨⟨World.ownsRow.kept h.out.own hg hv, h.out.hib⟩, fun j hj => ⟨World.ownsRow.kept (h.row j hj).own hg (hr j hj), (h.row j hj).hib⟩, h.sep⟩
/-- One row becomes longer. -/
theorem Rws.app {g c : Nat} (h : Rws wr lo hi (.slice (some ⟨g, 0, none⟩) K c) K AS len R) (hhi : hi ≤ wr.heap.size) {u : Value} {k : Nat} (hk : k < K) (hu : w2.ownsRow lo 3 1 u (len' k) (numL (len' k) (R k)))
    (hub : ∀ b, u.ownBlock = some b → (AS k).ownBlock = some b ∨ wr.heap.size ≤ b) (hg : wr.grownBy w2 (AS k).ownBlock) (hL : ∀ j, j < K → j ≠ k → len' j = len j) : Rws (w2.setCell ⟨g, k, none⟩ u) lo w2.heap.size (.slice (some ⟨g, 0, none⟩) K c) K (fun j => if j = k then u else AS j) len' R := by
  have hs := hg.size
  have hgb : (Value.slice (some ⟨g, 0, none⟩) K c).ownBlock = some g := rfl
  have hgl : g < wr.heap.size := (World.ownsRow.lt h.out.own g hgb).2
  have hold : ∀ j b, j < K → (AS j).ownBlock = some b → b < wr.heap.size ∧ b ≠ g := fun j b hj hb => by
    refine ⟨?_, fun e => rows_other h.out.own (h.row j hj).own (by decide) hgb (by rw [hb, e])⟩
    have := ((h.row j hj).rng hb).2
    omega
  have hout : w2.ownsRow lo 25 1 (.slice (some ⟨g, 0, none⟩) K c) K ((List.range K).map AS) := World.ownsRow.kept h.out.own hg (.inr (fun e => by
    rw [hgb] at e
    exact (hold k g hk e.symm).2 rfl))
  have hst := (World.ownsRow.stored hout k u).1
  have hgs : w2.grownBy (w2.setCell ⟨g, k, none⟩ u) (some g) := grown_set g k u
  have hmap : (List.range K).map (fun j => if j = k then u else AS j) = ((List.range K).map AS).set k u := by
    apply List.ext_getElem?
    intro j
    by_cases e : k = j
    · subst e
      rw [List.getElem?_set_self (by simpa using hk)]
      simp [hk]
    · rw [List.getElem?_set_ne e]
      by_cases hj : j < K
      · simp [hj, show ¬ j = k from fun e' => e e'.symm]
      · simp [hj]
  have hun : ∀ b, u.ownBlock = some b → b ≠ g ∧ b < w2.heap.size := fun b hb => by
    refine ⟨?_, (World.ownsRow.lt hu b hb).2⟩
    rcases hub b hb with h1 | h1
    · exact (hold k b hk h1).2
    · omega
  refine ⟨⟨by rw [hmap]; exact hst, fun i hi' => ?_⟩, fun j hj => ?_, fun i j b hi' hj e1 e2 => ?_⟩
  · have := (h.out.rng hi').2
    omega
  · by_cases e : j = k
    · subst e
      show RowO _ lo w2.heap.size 3 (if j = j then u else AS j) (len' j) (numL (len' j) (R j))
      rw [if_pos rfl]
      refine ⟨World.ownsRow.kept hu hgs ?_, fun i hi' => (hun i hi').2⟩
      rcases eu : u.ownBlock with _ | b
      · exact .inl rfl
      · exact .inr (fun e' => by
          injection e' with e'
          exact (hun b eu).1 e')
    · show RowO _ lo w2.heap.size 3 (if j = k then u else AS j) (len' j) (numL (len' j) (R j))
      rw [if_neg e, hL j hj e]
      have h2 : w2.ownsRow lo 3 1 (AS j) (len j) (numL (len j) (R j)) := by
        refine World.ownsRow.kept (h.row j hj).own hg ?_
        rcases eb : (AS j).ownBlock with _ | b
        · exact .inl rfl
        · exact .inr (fun e' => e (h.sep j k b hj hk eb e'.symm))
      refine ⟨World.ownsRow.kept h2 hgs ?_, fun i hi' => ?_⟩
      · rcases eb : (AS j).ownBlock with _ | b
        · exact .inl rfl
        · exact .inr (fun e' => by
            injection e' with e'
            exact (hold j b hj eb).2 e')
      · have := (hold j i hj hi').1
        omega
  · have e1' : (if i = k then u else AS i).ownBlock = some b := e1
    have e2' : (if j = k then u else AS j).ownBlock = some b := e2
    by_cases ei : i = k
    · by_cases ej : j = k
      · omega
      · rw [if_pos ei] at e1'
        rw [if_neg ej] at e2'
        rcases hub b e1' with h1 | h1
        · have := h.sep j k b hj hk e2' h1
          omega
        · have := (hold j b hj e2').1
          omega
    · by_cases ej : j = k
      · rw [if_pos ej] at e2'
        rw [if_neg ei] at e1'
        rcases hub b e2' with h1 | h1
        · have := h.sep i k b hi' hk e1' h1
          omega
        · have := (hold i b hi' e1').1
          omega
      · rw [if_neg ei] at e1'
        rw [if_neg ej] at e2'
        exact h.sep i j b hi' hj e1' e2'
end
/-- The ticks of an instruction of a row. -/
def latF (F : Nat → Ins) (i : Nat) : Int := lat (F i).op.toList
/-- Ticks and waits while they are made. -/
structure Bfs (w wr : World) (Bb g n t : Nat) (tv : Value) (AS : Nat → Value) (len : Nat → Nat) (F : Nat → Ins) : Prop where
  box : Holds5 wr Bb 41 #[tv, .slice (some ⟨g, 0, none⟩) n n]
  tk : wr.ownsRow w.heap.size 3 1 tv t (numL t (latF F))
  ws : Rws wr w.heap.size wr.heap.size (.slice (some ⟨g, 0, none⟩) n n) n AS len (wtR F)
  sep : ∀ j b, j < n → tv.ownBlock = some b → (AS j).ownBlock ≠ some b
  low : w.grownBy wr none
section
variable {w wr w2 : World} {Bb g n t : Nat} {tv : Value} {AS : Nat → Value} {len len' : Nat → Nat} {F : Nat → Ins}
theorem Bfs.grown (h : Bfs w wr Bb g n t tv AS len F) (hg : wr.grownBy w2 none) : Bfs w w2 Bb g n t tv AS len F :=
  ⟨h.box.grown hg (by intro e; cases e), ownsRow_on h.tk hg, (h.ws.grown hg).lower (Nat.le_refl _) hg.size, h.sep, grown_same h.low hg⟩
theorem Bfs.tkne (h : Bfs w wr Bb g n t tv AS len F) : tv.ownBlock ≠ some Bb ∧ tv.ownBlock ≠ some g ∧ g ≠ Bb := by
  refine ⟨own_not_held h.tk h.box (by decide), fun e => rows_other h.tk h.ws.out.own (by decide) e rfl, fun e => own_not_held h.ws.out.own h.box (by decide) (by rw [e]; rfl)⟩
theorem Bfs.rowne (h : Bfs w wr Bb g n t tv AS len F) {j : Nat} (hj : j < n) : (AS j).ownBlock ≠ some Bb ∧ (AS j).ownBlock ≠ some g := by
  refine ⟨own_not_held (h.ws.row j hj).own h.box (by decide), fun e => rows_other (h.ws.row j hj).own h.ws.out.own (by decide) e rfl⟩
theorem Bfs.blk (h : Bfs w wr Bb g n t tv AS len F) : w.heap.size ≤ g ∧ g < wr.heap.size := World.ownsRow.lt h.ws.out.own g rfl
/-- One tick more. -/
theorem Bfs.tick (h : Bfs w wr Bb g n t tv AS len F) (hB : w.heap.size ≤ Bb) {u : Value} (hu : w2.ownsRow w.heap.size 3 1 u (t + 1) (numL (t + 1) (latF F))) (hub : ∀ b, u.ownBlock = some b → tv.ownBlock = some b ∨ wr.heap.size ≤ b) (hg : wr.grownBy w2 tv.ownBlock) :
    Bfs w (w2.setCell ⟨Bb, 0, none⟩ u) Bb g n (t + 1) u AS len F := by
  obtain ⟨n1, n2, n3⟩ := h.tkne
  have hgs : w2.grownBy (w2.setCell ⟨Bb, 0, none⟩ u) (some Bb) := grown_set Bb 0 u
  have hbx := (h.box.grown hg (fun e => n1 e.symm)).put 0 u
  simp at hbx
  have hbl := h.box.inside
  have hun : ∀ b, u.ownBlock = some b → b ≠ Bb := fun b hb e => by
    rcases hub b hb with h1 | h1
    · exact n1 (by rw [h1, e])
    · omega
  have hw2 := h.ws.but hg (.inr (fun e => n2 e.symm)) (fun j hj => by
    rcases eb : (AS j).ownBlock with _ | b
    · exact .inl rfl
    · exact .inr (fun e' => h.sep j b hj e'.symm eb))
  have hw3 := hw2.but hgs (.inr (fun e => by
    have e' : some g = some Bb := e
    injection e' with e'
    exact n3 e')) (fun j hj => .inr (h.rowne hj).1)
  refine ⟨hbx, World.ownsRow.kept hu hgs ?_, hw3.lower (Nat.le_refl _) (Nat.le_trans hg.size hgs.size), fun j b hj hb e => ?_, ?_⟩
  · rcases eu : u.ownBlock with _ | b
    · exact .inl rfl
    · exact .inr (fun e' => by
        injection e' with e'
        exact hun b eu e')
  · rcases hub b hb with h1 | h1
    · exact h.sep j b hj h1 e
    · have := (h.ws.row j hj).hib b e
      omega
  · refine grown_then (grown_row' h.low hg (fun r e => (World.ownsRow.lt h.tk r e).1)) hgs hB
/-- One number more in a row. -/
theorem Bfs.wait (h : Bfs w wr Bb g n t tv AS len F) {u : Value} {k : Nat} (hk : k < n) (hu : w2.ownsRow w.heap.size 3 1 u (len' k) (numL (len' k) (wtR F k))) (hub : ∀ b, u.ownBlock = some b → (AS k).ownBlock = some b ∨ wr.heap.size ≤ b) (hg : wr.grownBy w2 (AS k).ownBlock)
    (hL : ∀ j, j < n → j ≠ k → len' j = len j) : Bfs w (w2.setCell ⟨g, k, none⟩ u) Bb g n t tv (fun j => if j = k then u else AS j) len' F := by
  obtain ⟨n1, n2, n3⟩ := h.tkne
  have hgs : w2.grownBy (w2.setCell ⟨g, k, none⟩ u) (some g) := grown_set g k u
  have hr := h.rowne hk
  refine ⟨(h.box.grown hg (fun e => hr.1 e.symm)).grown hgs (fun e => by
      injection e with e
      exact n3 e.symm), ?_, (h.ws.app (Nat.le_refl _) hk hu hub hg hL).lower (Nat.le_refl _) hgs.size, fun j b hj hb e => ?_, ?_⟩
  · refine World.ownsRow.kept (World.ownsRow.kept h.tk hg ?_) hgs (.inr n2)
    rcases eb : tv.ownBlock with _ | b
    · exact .inl rfl
    · exact .inr (fun e' => h.sep k b hk eb e'.symm)
  · have e' : (if j = k then u else AS j).ownBlock = some b := e
    by_cases ej : j = k
    · rw [if_pos ej] at e'
      rcases hub b e' with h1 | h1
      · exact h.sep k b hk hb h1
      · have := (World.ownsRow.lt h.tk b hb).2
        omega
    · rw [if_neg ej] at e'
      exact h.sep j b hj hb e'
  · refine grown_then (grown_row' h.low hg (fun r e => ((h.ws.row k hk).rng e).1)) hgs h.blk.1
theorem Bfs.congr (h : Bfs w wr Bb g n t tv AS len F) (hl : ∀ j, j < n → len j = len' j) : Bfs w wr Bb g n t tv AS len' F :=
  ⟨h.box, h.tk, ⟨h.ws.out, fun j hj => by rw [← hl j hj]; exact h.ws.row j hj, h.ws.sep⟩, h.sep, h.low⟩
/-- The cells that a round reads. -/
theorem Bfs.cells (h : Bfs w wr Bb g n t tv AS len F) : wr.cell? ⟨Bb, 0, none⟩ = some tv ∧ wr.cell? ⟨Bb, 1, none⟩ = some (.slice (some ⟨g, 0, none⟩) n n) ∧ wr.frozen? ⟨Bb, 0, none⟩ = false ∧ wr.frozen? ⟨Bb, 1, none⟩ = false := ⟨h.box.look 0, h.box.look 1, h.box.free 0, h.box.free 1⟩
theorem Bfs.rcell (h : Bfs w wr Bb g n t tv AS len F) {j : Nat} (hj : j < n) : wr.cell? ⟨g, j, none⟩ = some (AS j) ∧ wr.frozen? ⟨g, j, none⟩ = false := by
  refine ⟨?_, World.ownsRow.frozenAt h.ws.out.own j⟩
  have := World.ownsRow.cellAt h.ws.out.own j (by omega)
  rw [this]
  simp [hj]
theorem Bfs.outer (h : Bfs w wr Bb g n t tv AS len F) {row : Option Nat} (hg : wr.grownBy w2 row) (hne : some g ≠ row) {j : Nat} (hj : j < n) : w2.cell? ⟨g, j, none⟩ = some (AS j) ∧ w2.frozen? ⟨g, j, none⟩ = false := by
  have ho := World.ownsRow.kept h.ws.out.own hg (.inr hne)
  refine ⟨?_, World.ownsRow.frozenAt ho j⟩
  have := World.ownsRow.cellAt ho j (by omega)
  rw [this]
  simp [hj]
end
end Go.Proofs.YtblnchcgeepemaaDoor
