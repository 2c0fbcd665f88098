/- A state's machine is a machine of memory of its own with the state's numbers. The laws' helpers over machines: compare, mark, test, measure, copy. -/
import Derived.Test.YtjeflaodeafhbaaDoorG30
import Derived.Test.YtjeflaodeafhbaaDoorG50
namespace Go.Proofs.YtjeflaodeafhbaaDoor
open Go.RowKit
/-- A state as a value. -/
abbrev SV (at' : Int) (f1 f2 : Nat → Int) : Value := .agg #[.int .i64 at', .int .i64 (f1 0), .int .i64 (f1 1), .int .i64 (f1 2), .int .i64 (f1 3), .int .i64 (f2 0), .int .i64 (f2 1), .int .i64 (f2 2), .int .i64 (f2 3), .int .i64 (f2 4), .int .i64 (f2 5), .int .i64 (f2 6), .int .i64 (f2 7)]
/-- What the region of 'machine' keeps: the state's numbers, and a block for the result. -/
structure MS (s r : Nat) (f1 f2 : Nat → Int) (w : World) : Prop where
  n1 : Nums w (some ⟨s, 1, none⟩) 4 f1
  n2 : Nums w (some ⟨s, 5, none⟩) 8 f2
  blk : ∃ x y z, Holds5 w r 29 #[x, y, z]
theorem MS.grown {s r : Nat} {f1 f2 : Nat → Int} {w w' : World} (h : MS s r f1 f2 w) (hg : w.grownBy w' none) : MS s r f1 f2 w' := by
  obtain ⟨x, y, z, hb⟩ := h.blk
  exact ⟨h.n1.grown hg (by intro _ _ _ e; cases e), h.n2.grown hg (by intro _ _ _ e; cases e), x, y, z, hb.grown hg (by intro e; cases e)⟩
theorem MS.put {s r : Nat} {f1 f2 : Nat → Int} {w : World} (h : MS s r f1 f2 w) (hne : s ≠ r) (x y z : Value) : MS s r f1 f2 (((w.setCell ⟨r, 0, none⟩ x).setCell ⟨r, 1, none⟩ y).setCell ⟨r, 2, none⟩ z) := by
  have hf : ∀ (w : World) (o : Nat) (u : Value), Nums w (some ⟨s, 1, none⟩) 4 f1 → Nums (w.setCell ⟨r, o, none⟩ u) (some ⟨s, 1, none⟩) 4 f1 := fun w o u h => h.grown (w' := w.setCell ⟨r, o, none⟩ u) (row := some r) ⟨rfl, rfl, rfl, by simp, fun k _ hk => heap_setCell_other w ⟨r, o, none⟩ k u (fun e => hk (by simp [e]))⟩ (by
    intro b off e1 e2
    injection e1 with e1
    injection e1 with e1
    injection e2 with e2
    omega)
  have hf' : ∀ (w : World) (o : Nat) (u : Value), Nums w (some ⟨s, 5, none⟩) 8 f2 → Nums (w.setCell ⟨r, o, none⟩ u) (some ⟨s, 5, none⟩) 8 f2 := fun w o u h => h.grown (w' := w.setCell ⟨r, o, none⟩ u) (row := some r) ⟨rfl, rfl, rfl, by simp, fun k _ hk => heap_setCell_other w ⟨r, o, none⟩ k u (fun e => hk (by simp [e]))⟩ (by
    intro b off e1 e2
    injection e1 with e1
    injection e1 with e1
    injection e2 with e2
    omega)
  obtain ⟨a, b, c, hb⟩ := h.blk
  refine ⟨hf _ _ _ (hf _ _ _ (hf _ _ _ h.n1)), hf' _ _ _ (hf' _ _ _ (hf' _ _ _ h.n2)), x, y, z, ?_⟩
  have := ((hb.put 0 x).put 1 y).put 2 z
  simpa using this
theorem MS.drew {s r : Nat} {f1 f2 : Nat → Int} {w : World} (h : MS s r f1 f2 w) : MS s r f1 f2 w.drew := ⟨h.n1, h.n2, h.blk⟩
theorem cell_drew {w : World} {a : Addr} {v : Value} (h : w.cell? a = some v) : w.drew.cell? a = some v := h
theorem Own.far {w : World} {B g n c r : Nat} {f : Nat → Int} (h : Own w B (some ⟨g, 0, none⟩) n c f) (hne : g ≠ r) (o : Nat) (u : Value) : Own (w.setCell ⟨r, o, none⟩ u) B (some ⟨g, 0, none⟩) n c f :=
  World.ownsRow.kept h (grown_set r o u) (.inr (by
    show some g ≠ some r
    simpa using hne))
theorem grown_put {a w : World} (h : a.grownBy w none) {r : Nat} (hr : a.heap.size ≤ r) (o : Nat) (u : Value) : a.grownBy (w.setCell ⟨r, o, none⟩ u) none := grown_then h (grown_set r o u) hr
theorem Own.on {w w' : World} {B g n c : Nat} {f : Nat → Int} (h : Own w B (some ⟨g, 0, none⟩) n c f) (hg : w.grownBy w' none) : Own w' B (some ⟨g, 0, none⟩) n c f :=
  World.ownsRow.kept h hg (.inr (by
    show some g ≠ none
    simp))
theorem state_nums {w : World} {s : Nat} {t : TypeId} {at' : Int} {f1 f2 : Nat → Int} (h : Holds5 w s t #[.int .i64 at', .int .i64 (f1 0), .int .i64 (f1 1), .int .i64 (f1 2), .int .i64 (f1 3), .int .i64 (f2 0), .int .i64 (f2 1), .int .i64 (f2 2), .int .i64 (f2 3), .int .i64 (f2 4), .int .i64 (f2 5), .int .i64 (f2 6), .int .i64 (f2 7)]) : Nums w (some ⟨s, 1, none⟩) 4 f1 ∧ Nums w (some ⟨s, 5, none⟩) 8 f2 := by
  refine ⟨.inr ⟨s, 1, rfl, h.inside, fun j hj => ?_⟩, .inr ⟨s, 5, rfl, h.inside, fun j hj => ?_⟩⟩
  · rw [h.look]
    match j, hj with
    | 0, _ => rfl
    | 1, _ => rfl
    | 2, _ => rfl
    | 3, _ => rfl
  · rw [h.look]
    match j, hj with
    | 0, _ => rfl
    | 1, _ => rfl
    | 2, _ => rfl
    | 3, _ => rfl
    | 4, _ => rfl
    | 5, _ => rfl
    | 6, _ => rfl
    | 7, _ => rfl
set_option maxHeartbeats 2000000 in
theorem stateMachine_any (at' : Int) (f1 f2 : Nat → Int) (w : World) : Calls Tryd.prog 47 #[SV at' f1 f2] w (MachOk w at' 4 8 f1 f2) := by
  obtain ⟨W1, hW1⟩ : ∃ W1 : World, (w.alloc (.cells #[.int .i64 at', .int .i64 (f1 0), .int .i64 (f1 1), .int .i64 (f1 2), .int .i64 (f1 3), .int .i64 (f2 0), .int .i64 (f2 1), .int .i64 (f2 2), .int .i64 (f2 3), .int .i64 (f2 4), .int .i64 (f2 5), .int .i64 (f2 6), .int .i64 (f2 7)] 53)).alloc (.cells #[.int .i64 0, .slice none 0 0, .slice none 0 0] 29) = W1 := ⟨_, rfl⟩
  have hR0 : MS w.heap.size (w.heap.size + 1) f1 f2 W1.drew := by
    have H0 := (Holds5.fresh w 53 #[.int .i64 at', .int .i64 (f1 0), .int .i64 (f1 1), .int .i64 (f1 2), .int .i64 (f1 3), .int .i64 (f2 0), .int .i64 (f2 1), .int .i64 (f2 2), .int .i64 (f2 3), .int .i64 (f2 4), .int .i64 (f2 5), .int .i64 (f2 6), .int .i64 (f2 7)]).alloc (.cells #[.int .i64 0, .slice none 0 0, .slice none 0 0] 29)
    have h := Holds5.fresh (w.alloc (.cells #[.int .i64 at', .int .i64 (f1 0), .int .i64 (f1 1), .int .i64 (f1 2), .int .i64 (f1 3), .int .i64 (f2 0), .int .i64 (f2 1), .int .i64 (f2 2), .int .i64 (f2 3), .int .i64 (f2 4), .int .i64 (f2 5), .int .i64 (f2 6), .int .i64 (f2 7)] 53)) 29 #[.int .i64 0, .slice none 0 0, .slice none 0 0]
    rw [World.size_alloc] at h
    rw [hW1] at h H0
    exact MS.drew ⟨(state_nums H0).1, (state_nums H0).2, _, _, _, h⟩
  have hA0 : W1.drew.cell? ⟨w.heap.size, 0, none⟩ = some (.int .i64 at') := by
    have H0 := (Holds5.fresh w 53 #[.int .i64 at', .int .i64 (f1 0), .int .i64 (f1 1), .int .i64 (f1 2), .int .i64 (f1 3), .int .i64 (f2 0), .int .i64 (f2 1), .int .i64 (f2 2), .int .i64 (f2 3), .int .i64 (f2 4), .int .i64 (f2 5), .int .i64 (f2 6), .int .i64 (f2 7)]).alloc (.cells #[.int .i64 0, .slice none 0 0, .slice none 0 0] 29)
    rw [hW1] at H0
    exact cell_drew (H0.look 0)
  have hG0 : w.grownBy W1.drew none := by
    rw [← hW1]
    exact grown_drewN (grown_same (World.grownBy_alloc _ _ _) (World.grownBy_alloc _ _ _)) 1
  have hsz : W1.drew.heap.size = w.heap.size + 2 := by
    rw [← hW1]
    show (World.alloc _ _).heap.size = _
    rw [World.size_alloc, World.size_alloc]
  have HA0 := shade hA0
  have HR0 := shade hR0
  have HG0 := shade hG0
  have HSZ := shade hsz
  have HW1 := shade hW1
  clear hR0 hA0 hG0 hsz hW1
  go_enter Tryd.func47, Tryd.ntmps47
  go_wp2_with fail
  rw [HW1.out]
  clear HW1
  go_region_held3 (fun w' => w'.cell? ⟨w.heap.size, 0, none⟩ = some (.int .i64 at') ∧ MS w.heap.size (w.heap.size + 1) f1 f2 w') (first | exact ⟨HA0.out, HR0.out⟩ | exact ⟨hA1, hS1⟩ | exact ⟨hA2, hS2⟩ | exact ⟨(World.cell?_setCell_far _ _ _ _ (by simp)).trans ((World.cell?_setCell_far _ _ _ _ (by simp)).trans ((World.cell?_setCell_far _ _ _ _ (by simp)).trans hA2)), MS.put hS2 (by omega) _ _ _⟩)
    (first
      | (have hq := hS1.n2; go_at_call 74; refine (clone_at w.heap.size 5 8 _ f2 _ (by omega) (by omega) hq).mono ?_; rintro e w2 ⟨g2, c2, rfl, ho2, hgr2⟩; have hS2 := hS1.grown hgr2; have hA2 := hgr2.cell hA1 (by simp); obtain ⟨x, y, z, hb⟩ := hS2.blk; have b0 := hb.look 0; have b1 := hb.look 1; have b2 := hb.look 2; have f0 := hb.free 0; have f1' := hb.free 1; have f2' := hb.free 2; simp at b0 b1 b2)
      | (go_at_call 74; refine (clone_at w.heap.size 1 4 _ f1 _ (by omega) (by omega) HR0.out.n1).mono ?_; rintro e w1 ⟨g1, c1, rfl, ho1, hgr1⟩; have hS1 := HR0.out.grown hgr1; have hA1 := hgr1.cell HA0.out (by simp)))
  rename_i hHeld
  clear hHeld
  have hH := ((hb.put 0 (.int .i64 at')).put 1 (.slice (some ⟨g1, 0, none⟩) 4 c1)).put 2 (.slice (some ⟨g2, 0, none⟩) 8 c2)
  simp at hH
  have l1 := ho1.lt
  have l2 := ho2.lt
  have hsz := HSZ.out
  have e1 := hgr1.size
  have HG := shade (grown_put (r := w.heap.size + 1) (grown_put (r := w.heap.size + 1) (grown_put (r := w.heap.size + 1) (grown_same (grown_same HG0.out hgr1) hgr2) (by omega) 0 (.int .i64 at')) (by omega) 1 (.slice (some ⟨g1, 0, none⟩) 4 c1)) (by omega) 2 (.slice (some ⟨g2, 0, none⟩) 8 c2))
  have HO1 := shade (((((ho1.on hgr2).lower (B' := w.heap.size) (by omega)).far (r := w.heap.size + 1) (by omega) 0 (.int .i64 at')).far (r := w.heap.size + 1) (by omega) 1 (.slice (some ⟨g1, 0, none⟩) 4 c1)).far (r := w.heap.size + 1) (by omega) 2 (.slice (some ⟨g2, 0, none⟩) 8 c2))
  have HO2 := shade ((((ho2.lower (B' := w.heap.size) (by omega)).far (r := w.heap.size + 1) (by omega) 0 (.int .i64 at')).far (r := w.heap.size + 1) (by omega) 1 (.slice (some ⟨g1, 0, none⟩) 4 c1)).far (r := w.heap.size + 1) (by omega) 2 (.slice (some ⟨g2, 0, none⟩) 8 c2))
  have hne : g1 ≠ g2 := by omega
  clear hgr1 hgr2 ho1 ho2 hS1 hS2 hA1 hA2 hq hb b0 b1 b2 f0 f1' f2' HA0 HR0 HG0
  go_wp2_with fail
  refine bodyPost_ret (results_cell_row rfl _ _ _ _ _ (0, 0) _ rfl hH Tryd.underlying29 rfl (by kernel_rfl)) rfl ?_
  exact ⟨g1, c1, g2, c2, rfl, hne, HO1.out, HO2.out, HG.out⟩

end Go.Proofs.YtjeflaodeafhbaaDoor
namespace Go.Proofs.YtjeflaodeafhbaaDoor
open Go.RowKit
/-- Only the blocks g1 and g2 may have changed. -/
structure But (w w' : World) (g1 g2 : Nat) : Prop where
  os : w'.os = w.os
  tape : w'.tape = w.tape
  output : w'.output = w.output
  size : w.heap.size ≤ w'.heap.size
  block : ∀ i, i < w.heap.size → i ≠ g1 → i ≠ g2 → w'.heap[i]? = w.heap[i]?
theorem But.of1 {w w' : World} {g1 : Nat} (g2 : Nat) (h : w.grownBy w' (some g1)) : But w w' g1 g2 := ⟨h.os, h.tape, h.output, h.size, fun i hi h1 _ => h.block i hi (by simpa using h1)⟩
theorem But.of2 {w w' : World} (g1 : Nat) {g2 : Nat} (h : w.grownBy w' (some g2)) : But w w' g1 g2 := ⟨h.os, h.tape, h.output, h.size, fun i hi _ h1 => h.block i hi (by simpa using h1)⟩
theorem But.of {w w' : World} (g1 g2 : Nat) (h : w.grownBy w' none) : But w w' g1 g2 := ⟨h.os, h.tape, h.output, h.size, fun i hi _ _ => h.block i hi (by simp)⟩
theorem But.trans {a b c : World} {g1 g2 : Nat} (h : But a b g1 g2) (h' : But b c g1 g2) : But a c g1 g2 :=
  ⟨h'.os.trans h.os, h'.tape.trans h.tape, h'.output.trans h.output, Nat.le_trans h.size h'.size, fun i hi h1 h2 => (h'.block i (Nat.lt_of_lt_of_le hi h.size) h1 h2).trans (h.block i hi h1 h2)⟩
theorem But.below {w w' : World} {g1 g2 B : Nat} (h : But w w' g1 g2) (h1 : B ≤ g1) (h2 : B ≤ g2) (hB : B ≤ w.heap.size) : Below B w w' := ⟨h.os, h.tape, h.output, h.size, fun i hi => h.block i (by omega) (by omega) (by omega)⟩
theorem But.holds {w w' : World} {g1 g2 g : Nat} {t : TypeId} {cs : Array Value} (h : But w w' g1 g2) (hh : Holds5 w g t cs) (h1 : g ≠ g1) (h2 : g ≠ g2) : Holds5 w' g t cs := (h.block g hh.inside h1 h2).trans hh
theorem But.nums {w w' : World} {g1 g2 : Nat} {A : Option Addr} {n : Nat} {f : Nat → Int} (h : But w w' g1 g2) (hh : Nums w A n f) (hne : ∀ b off, A = some ⟨b, off, none⟩ → b ≠ g1 ∧ b ≠ g2) : Nums w' A n f := by
  rcases hh with hh | ⟨b, off, hA, hlt, hc⟩
  · exact .inl hh
  · obtain ⟨n1, n2⟩ := hne b off hA
    exact .inr ⟨b, off, hA, Nat.lt_of_lt_of_le hlt h.size, fun j hj => (World.cell?_of_block (a := ⟨b, off + j, none⟩) (h.block b hlt n1 n2)).trans (hc j hj)⟩


/-- What a slice's block is: below the heap's size, if it has elements. -/
theorem Nums.ne {w : World} {A : Option Addr} {n : Nat} {f : Nat → Int} (h : Nums w A n f) (o : Obj) : Nums (w.alloc o) A n f := h.alloc o
end Go.Proofs.YtjeflaodeafhbaaDoor