/- A state's machine is a machine of memory of its own with the state's numbers. The laws' helpers over machines: compare, mark, test, measure, copy. -/
import Derived.Test.YtkljjacailgdaaaDoorG30
import Derived.Test.YtkljjacailgdaaaDoorG50
namespace Go.Proofs.YtkljjacailgdaaaDoor
open Go.RowKit
/-- A state as a value. -/
abbrev SV (at' : Int) (f1 f2 : Nat → Int) : Value := .agg #[.int .i64 at', .int .i64 (f1 0), .int .i64 (f1 1), .int .i64 (f1 2), .int .i64 (f1 3), .int .i64 (f2 0), .int .i64 (f2 1), .int .i64 (f2 2), .int .i64 (f2 3), .int .i64 (f2 4), .int .i64 (f2 5), .int .i64 (f2 6), .int .i64 (f2 7)]
/-- What the region of 'machine' keeps: the state's numbers, and a block for the result. -/
structure MS (s r : Nat) (f1 f2 : Nat → Int) (w : World) : Prop where
  n1 : Nums w (some ⟨s, 1, none⟩) 4 f1
  n2 : Nums w (some ⟨s, 5, none⟩) 8 f2
  blk : ∃ x y z, Holds5 w r 31 #[x, y, z]
theorem MS.grown {s r : Nat} {f1 f2 : Nat → Int} {w w' : World} (h : MS s r f1 f2 w) (hg : w.grownBy w' none) : MS s r f1 f2 w' := by
  obtain ⟨x, y, z, hb⟩ := h.blk
  exact ⟨h.n1.grown hg (by intro _ _ _ e; cases e), h.n2.grown hg (by intro _ _ _ e; cases e), x, y, z, hb.grown hg (by intro e; cases e)⟩
theorem MS.put {s r : Nat} {f1 f2 : Nat → Int} {w : World} (h : MS s r f1 f2 w) (hne : s ≠ r) (x y z : Value) : MS s r f1 f2 (((w.setCell ⟨r, 0, none⟩ x).setCell ⟨r, 1, none⟩ y).setCell ⟨r, 2, none⟩ z) := by
  have hf : ∀ (w : World) (o : Nat) (u : Value), Nums w (some ⟨s, 1, none⟩) 4 f1 → Nums (w.setCell ⟨r, o, none⟩ u) (some ⟨s, 1, none⟩) 4 f1 := fun w o u h => h.grown (w' := w.setCell ⟨r, o, none⟩ u) (row := some r) ⟨rfl, rfl, rfl, by simp, fun k _ hk => heap_setCell_other w ⟨r, o, none⟩ k u (fun e => hk (by simp [e]))⟩ (by
    intro b off e1 e2
    injection e1 with e1
    injection e1 with e1
    injection e2 with e2
    omega)
  have hf' : ∀ (w : World) (o : Nat) (u : Value), Nums w (some ⟨s, 5, none⟩) 8 f2 → Nums (w.setCell ⟨r, o, none⟩ u) (some ⟨s, 5, none⟩) 8 f2 := fun w o u h => h.grown (w' := w.setCell ⟨r, o, none⟩ u) (row := some r) ⟨rfl, rfl, rfl, by simp, fun k _ hk => heap_setCell_other w ⟨r, o, none⟩ k u (fun e => hk (by simp [e]))⟩ (by
    intro b off e1 e2
    injection e1 with e1
    injection e1 with e1
    injection e2 with e2
    omega)
  obtain ⟨a, b, c, hb⟩ := h.blk
  refine ⟨hf _ _ _ (hf _ _ _ (hf _ _ _ h.n1)), hf' _ _ _ (hf' _ _ _ (hf' _ _ _ h.n2)), x, y, z, ?_⟩
  have := ((hb.put 0 x).put 1 y).put 2 z
  simpa using this
theorem MS.drew {s r : Nat} {f1 f2 : Nat → Int} {w : World} (h : MS s r f1 f2 w) : MS s r f1 f2 w.drew := ⟨h.n1, h.n2, h.blk⟩
theorem cell_drew {w : World} {a : Addr} {v : Value} (h : w.cell? a = some v) : w.drew.cell? a = some v := h
theorem Own.far {w : World} {B g n c r : Nat} {f : Nat → Int} (h : Own w B (some ⟨g, 0, none⟩) n c f) (hne : g ≠ r) (o : Nat) (u : Value) : Own (w.setCell ⟨r, o, none⟩ u) B (some ⟨g, 0, none⟩) n c f :=
  World.ownsRow.kept h (grown_set r o u) (.inr (by
    show some g ≠ some r
    simpa using hne))
theorem grown_put {a w : World} (h : a.grownBy w none) {r : Nat} (hr : a.heap.size ≤ r) (o : Nat) (u : Value) : a.grownBy (w.setCell ⟨r, o, none⟩ u) none := grown_then h (grown_set r o u) hr
theorem Own.on {w w' : World} {B g n c : Nat} {f : Nat → Int} (h : Own w B (some ⟨g, 0, none⟩) n c f) (hg : w.grownBy w' none) : Own w' B (some ⟨g, 0, none⟩) n c f :=
  World.ownsRow.kept h hg (.inr (by
    show some g ≠ none
    simp))
theorem state_nums {w : World} {s : Nat} {t : TypeId} {at' : Int} {f1 f2 : Nat → Int} (h : Holds5 w s t #[.int .i64 at', .int .i64 (f1 0), .int .i64 (f1 1), .int .i64 (f1 2), .int .i64 (f1 3), .int .i64 (f2 0), .int .i64 (f2 1), .int .i64 (f2 2), .int .i64 (f2 3), .int .i64 (f2 4), .int .i64 (f2 5), .int .i64 (f2 6), .int .i64 (f2 7)]) : Nums w (some ⟨s, 1, none⟩) 4 f1 ∧ Nums w (some ⟨s, 5, none⟩) 8 f2 := by
  refine ⟨.inr ⟨s, 1, rfl, h.inside, fun j hj => ?_⟩, .inr ⟨s, 5, rfl, h.inside, fun j hj => ?_⟩⟩
  · rw [h.look]
    match j, hj with
    | 0, _ => rfl
    | 1, _ => rfl
    | 2, _ => rfl
    | 3, _ => rfl
  · rw [h.look]
    match j, hj with
    | 0, _ => rfl
    | 1, _ => rfl
    | 2, _ => rfl
    | 3, _ => rfl
    | 4, _ => rfl
    | 5, _ => rfl
    | 6, _ => rfl
    | 7, _ => rfl
set_option maxHeartbeats 2000000 in
theorem stateMachine_any (at' : Int) (f1 f2 : Nat → Int) (w : World) : Calls Tryd.prog 62 #[SV at' f1 f2] w (MachOk w at' 4 8 f1 f2) := by
  obtain ⟨W1, hW1⟩ : ∃ W1 : World, (w.alloc (.cells #[.int .i64 at', .int .i64 (f1 0), .int .i64 (f1 1), .int .i64 (f1 2), .int .i64 (f1 3), .int .i64 (f2 0), .int .i64 (f2 1), .int .i64 (f2 2), .int .i64 (f2 3), .int .i64 (f2 4), .int .i64 (f2 5), .int .i64 (f2 6), .int .i64 (f2 7)] 73)).alloc (.cells #[.int .i64 0, .slice none 0 0, .slice none 0 0] 31) = W1 := ⟨_, rfl⟩
  have hR0 : MS w.heap.size (w.heap.size + 1) f1 f2 W1.drew := by
    have H0 := (Holds5.fresh w 73 #[.int .i64 at', .int .i64 (f1 0), .int .i64 (f1 1), .int .i64 (f1 2), .int .i64 (f1 3), .int .i64 (f2 0), .int .i64 (f2 1), .int .i64 (f2 2), .int .i64 (f2 3), .int .i64 (f2 4), .int .i64 (f2 5), .int .i64 (f2 6), .int .i64 (f2 7)]).alloc (.cells #[.int .i64 0, .slice none 0 0, .slice none 0 0] 31)
    have h := Holds5.fresh (w.alloc (.cells #[.int .i64 at', .int .i64 (f1 0), .int .i64 (f1 1), .int .i64 (f1 2), .int .i64 (f1 3), .int .i64 (f2 0), .int .i64 (f2 1), .int .i64 (f2 2), .int .i64 (f2 3), .int .i64 (f2 4), .int .i64 (f2 5), .int .i64 (f2 6), .int .i64 (f2 7)] 73)) 31 #[.int .i64 0, .slice none 0 0, .slice none 0 0]
    rw [World.size_alloc] at h
    rw [hW1] at h H0
    exact MS.drew ⟨(state_nums H0).1, (state_nums H0).2, _, _, _, h⟩
  have hA0 : W1.drew.cell? ⟨w.heap.size, 0, none⟩ = some (.int .i64 at') := by
    have H0 := (Holds5.fresh w 73 #[.int .i64 at', .int .i64 (f1 0), .int .i64 (f1 1), .int .i64 (f1 2), .int .i64 (f1 3), .int .i64 (f2 0), .int .i64 (f2 1), .int .i64 (f2 2), .int .i64 (f2 3), .int .i64 (f2 4), .int .i64 (f2 5), .int .i64 (f2 6), .int .i64 (f2 7)]).alloc (.cells #[.int .i64 0, .slice none 0 0, .slice none 0 0] 31)
    rw [hW1] at H0
    exact cell_drew (H0.look 0)
  have hG0 : w.grownBy W1.drew none := by
    rw [← hW1]
    exact grown_drewN (grown_same (World.grownBy_alloc _ _ _) (World.grownBy_alloc _ _ _)) 1
  have hsz : W1.drew.heap.size = w.heap.size + 2 := by
    rw [← hW1]
    show (World.alloc _ _).heap.size = _
    rw [World.size_alloc, World.size_alloc]
  have HA0 := shade hA0
  have HR0 := shade hR0
  have HG0 := shade hG0
  have HSZ := shade hsz
  have HW1 := shade hW1
  clear hR0 hA0 hG0 hsz hW1
  go_enter Tryd.func62, Tryd.ntmps62
  go_wp2_with fail
  rw [HW1.out]
  clear HW1
  go_region_held3 (fun w' => w'.cell? ⟨w.heap.size, 0, none⟩ = some (.int .i64 at') ∧ MS w.heap.size (w.heap.size + 1) f1 f2 w') (first | exact ⟨HA0.out, HR0.out⟩ | exact ⟨hA1, hS1⟩ | exact ⟨hA2, hS2⟩ | exact ⟨(World.cell?_setCell_far _ _ _ _ (by simp)).trans ((World.cell?_setCell_far _ _ _ _ (by simp)).trans ((World.cell?_setCell_far _ _ _ _ (by simp)).trans hA2)), MS.put hS2 (by omega) _ _ _⟩)
    (first
      | (have hq := hS1.n2; go_at_call 92; refine (clone_at w.heap.size 5 8 _ f2 _ (by omega) (by omega) hq).mono ?_; rintro e w2 ⟨g2, c2, rfl, ho2, hgr2⟩; have hS2 := hS1.grown hgr2; have hA2 := hgr2.cell hA1 (by simp); obtain ⟨x, y, z, hb⟩ := hS2.blk; have b0 := hb.look 0; have b1 := hb.look 1; have b2 := hb.look 2; have f0 := hb.free 0; have f1' := hb.free 1; have f2' := hb.free 2; simp at b0 b1 b2)
      | (go_at_call 92; refine (clone_at w.heap.size 1 4 _ f1 _ (by omega) (by omega) HR0.out.n1).mono ?_; rintro e w1 ⟨g1, c1, rfl, ho1, hgr1⟩; have hS1 := HR0.out.grown hgr1; have hA1 := hgr1.cell HA0.out (by simp)))
  rename_i hHeld
  clear hHeld
  have hH := ((hb.put 0 (.int .i64 at')).put 1 (.slice (some ⟨g1, 0, none⟩) 4 c1)).put 2 (.slice (some ⟨g2, 0, none⟩) 8 c2)
  simp at hH
  have l1 := ho1.lt
  have l2 := ho2.lt
  have hsz := HSZ.out
  have e1 := hgr1.size
  have HG := shade (grown_put (r := w.heap.size + 1) (grown_put (r := w.heap.size + 1) (grown_put (r := w.heap.size + 1) (grown_same (grown_same HG0.out hgr1) hgr2) (by omega) 0 (.int .i64 at')) (by omega) 1 (.slice (some ⟨g1, 0, none⟩) 4 c1)) (by omega) 2 (.slice (some ⟨g2, 0, none⟩) 8 c2))
  have HO1 := shade (((((ho1.on hgr2).lower (B' := w.heap.size) (by omega)).far (r := w.heap.size + 1) (by omega) 0 (.int .i64 at')).far (r := w.heap.size + 1) (by omega) 1 (.slice (some ⟨g1, 0, none⟩) 4 c1)).far (r := w.heap.size + 1) (by omega) 2 (.slice (some ⟨g2, 0, none⟩) 8 c2))
  have HO2 := shade ((((ho2.lower (B' := w.heap.size) (by omega)).far (r := w.heap.size + 1) (by omega) 0 (.int .i64 at')).far (r := w.heap.size + 1) (by omega) 1 (.slice (some ⟨g1, 0, none⟩) 4 c1)).far (r := w.heap.size + 1) (by omega) 2 (.slice (some ⟨g2, 0, none⟩) 8 c2))
  have hne : g1 ≠ g2 := by omega
  clear hgr1 hgr2 ho1 ho2 hS1 hS2 hA1 hA2 hq hb b0 b1 b2 f0 f1' f2' HA0 HR0 HG0
  go_wp2_with fail
  refine bodyPost_ret (results_cell_row rfl _ _ _ _ _ (0, 0) _ rfl hH Tryd.underlying31 rfl (by kernel_rfl)) rfl ?_
  exact ⟨g1, c1, g2, c2, rfl, hne, HO1.out, HO2.out, HG.out⟩

end Go.Proofs.YtkljjacailgdaaaDoor
namespace Go.Proofs.YtkljjacailgdaaaDoor
open Go.RowKit
/-- Only the blocks g1 and g2 may have changed. -/
structure But (w w' : World) (g1 g2 : Nat) : Prop where
  os : w'.os = w.os
  tape : w'.tape = w.tape
  output : w'.output = w.output
  size : w.heap.size ≤ w'.heap.size
  block : ∀ i, i < w.heap.size → i ≠ g1 → i ≠ g2 → w'.heap[i]? = w.heap[i]?
theorem But.of1 {w w' : World} {g1 : Nat} (g2 : Nat) (h : w.grownBy w' (some g1)) : But w w' g1 g2 := ⟨h.os, h.tape, h.output, h.size, fun i hi h1 _ => h.block i hi (by simpa using h1)⟩
theorem But.of2 {w w' : World} (g1 : Nat) {g2 : Nat} (h : w.grownBy w' (some g2)) : But w w' g1 g2 := ⟨h.os, h.tape, h.output, h.size, fun i hi _ h1 => h.block i hi (by simpa using h1)⟩
theorem But.of {w w' : World} (g1 g2 : Nat) (h : w.grownBy w' none) : But w w' g1 g2 := ⟨h.os, h.tape, h.output, h.size, fun i hi _ _ => h.block i hi (by simp)⟩
theorem But.trans {a b c : World} {g1 g2 : Nat} (h : But a b g1 g2) (h' : But b c g1 g2) : But a c g1 g2 :=
  ⟨h'.os.trans h.os, h'.tape.trans h.tape, h'.output.trans h.output, Nat.le_trans h.size h'.size, fun i hi h1 h2 => (h'.block i (Nat.lt_of_lt_of_le hi h.size) h1 h2).trans (h.block i hi h1 h2)⟩
theorem But.below {w w' : World} {g1 g2 B : Nat} (h : But w w' g1 g2) (h1 : B ≤ g1) (h2 : B ≤ g2) (hB : B ≤ w.heap.size) : Below B w w' := ⟨h.os, h.tape, h.output, h.size, fun i hi => h.block i (by omega) (by omega) (by omega)⟩
theorem But.holds {w w' : World} {g1 g2 g : Nat} {t : TypeId} {cs : Array Value} (h : But w w' g1 g2) (hh : Holds5 w g t cs) (h1 : g ≠ g1) (h2 : g ≠ g2) : Holds5 w' g t cs := (h.block g hh.inside h1 h2).trans hh
theorem But.nums {w w' : World} {g1 g2 : Nat} {A : Option Addr} {n : Nat} {f : Nat → Int} (h : But w w' g1 g2) (hh : Nums w A n f) (hne : ∀ b off, A = some ⟨b, off, none⟩ → b ≠ g1 ∧ b ≠ g2) : Nums w' A n f := by
  rcases hh with hh | ⟨b, off, hA, hlt, hc⟩
  · exact .inl hh
  · obtain ⟨n1, n2⟩ := hne b off hA
    exact .inr ⟨b, off, hA, Nat.lt_of_lt_of_le hlt h.size, fun j hj => (World.cell?_of_block (a := ⟨b, off + j, none⟩) (h.block b hlt n1 n2)).trans (hc j hj)⟩


set_option maxHeartbeats 1000000 in
theorem szMachine_any (at' : Int) (A1 : Option Addr) (n1 c1 : Nat) (A2 : Option Addr) (n2 c2 : Nat) (left : Int) (w : World) (h0 : 0 ≤ left) (h1 : left ≤ 1048576) (hn1 : n1 ≤ 9223372036854775807) (hn2 : n2 ≤ 9223372036854775807) :
    Calls Tryd.prog 33 #[MV at' A1 n1 c1 A2 n2 c2, .int .i64 left] w fun e w' => e = .returned (.int .i64 (if left - (n1 : Int) < 0 then -1 else if left - (n1 : Int) - n2 < 0 then -1 else left - (n1 : Int) - n2)) ∧ w.grownBy w' none := by
  by_cases q1 : left - (n1 : Int) < 0
  · rw [if_pos q1]
    have HZ1 := fun W => szIntS_any A1 n1 c1 left W h0 h1 hn1
    rw [if_pos q1] at HZ1
    have HZ1 := shade HZ1
    go_enter Tryd.func33, Tryd.ntmps33
    go_wp2_with fail
    refine (HZ1.out _).mono ?_
    rintro e w1 ⟨rfl, rfl⟩
    go_wp2_with fail
    go_ret
    exact ⟨rfl, World.grownBy_alloc _ _ _⟩
  · rw [if_neg q1]
    have HZ1 := fun W => szIntS_any A1 n1 c1 left W h0 h1 hn1
    rw [if_neg q1] at HZ1
    have HZ1 := shade HZ1
    have HZ2 := fun W => szIntS_any A2 n2 c2 (left - (n1 : Int)) W (by omega) (by omega) hn2
    have HZ2 := shade HZ2
    generalize hx : left - (n1 : Int) = x at *
    have hx0 : 0 ≤ x := by omega
    clear hx q1
    by_cases q2 : x - (n2 : Int) < 0
    · rw [if_pos q2]
      rw [if_pos q2] at HZ2
      go_enter Tryd.func33, Tryd.ntmps33
      go_wp2_with fail
      refine (HZ1.out _).mono ?_
      rintro e w1 ⟨rfl, rfl⟩
      go_wp2_with fail
      refine (HZ2.out _).mono ?_
      rintro e w1 ⟨rfl, rfl⟩
      go_wp2_with fail
      go_ret
      exact ⟨rfl, World.grownBy_alloc _ _ _⟩
    · rw [if_neg q2]
      rw [if_neg q2] at HZ2
      generalize hy : x - (n2 : Int) = y at *
      have hy0 : 0 ≤ y := by omega
      clear hy q2
      go_enter Tryd.func33, Tryd.ntmps33
      go_wp2_with fail
      refine (HZ1.out _).mono ?_
      rintro e w1 ⟨rfl, rfl⟩
      go_wp2_with fail
      refine (HZ2.out _).mono ?_
      rintro e w1 ⟨rfl, rfl⟩
      go_wp2_with fail
      go_ret
      exact ⟨rfl, World.grownBy_alloc _ _ _⟩


/-- What a slice's block is: below the heap's size, if it has elements. -/
theorem Nums.ne {w : World} {A : Option Addr} {n : Nat} {f : Nat → Int} (h : Nums w A n f) (o : Obj) : Nums (w.alloc o) A n f := h.alloc o
set_option maxHeartbeats 2000000 in
theorem eqMachine_any (at' : Int) (A1 A2 B1 B2 : Option Addr) (n1 n2 c1 c2 d1 d2 : Nat) (f1 f2 : Nat → Int) (w : World) (hn1 : n1 ≤ 9223372036854775807) (hn2 : n2 ≤ 9223372036854775807)
    (h1 : Nums w A1 n1 f1) (h2 : Nums w A2 n2 f2) (k1 : Nums w B1 n1 f1) (k2 : Nums w B2 n2 f2) :
    Calls Tryd.prog 37 #[MV at' A1 n1 c1 A2 n2 c2, MV at' B1 n1 d1 B2 n2 d2] w fun e w' => e = .returned (.bool true) ∧ w.grownBy w' none := by
  have H1 := shade h1
  have H2 := shade h2
  have K1 := shade k1
  have K2 := shade k2
  clear h1 h2 k1 k2
  go_enter Tryd.func37, Tryd.ntmps37
  go_wp2_with fail
  refine (eqIntS_any A1 B1 c1 d1 n1 f1 f1 _ hn1 ((H1.out.alloc _).alloc _) ((K1.out.alloc _).alloc _) (fun _ _ => rfl)).mono ?_
  rintro e w1 ⟨rfl, m1, rfl⟩
  go_wp2_with fail
  refine (eqIntS_any A2 B2 c2 d2 n2 f2 f2 _ hn2 (((H2.out.alloc _).alloc _).drewN m1) (((K2.out.alloc _).alloc _).drewN m1) (fun _ _ => rfl)).mono ?_
  rintro e w2 ⟨rfl, m2, rfl⟩
  go_wp2_with fail
  go_ret
  exact ⟨rfl, grown_drewN (grown_same (World.grownBy_alloc _ _ _) (World.grownBy_alloc _ _ _)) (m1 + m2)⟩


set_option maxHeartbeats 2000000 in
theorem markMachine_at (at' : Int) (B g1 g2 n1 n2 c1 c2 : Nat) (f1 f2 : Nat → Int) (m : Int) (w : World) (hm0 : 0 ≤ m) (hm : m + n1 + n2 ≤ 9223372036854775807) (hne : g1 ≠ g2)
    (h1 : Own w B (some ⟨g1, 0, none⟩) n1 c1 f1) (h2 : Own w B (some ⟨g2, 0, none⟩) n2 c2 f2) :
    Calls Tryd.prog 40 #[MV at' (some ⟨g1, 0, none⟩) n1 c1 (some ⟨g2, 0, none⟩) n2 c2, .int .i64 m] w fun e w' => e = .returned (.int .i64 (m + n1 + n2)) ∧
      Own w' B (some ⟨g1, 0, none⟩) n1 c1 (fun j => m + (j : Int)) ∧ Own w' B (some ⟨g2, 0, none⟩) n2 c2 (fun j => m + n1 + (j : Int)) ∧ But w w' g1 g2 := by
  have H1 := shade h1
  have H2 := shade h2
  have l1 := h1.lt
  have l2 := h2.lt
  clear h1 h2
  go_enter Tryd.func40, Tryd.ntmps40
  go_wp2_with fail
  have hbox := Holds5.fresh w 31 #[.int .i64 at', .slice (some ⟨g1, 0, none⟩) n1 c1, .slice (some ⟨g2, 0, none⟩) n2 c2]
  refine (markIntS_at B g1 n1 c1 f1 m _ hm0 (by omega) (H1.out.on (World.grownBy_alloc _ _ _))).mono ?_
  rintro e w1 ⟨rfl, ho1, hgr1⟩
  have hbox1 := hbox.grown hgr1 (by intro e; injection e; omega)
  have b2 := hbox1.look 2
  simp at b2
  have HO1 := shade ho1
  have HG1 := shade hgr1
  have HO2 := shade (World.ownsRow.kept (H2.out.on (World.grownBy_alloc _ _ _)) hgr1 (.inr (by
    show some g2 ≠ some g1
    simpa using fun e => hne e.symm)))
  have hb2 := hbox1.look 2
  clear hbox hbox1 ho1 hgr1 hb2
  go_wp2_with fail
  refine (markIntS_at B g2 n2 c2 f2 (m + n1) _ (by omega) (by omega) HO2.out).mono ?_
  rintro e w2 ⟨rfl, ho2, hgr2⟩
  have HO1' := shade (World.ownsRow.kept HO1.out hgr2 (.inr (by
    show some g1 ≠ some g2
    simpa using hne)))
  have HO2' := shade ho2
  have HB := shade (((But.of g1 g2 (World.grownBy_alloc w _ none)).trans (But.of1 g2 HG1.out)).trans (But.of2 g1 hgr2))
  clear ho2 hgr2 b2
  go_wp2_with fail
  go_ret
  exact ⟨rfl, HO1'.out, HO2'.out, HB.out⟩


set_option maxHeartbeats 2000000 in
theorem heldMachine_any (at' : Int) (A1 A2 : Option Addr) (n1 n2 c1 c2 : Nat) (m : Int) (w : World) (hm0 : 0 ≤ m) (hm : m + n1 + n2 ≤ 9223372036854775807)
    (h1 : Nums w A1 n1 (fun j => m + (j : Int))) (h2 : Nums w A2 n2 (fun j => m + n1 + (j : Int))) :
    Calls Tryd.prog 41 #[MV at' A1 n1 c1 A2 n2 c2, .int .i64 m] w fun e w' => e = .returned (.int .i64 (m + n1 + n2)) ∧ w.grownBy w' none := by
  have H1 := shade h1
  have H2 := shade h2
  clear h1 h2
  go_enter Tryd.func41, Tryd.ntmps41
  go_wp2_with fail
  refine (heldIntS_any A1 n1 c1 m _ hm0 (by omega) (H1.out.alloc _)).mono ?_
  rintro e w1 ⟨rfl, rfl⟩
  go_wp2_with fail
  refine (heldIntS_any A2 n2 c2 (m + n1) _ (by omega) (by omega) (H2.out.alloc _)).mono ?_
  rintro e w2 ⟨rfl, rfl⟩
  go_wp2_with fail
  go_ret
  exact ⟨rfl, World.grownBy_alloc _ _ _⟩

end Go.Proofs.YtkljjacailgdaaaDoor