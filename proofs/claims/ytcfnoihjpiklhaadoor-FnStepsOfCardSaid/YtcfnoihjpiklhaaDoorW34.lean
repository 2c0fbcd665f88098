/- The laws' helpers over machines: compare, mark, test, measure, copy. -/
import Derived.Test.YtcfnoihjpiklhaaDoorW33
namespace Go.Proofs.YtcfnoihjpiklhaaDoor
open Go.RowKit
/-- Only the blocks g1 and g2 may have changed. -/
structure But (w w' : World) (g1 g2 : Nat) : Prop where
  os : w'.os = w.os
  tape : w'.tape = w.tape
  output : w'.output = w.output
  size : w.heap.size ≤ w'.heap.size
  block : ∀ i, i < w.heap.size → i ≠ g1 → i ≠ g2 → w'.heap[i]? = w.heap[i]?
theorem But.of1 {w w' : World} {g1 : Nat} (g2 : Nat) (h : w.grownBy w' (some g1)) : But w w' g1 g2 := ⟨h.os, h.tape, h.output, h.size, fun i hi h1 _ => h.block i hi (by simpa using h1)⟩
theorem But.of2 {w w' : World} (g1 : Nat) {g2 : Nat} (h : w.grownBy w' (some g2)) : But w w' g1 g2 := ⟨h.os, h.tape, h.output, h.size, fun i hi _ h1 => h.block i hi (by simpa using h1)⟩
theorem But.of {w w' : World} (g1 g2 : Nat) (h : w.grownBy w' none) : But w w' g1 g2 := ⟨h.os, h.tape, h.output, h.size, fun i hi _ _ => h.block i hi (by simp)⟩
theorem But.trans {a b c : World} {g1 g2 : Nat} (h : But a b g1 g2) (h' : But b c g1 g2) : But a c g1 g2 :=
  ⟨h'.os.trans h.os, h'.tape.trans h.tape, h'.output.trans h.output, Nat.le_trans h.size h'.size, fun i hi h1 h2 => (h'.block i (Nat.lt_of_lt_of_le hi h.size) h1 h2).trans (h.block i hi h1 h2)⟩
theorem But.below {w w' : World} {g1 g2 B : Nat} (h : But w w' g1 g2) (h1 : B ≤ g1) (h2 : B ≤ g2) (hB : B ≤ w.heap.size) : Below B w w' := ⟨h.os, h.tape, h.output, h.size, fun i hi => h.block i (by omega) (by omega) (by omega)⟩
theorem But.holds {w w' : World} {g1 g2 g : Nat} {t : TypeId} {cs : Array Value} (h : But w w' g1 g2) (hh : Holds5 w g t cs) (h1 : g ≠ g1) (h2 : g ≠ g2) : Holds5 w' g t cs := (h.block g hh.inside h1 h2).trans hh
theorem But.nums {w w' : World} {g1 g2 : Nat} {A : Option Addr} {n : Nat} {f : Nat → Int} (h : But w w' g1 g2) (hh : Nums w A n f) (hne : ∀ b off, A = some ⟨b, off, none⟩ → b ≠ g1 ∧ b ≠ g2) : Nums w' A n f := by
  rcases hh with hh | ⟨b, off, hA, hlt, hc⟩
  · exact .inl hh
  · obtain ⟨n1, n2⟩ := hne b off hA
    exact .inr ⟨b, off, hA, Nat.lt_of_lt_of_le hlt h.size, fun j hj => (World.cell?_of_block (a := ⟨b, off + j, none⟩) (h.block b hlt n1 n2)).trans (hc j hj)⟩


set_option maxHeartbeats 1000000 in
theorem szMachine_any (at' : Int) (A1 : Option Addr) (n1 c1 : Nat) (A2 : Option Addr) (n2 c2 : Nat) (left : Int) (w : World) (h0 : 0 ≤ left) (h1 : left ≤ 1048576) (hn1 : n1 ≤ 9223372036854775807) (hn2 : n2 ≤ 9223372036854775807) :
    Calls Tryd.prog 13 #[MV at' A1 n1 c1 A2 n2 c2, .int .i64 left] w fun e w' => e = .returned (.int .i64 (if left - (n1 : Int) < 0 then -1 else if left - (n1 : Int) - n2 < 0 then -1 else left - (n1 : Int) - n2)) ∧ w.grownBy w' none := by
  by_cases q1 : left - (n1 : Int) < 0
  · rw [if_pos q1]
    have HZ1 := fun W => szIntS_any A1 n1 c1 left W h0 h1 hn1
    rw [if_pos q1] at HZ1
    have HZ1 := shade HZ1
    go_enter Tryd.func13, Tryd.ntmps13
    go_wp2_with fail
    refine (HZ1.out _).mono ?_
    rintro e w1 ⟨rfl, rfl⟩
    go_wp2_with fail
    go_ret
    exact ⟨rfl, World.grownBy_alloc _ _ _⟩
  · rw [if_neg q1]
    have HZ1 := fun W => szIntS_any A1 n1 c1 left W h0 h1 hn1
    rw [if_neg q1] at HZ1
    have HZ1 := shade HZ1
    have HZ2 := fun W => szIntS_any A2 n2 c2 (left - (n1 : Int)) W (by omega) (by omega) hn2
    have HZ2 := shade HZ2
    generalize hx : left - (n1 : Int) = x at *
    have hx0 : 0 ≤ x := by omega
    clear hx q1
    by_cases q2 : x - (n2 : Int) < 0
    · rw [if_pos q2]
      rw [if_pos q2] at HZ2
      go_enter Tryd.func13, Tryd.ntmps13
      go_wp2_with fail
      refine (HZ1.out _).mono ?_
      rintro e w1 ⟨rfl, rfl⟩
      go_wp2_with fail
      refine (HZ2.out _).mono ?_
      rintro e w1 ⟨rfl, rfl⟩
      go_wp2_with fail
      go_ret
      exact ⟨rfl, World.grownBy_alloc _ _ _⟩
    · rw [if_neg q2]
      rw [if_neg q2] at HZ2
      generalize hy : x - (n2 : Int) = y at *
      have hy0 : 0 ≤ y := by omega
      clear hy q2
      go_enter Tryd.func13, Tryd.ntmps13
      go_wp2_with fail
      refine (HZ1.out _).mono ?_
      rintro e w1 ⟨rfl, rfl⟩
      go_wp2_with fail
      refine (HZ2.out _).mono ?_
      rintro e w1 ⟨rfl, rfl⟩
      go_wp2_with fail
      go_ret
      exact ⟨rfl, World.grownBy_alloc _ _ _⟩


/-- What a slice's block is: below the heap's size, if it has elements. -/
theorem Nums.ne {w : World} {A : Option Addr} {n : Nat} {f : Nat → Int} (h : Nums w A n f) (o : Obj) : Nums (w.alloc o) A n f := h.alloc o
set_option maxHeartbeats 2000000 in
theorem eqMachine_any (at' : Int) (A1 A2 B1 B2 : Option Addr) (n1 n2 c1 c2 d1 d2 : Nat) (f1 f2 : Nat → Int) (w : World) (hn1 : n1 ≤ 9223372036854775807) (hn2 : n2 ≤ 9223372036854775807)
    (h1 : Nums w A1 n1 f1) (h2 : Nums w A2 n2 f2) (k1 : Nums w B1 n1 f1) (k2 : Nums w B2 n2 f2) :
    Calls Tryd.prog 18 #[MV at' A1 n1 c1 A2 n2 c2, MV at' B1 n1 d1 B2 n2 d2] w fun e w' => e = .returned (.bool true) ∧ w.grownBy w' none := by
  have H1 := shade h1
  have H2 := shade h2
  have K1 := shade k1
  have K2 := shade k2
  clear h1 h2 k1 k2
  go_enter Tryd.func18, Tryd.ntmps18
  go_wp2_with fail
  refine (eqIntS_any A1 B1 c1 d1 n1 f1 f1 _ hn1 ((H1.out.alloc _).alloc _) ((K1.out.alloc _).alloc _) (fun _ _ => rfl)).mono ?_
  rintro e w1 ⟨rfl, m1, rfl⟩
  go_wp2_with fail
  refine (eqIntS_any A2 B2 c2 d2 n2 f2 f2 _ hn2 (((H2.out.alloc _).alloc _).drewN m1) (((K2.out.alloc _).alloc _).drewN m1) (fun _ _ => rfl)).mono ?_
  rintro e w2 ⟨rfl, m2, rfl⟩
  go_wp2_with fail
  go_ret
  exact ⟨rfl, grown_drewN (grown_same (World.grownBy_alloc _ _ _) (World.grownBy_alloc _ _ _)) (m1 + m2)⟩


set_option maxHeartbeats 2000000 in
theorem markMachine_at (at' : Int) (B g1 g2 n1 n2 c1 c2 : Nat) (f1 f2 : Nat → Int) (m : Int) (w : World) (hm0 : 0 ≤ m) (hm : m + n1 + n2 ≤ 9223372036854775807) (hne : g1 ≠ g2)
    (h1 : Own w B (some ⟨g1, 0, none⟩) n1 c1 f1) (h2 : Own w B (some ⟨g2, 0, none⟩) n2 c2 f2) :
    Calls Tryd.prog 20 #[MV at' (some ⟨g1, 0, none⟩) n1 c1 (some ⟨g2, 0, none⟩) n2 c2, .int .i64 m] w fun e w' => e = .returned (.int .i64 (m + n1 + n2)) ∧
      Own w' B (some ⟨g1, 0, none⟩) n1 c1 (fun j => m + (j : Int)) ∧ Own w' B (some ⟨g2, 0, none⟩) n2 c2 (fun j => m + n1 + (j : Int)) ∧ But w w' g1 g2 := by
  have H1 := shade h1
  have H2 := shade h2
  have l1 := h1.lt
  have l2 := h2.lt
  clear h1 h2
  go_enter Tryd.func20, Tryd.ntmps20
  go_wp2_with fail
  have hbox := Holds5.fresh w 26 #[.int .i64 at', .slice (some ⟨g1, 0, none⟩) n1 c1, .slice (some ⟨g2, 0, none⟩) n2 c2]
  refine (markIntS_at B g1 n1 c1 f1 m _ hm0 (by omega) (H1.out.on (World.grownBy_alloc _ _ _))).mono ?_
  rintro e w1 ⟨rfl, ho1, hgr1⟩
  have hbox1 := hbox.grown hgr1 (by intro e; injection e; omega)
  have b2 := hbox1.look 2
  simp at b2
  have HO1 := shade ho1
  have HG1 := shade hgr1
  have HO2 := shade (World.ownsRow.kept (H2.out.on (World.grownBy_alloc _ _ _)) hgr1 (.inr (by
    show some g2 ≠ some g1
    simpa using fun e => hne e.symm)))
  have hb2 := hbox1.look 2
  clear hbox hbox1 ho1 hgr1 hb2
  go_wp2_with fail
  refine (markIntS_at B g2 n2 c2 f2 (m + n1) _ (by omega) (by omega) HO2.out).mono ?_
  rintro e w2 ⟨rfl, ho2, hgr2⟩
  have HO1' := shade (World.ownsRow.kept HO1.out hgr2 (.inr (by
    show some g1 ≠ some g2
    simpa using hne)))
  have HO2' := shade ho2
  have HB := shade (((But.of g1 g2 (World.grownBy_alloc w _ none)).trans (But.of1 g2 HG1.out)).trans (But.of2 g1 hgr2))
  clear ho2 hgr2 b2
  go_wp2_with fail
  go_ret
  exact ⟨rfl, HO1'.out, HO2'.out, HB.out⟩


end Go.Proofs.YtcfnoihjpiklhaaDoor