/- runOf: the run of a program, or none. runOf makes the run of a program that may be run. -/
import Derived.Test.YtcfnoihjpiklhaaDoorW91
import Derived.Deep.RegionHeld3
import Derived.Deep.CutRange
import Derived.Deep.CutBlock
namespace Go.Proofs.YtcfnoihjpiklhaaDoor
open Go.RowKit
set_option linter.unusedSimpArgs false
/-- May the program be run? -/
def runB (len : Nat) (F : Nat → Ins) (at' : Int) (n1 n2 : Nat) (f1 f2 : Nat → Int) (fuel : Int) : Bool := vcB len F && vmB at' n1 n2 f1 f2 && inRB fuel 0 300
def NoRun (w : World) (e : Ending) (w' : World) : Prop := e = .returned (.tuple #[.agg #[.slice none 0 0, .slice none 0 0, .int .i64 0, .int .i64 0, .int .i64 0, .int .i64 0, .int .i64 0, .int .i64 0, .int .i64 0, .int .i64 0, .int .i64 0, .int .i64 0, .int .i64 0, .int .i64 0, .int .i64 0, .bool false], .bool false]) ∧ w.grownBy w' none
set_option maxHeartbeats 4000000 in
theorem runOf_code (A : Option Addr) (len cap : Nat) (F : Nat → Ins) (at' : Int) (A1 : Option Addr) (n1 c1 : Nat) (A2 : Option Addr) (n2 c2 : Nat) (f1 f2 : Nat → Int) (fuel : Int) (w : World) (hg : WT w) (hl : len ≤ 9223372036854775807) (hC : Code w A len F) (h1 : Nums w A1 n1 f1) (h2 : Nums w A2 n2 f2) (hv : vcB len F = false) : Calls Tryd.prog 28 #[.slice A len cap, MV at' A1 n1 c1 A2 n2 c2, .int .i64 fuel] w (NoRun w) := by
  obtain ⟨W0, hW0⟩ : ∃ W0, (w.alloc (.cells #[.int .i64 at', .slice A1 n1 c1, .slice A2 n2 c2] 26)).alloc (.cells #[.slice none 0 0, .slice none 0 0, .int .i64 0, .int .i64 0, .int .i64 0, .int .i64 0, .int .i64 0, .int .i64 0, .int .i64 0, .int .i64 0, .int .i64 0, .int .i64 0, .int .i64 0, .int .i64 0, .int .i64 0, .bool false] 62) = W0 := ⟨_, rfl⟩
  have e1 : Holds5 W0 w.heap.size 26 #[.int .i64 at', .slice A1 n1 c1, .slice A2 n2 c2] := by
    rw [← hW0]
    exact (Holds5.fresh w 26 #[.int .i64 at', .slice A1 n1 c1, .slice A2 n2 c2]).alloc _
  have e2 : Holds5 W0 (w.heap.size + 1) 62 #[.slice none 0 0, .slice none 0 0, .int .i64 0, .int .i64 0, .int .i64 0, .int .i64 0, .int .i64 0, .int .i64 0, .int .i64 0, .int .i64 0, .int .i64 0, .int .i64 0, .int .i64 0, .int .i64 0, .int .i64 0, .bool false] := by
    rw [← hW0]
    have := Holds5.fresh (w.alloc (.cells #[.int .i64 at', .slice A1 n1 c1, .slice A2 n2 c2] 26)) 62 #[.slice none 0 0, .slice none 0 0, .int .i64 0, .int .i64 0, .int .i64 0, .int .i64 0, .int .i64 0, .int .i64 0, .int .i64 0, .int .i64 0, .int .i64 0, .int .i64 0, .int .i64 0, .int .i64 0, .int .i64 0, .bool false]
    rwa [World.size_alloc] at this
  have e3 : w.grownBy W0 none := by
    rw [← hW0]
    exact grown_same (World.grownBy_alloc _ _ _) (World.grownBy_alloc _ _ _)
  have HG := shade (hg.below (below_of_grown e3) (wt_lt hg))
  have HC := shade (hC.on e3)
  have HVC := shade (ValidCode_any A len cap F W0 (hg.below (below_of_grown e3) (wt_lt hg)) hl (hC.on e3))
  have N1 := shade (h1.on e3)
  have N2 := shade (h2.on e3)
  have HW0 := shade hW0
  have E1 := shade e1; have E2 := shade e2; have E3 := shade e3
  rw [hv] at HVC
  clear e1 e2 e3 hW0 hg hC hv h1 h2
  go_enter Tryd.func28, Tryd.ntmps28
  go_upto_region 1 with (fail)
  rw [HW0.out]
  clear HW0
  go_wp2_with fail
  refine HVC.out.mono ?_
  rintro e w1 ⟨rfl, hgr⟩
  have h2 := (E2.out.grown hgr (by intro e; cases e))
  have h3 := (grown_same E3.out hgr)
  clear hgr
  have r0 := h2.look 0; have t0 := h2.free 0; have r1 := h2.look 1; have t1 := h2.free 1; have r2 := h2.look 2; have t2 := h2.free 2; have r3 := h2.look 3; have t3 := h2.free 3; have r4 := h2.look 4; have t4 := h2.free 4; have r5 := h2.look 5; have t5 := h2.free 5; have r6 := h2.look 6; have t6 := h2.free 6; have r7 := h2.look 7; have t7 := h2.free 7; have r8 := h2.look 8; have t8 := h2.free 8; have r9 := h2.look 9; have t9 := h2.free 9; have r10 := h2.look 10; have t10 := h2.free 10; have r11 := h2.look 11; have t11 := h2.free 11; have r12 := h2.look 12; have t12 := h2.free 12; have r13 := h2.look 13; have t13 := h2.free 13; have r14 := h2.look 14; have t14 := h2.free 14; have r15 := h2.look 15; have t15 := h2.free 15
  simp at r0 r1 r2 r3 r4 r5 r6 r7 r8 r9 r10 r11 r12 r13 r14 r15
  have hP := ((((((((((((((((h2.put 0 (.slice none 0 0)).put 1 (.slice none 0 0)).put 2 (.int .i64 0)).put 3 (.int .i64 0)).put 4 (.int .i64 0)).put 5 (.int .i64 0)).put 6 (.int .i64 0)).put 7 (.int .i64 0)).put 8 (.int .i64 0)).put 9 (.int .i64 0)).put 10 (.int .i64 0)).put 11 (.int .i64 0)).put 12 (.int .i64 0)).put 13 (.int .i64 0)).put 14 (.int .i64 0)).put 15 (.bool false))
  simp at hP
  have HP := shade hP
  have HGF := shade (grown_put (r := w.heap.size + 1) (grown_put (r := w.heap.size + 1) (grown_put (r := w.heap.size + 1) (grown_put (r := w.heap.size + 1) (grown_put (r := w.heap.size + 1) (grown_put (r := w.heap.size + 1) (grown_put (r := w.heap.size + 1) (grown_put (r := w.heap.size + 1) (grown_put (r := w.heap.size + 1) (grown_put (r := w.heap.size + 1) (grown_put (r := w.heap.size + 1) (grown_put (r := w.heap.size + 1) (grown_put (r := w.heap.size + 1) (grown_put (r := w.heap.size + 1) (grown_put (r := w.heap.size + 1) (grown_put (r := w.heap.size + 1) h3 (by omega) 0 (.slice none 0 0)) (by omega) 1 (.slice none 0 0)) (by omega) 2 (.int .i64 0)) (by omega) 3 (.int .i64 0)) (by omega) 4 (.int .i64 0)) (by omega) 5 (.int .i64 0)) (by omega) 6 (.int .i64 0)) (by omega) 7 (.int .i64 0)) (by omega) 8 (.int .i64 0)) (by omega) 9 (.int .i64 0)) (by omega) 10 (.int .i64 0)) (by omega) 11 (.int .i64 0)) (by omega) 12 (.int .i64 0)) (by omega) 13 (.int .i64 0)) (by omega) 14 (.int .i64 0)) (by omega) 15 (.bool false))
  clear h2 hP h3
  go_wp2_with fail
  have hP := HP.out
  have q0 := hP.look 0; have q1 := hP.look 1; have q2 := hP.look 2; have q3 := hP.look 3; have q4 := hP.look 4; have q5 := hP.look 5; have q6 := hP.look 6; have q7 := hP.look 7; have q8 := hP.look 8; have q9 := hP.look 9; have q10 := hP.look 10; have q11 := hP.look 11; have q12 := hP.look 12; have q13 := hP.look 13; have q14 := hP.look 14; have q15 := hP.look 15
  simp at q0 q1 q2 q3 q4 q5 q6 q7 q8 q9 q10 q11 q12 q13 q14 q15
  refine bodyPost_ret (v := .tuple #[.agg #[.slice none 0 0, .slice none 0 0, .int .i64 0, .int .i64 0, .int .i64 0, .int .i64 0, .int .i64 0, .int .i64 0, .int .i64 0, .int .i64 0, .int .i64 0, .int .i64 0, .int .i64 0, .int .i64 0, .int .i64 0, .bool false], .bool false]) (by simp [results, Tryd.results28, go_sem, q0, q1, q2, q3, q4, q5, q6, q7, q8, q9, q10, q11, q12, q13, q14, q15]) rfl ⟨rfl, HGF.out⟩

set_option maxHeartbeats 4000000 in
theorem runOf_mach (A : Option Addr) (len cap : Nat) (F : Nat → Ins) (at' : Int) (A1 : Option Addr) (n1 c1 : Nat) (A2 : Option Addr) (n2 c2 : Nat) (f1 f2 : Nat → Int) (fuel : Int) (w : World) (hg : WT w) (hl : len ≤ 9223372036854775807) (hC : Code w A len F) (h1 : Nums w A1 n1 f1) (h2 : Nums w A2 n2 f2) (hv : vcB len F = true) (hm : vmB at' n1 n2 f1 f2 = false) : Calls Tryd.prog 28 #[.slice A len cap, MV at' A1 n1 c1 A2 n2 c2, .int .i64 fuel] w (NoRun w) := by
  obtain ⟨W0, hW0⟩ : ∃ W0, (w.alloc (.cells #[.int .i64 at', .slice A1 n1 c1, .slice A2 n2 c2] 26)).alloc (.cells #[.slice none 0 0, .slice none 0 0, .int .i64 0, .int .i64 0, .int .i64 0, .int .i64 0, .int .i64 0, .int .i64 0, .int .i64 0, .int .i64 0, .int .i64 0, .int .i64 0, .int .i64 0, .int .i64 0, .int .i64 0, .bool false] 62) = W0 := ⟨_, rfl⟩
  have e1 : Holds5 W0 w.heap.size 26 #[.int .i64 at', .slice A1 n1 c1, .slice A2 n2 c2] := by
    rw [← hW0]
    exact (Holds5.fresh w 26 #[.int .i64 at', .slice A1 n1 c1, .slice A2 n2 c2]).alloc _
  have e2 : Holds5 W0 (w.heap.size + 1) 62 #[.slice none 0 0, .slice none 0 0, .int .i64 0, .int .i64 0, .int .i64 0, .int .i64 0, .int .i64 0, .int .i64 0, .int .i64 0, .int .i64 0, .int .i64 0, .int .i64 0, .int .i64 0, .int .i64 0, .int .i64 0, .bool false] := by
    rw [← hW0]
    have := Holds5.fresh (w.alloc (.cells #[.int .i64 at', .slice A1 n1 c1, .slice A2 n2 c2] 26)) 62 #[.slice none 0 0, .slice none 0 0, .int .i64 0, .int .i64 0, .int .i64 0, .int .i64 0, .int .i64 0, .int .i64 0, .int .i64 0, .int .i64 0, .int .i64 0, .int .i64 0, .int .i64 0, .int .i64 0, .int .i64 0, .bool false]
    rwa [World.size_alloc] at this
  have e3 : w.grownBy W0 none := by
    rw [← hW0]
    exact grown_same (World.grownBy_alloc _ _ _) (World.grownBy_alloc _ _ _)
  have HG := shade (hg.below (below_of_grown e3) (wt_lt hg))
  have HC := shade (hC.on e3)
  have HVC := shade (ValidCode_any A len cap F W0 (hg.below (below_of_grown e3) (wt_lt hg)) hl (hC.on e3))
  have N1 := shade (h1.on e3)
  have N2 := shade (h2.on e3)
  have HW0 := shade hW0
  have E1 := shade e1; have E2 := shade e2; have E3 := shade e3
  rw [hv] at HVC
  have HM := shade hm
  clear e1 e2 e3 hW0 hg hC hv hm h1 h2
  go_enter Tryd.func28, Tryd.ntmps28
  go_upto_region 1 with (fail)
  rw [HW0.out]
  clear HW0
  go_wp2_with fail
  refine HVC.out.mono ?_
  rintro e w1 ⟨rfl, hgr⟩
  have p1 := E1.out.grown hgr (by intro e; cases e)
  have E1b := shade p1
  have E2b := shade (E2.out.grown hgr (by intro e; cases e))
  have E3b := shade (grown_same E3.out hgr)
  have N1b := shade (N1.out.on hgr)
  have N2b := shade (N2.out.on hgr)
  have HCb := shade (HC.out.on hgr)
  have x0 := p1.look 0; have x1 := p1.look 1; have x2 := p1.look 2
  simp at x0 x1 x2
  clear E1 E2 E3 N1 N2 HC hgr HVC p1
  go_wp2_with fail
  refine (ValidMachine_any at' A1 A2 n1 n2 c1 c2 f1 f2 _ N1b.out N2b.out).mono ?_
  rw [HM.out]
  rintro e w2 ⟨rfl, hgr⟩
  have h2 := (E2b.out.grown hgr (by intro e; cases e))
  have h3 := (grown_same E3b.out hgr)
  clear hgr
  have r0 := h2.look 0; have t0 := h2.free 0; have r1 := h2.look 1; have t1 := h2.free 1; have r2 := h2.look 2; have t2 := h2.free 2; have r3 := h2.look 3; have t3 := h2.free 3; have r4 := h2.look 4; have t4 := h2.free 4; have r5 := h2.look 5; have t5 := h2.free 5; have r6 := h2.look 6; have t6 := h2.free 6; have r7 := h2.look 7; have t7 := h2.free 7; have r8 := h2.look 8; have t8 := h2.free 8; have r9 := h2.look 9; have t9 := h2.free 9; have r10 := h2.look 10; have t10 := h2.free 10; have r11 := h2.look 11; have t11 := h2.free 11; have r12 := h2.look 12; have t12 := h2.free 12; have r13 := h2.look 13; have t13 := h2.free 13; have r14 := h2.look 14; have t14 := h2.free 14; have r15 := h2.look 15; have t15 := h2.free 15
  simp at r0 r1 r2 r3 r4 r5 r6 r7 r8 r9 r10 r11 r12 r13 r14 r15
  have hP := ((((((((((((((((h2.put 0 (.slice none 0 0)).put 1 (.slice none 0 0)).put 2 (.int .i64 0)).put 3 (.int .i64 0)).put 4 (.int .i64 0)).put 5 (.int .i64 0)).put 6 (.int .i64 0)).put 7 (.int .i64 0)).put 8 (.int .i64 0)).put 9 (.int .i64 0)).put 10 (.int .i64 0)).put 11 (.int .i64 0)).put 12 (.int .i64 0)).put 13 (.int .i64 0)).put 14 (.int .i64 0)).put 15 (.bool false))
  simp at hP
  have HP := shade hP
  have HGF := shade (grown_put (r := w.heap.size + 1) (grown_put (r := w.heap.size + 1) (grown_put (r := w.heap.size + 1) (grown_put (r := w.heap.size + 1) (grown_put (r := w.heap.size + 1) (grown_put (r := w.heap.size + 1) (grown_put (r := w.heap.size + 1) (grown_put (r := w.heap.size + 1) (grown_put (r := w.heap.size + 1) (grown_put (r := w.heap.size + 1) (grown_put (r := w.heap.size + 1) (grown_put (r := w.heap.size + 1) (grown_put (r := w.heap.size + 1) (grown_put (r := w.heap.size + 1) (grown_put (r := w.heap.size + 1) (grown_put (r := w.heap.size + 1) h3 (by omega) 0 (.slice none 0 0)) (by omega) 1 (.slice none 0 0)) (by omega) 2 (.int .i64 0)) (by omega) 3 (.int .i64 0)) (by omega) 4 (.int .i64 0)) (by omega) 5 (.int .i64 0)) (by omega) 6 (.int .i64 0)) (by omega) 7 (.int .i64 0)) (by omega) 8 (.int .i64 0)) (by omega) 9 (.int .i64 0)) (by omega) 10 (.int .i64 0)) (by omega) 11 (.int .i64 0)) (by omega) 12 (.int .i64 0)) (by omega) 13 (.int .i64 0)) (by omega) 14 (.int .i64 0)) (by omega) 15 (.bool false))
  clear h2 hP h3
  go_wp2_with fail
  have hP := HP.out
  have q0 := hP.look 0; have q1 := hP.look 1; have q2 := hP.look 2; have q3 := hP.look 3; have q4 := hP.look 4; have q5 := hP.look 5; have q6 := hP.look 6; have q7 := hP.look 7; have q8 := hP.look 8; have q9 := hP.look 9; have q10 := hP.look 10; have q11 := hP.look 11; have q12 := hP.look 12; have q13 := hP.look 13; have q14 := hP.look 14; have q15 := hP.look 15
  simp at q0 q1 q2 q3 q4 q5 q6 q7 q8 q9 q10 q11 q12 q13 q14 q15
  refine bodyPost_ret (v := .tuple #[.agg #[.slice none 0 0, .slice none 0 0, .int .i64 0, .int .i64 0, .int .i64 0, .int .i64 0, .int .i64 0, .int .i64 0, .int .i64 0, .int .i64 0, .int .i64 0, .int .i64 0, .int .i64 0, .int .i64 0, .int .i64 0, .bool false], .bool false]) (by simp [results, Tryd.results28, go_sem, q0, q1, q2, q3, q4, q5, q6, q7, q8, q9, q10, q11, q12, q13, q14, q15]) rfl ⟨rfl, HGF.out⟩

set_option maxHeartbeats 4000000 in
theorem runOf_fuel (A : Option Addr) (len cap : Nat) (F : Nat → Ins) (at' : Int) (A1 : Option Addr) (n1 c1 : Nat) (A2 : Option Addr) (n2 c2 : Nat) (f1 f2 : Nat → Int) (fuel : Int) (w : World) (hg : WT w) (hl : len ≤ 9223372036854775807) (hC : Code w A len F) (h1 : Nums w A1 n1 f1) (h2 : Nums w A2 n2 f2) (hv : vcB len F = true) (hm : vmB at' n1 n2 f1 f2 = true) (hf : fuel < 0 ∨ 300 < fuel) : Calls Tryd.prog 28 #[.slice A len cap, MV at' A1 n1 c1 A2 n2 c2, .int .i64 fuel] w (NoRun w) := by
  obtain ⟨W0, hW0⟩ : ∃ W0, (w.alloc (.cells #[.int .i64 at', .slice A1 n1 c1, .slice A2 n2 c2] 26)).alloc (.cells #[.slice none 0 0, .slice none 0 0, .int .i64 0, .int .i64 0, .int .i64 0, .int .i64 0, .int .i64 0, .int .i64 0, .int .i64 0, .int .i64 0, .int .i64 0, .int .i64 0, .int .i64 0, .int .i64 0, .int .i64 0, .bool false] 62) = W0 := ⟨_, rfl⟩
  have e1 : Holds5 W0 w.heap.size 26 #[.int .i64 at', .slice A1 n1 c1, .slice A2 n2 c2] := by
    rw [← hW0]
    exact (Holds5.fresh w 26 #[.int .i64 at', .slice A1 n1 c1, .slice A2 n2 c2]).alloc _
  have e2 : Holds5 W0 (w.heap.size + 1) 62 #[.slice none 0 0, .slice none 0 0, .int .i64 0, .int .i64 0, .int .i64 0, .int .i64 0, .int .i64 0, .int .i64 0, .int .i64 0, .int .i64 0, .int .i64 0, .int .i64 0, .int .i64 0, .int .i64 0, .int .i64 0, .bool false] := by
    rw [← hW0]
    have := Holds5.fresh (w.alloc (.cells #[.int .i64 at', .slice A1 n1 c1, .slice A2 n2 c2] 26)) 62 #[.slice none 0 0, .slice none 0 0, .int .i64 0, .int .i64 0, .int .i64 0, .int .i64 0, .int .i64 0, .int .i64 0, .int .i64 0, .int .i64 0, .int .i64 0, .int .i64 0, .int .i64 0, .int .i64 0, .int .i64 0, .bool false]
    rwa [World.size_alloc] at this
  have e3 : w.grownBy W0 none := by
    rw [← hW0]
    exact grown_same (World.grownBy_alloc _ _ _) (World.grownBy_alloc _ _ _)
  have HG := shade (hg.below (below_of_grown e3) (wt_lt hg))
  have HC := shade (hC.on e3)
  have HVC := shade (ValidCode_any A len cap F W0 (hg.below (below_of_grown e3) (wt_lt hg)) hl (hC.on e3))
  have N1 := shade (h1.on e3)
  have N2 := shade (h2.on e3)
  have HW0 := shade hW0
  have E1 := shade e1; have E2 := shade e2; have E3 := shade e3
  rw [hv] at HVC
  have HM := shade hm
  clear e1 e2 e3 hW0 hg hC hv hm h1 h2
  by_cases hf0 : fuel < 0
  · clear hf
    go_enter Tryd.func28, Tryd.ntmps28
    go_upto_region 1 with (fail)
    rw [HW0.out]
    clear HW0
    go_wp2_with fail
    refine HVC.out.mono ?_
    rintro e w1 ⟨rfl, hgr⟩
    have p1 := E1.out.grown hgr (by intro e; cases e)
    have E1b := shade p1
    have E2b := shade (E2.out.grown hgr (by intro e; cases e))
    have E3b := shade (grown_same E3.out hgr)
    have N1b := shade (N1.out.on hgr)
    have N2b := shade (N2.out.on hgr)
    have HCb := shade (HC.out.on hgr)
    have x0 := p1.look 0; have x1 := p1.look 1; have x2 := p1.look 2
    simp at x0 x1 x2
    clear E1 E2 E3 N1 N2 HC hgr HVC p1
    go_wp2_with fail
    refine (ValidMachine_any at' A1 A2 n1 n2 c1 c2 f1 f2 _ N1b.out N2b.out).mono ?_
    rw [HM.out]
    rintro e w2 ⟨rfl, hgr⟩
    have h2 := (E2b.out.grown hgr (by intro e; cases e))
    have h3 := (grown_same E3b.out hgr)
    clear hgr
    have r0 := h2.look 0; have t0 := h2.free 0; have r1 := h2.look 1; have t1 := h2.free 1; have r2 := h2.look 2; have t2 := h2.free 2; have r3 := h2.look 3; have t3 := h2.free 3; have r4 := h2.look 4; have t4 := h2.free 4; have r5 := h2.look 5; have t5 := h2.free 5; have r6 := h2.look 6; have t6 := h2.free 6; have r7 := h2.look 7; have t7 := h2.free 7; have r8 := h2.look 8; have t8 := h2.free 8; have r9 := h2.look 9; have t9 := h2.free 9; have r10 := h2.look 10; have t10 := h2.free 10; have r11 := h2.look 11; have t11 := h2.free 11; have r12 := h2.look 12; have t12 := h2.free 12; have r13 := h2.look 13; have t13 := h2.free 13; have r14 := h2.look 14; have t14 := h2.free 14; have r15 := h2.look 15; have t15 := h2.free 15
    simp at r0 r1 r2 r3 r4 r5 r6 r7 r8 r9 r10 r11 r12 r13 r14 r15
    have hP := ((((((((((((((((h2.put 0 (.slice none 0 0)).put 1 (.slice none 0 0)).put 2 (.int .i64 0)).put 3 (.int .i64 0)).put 4 (.int .i64 0)).put 5 (.int .i64 0)).put 6 (.int .i64 0)).put 7 (.int .i64 0)).put 8 (.int .i64 0)).put 9 (.int .i64 0)).put 10 (.int .i64 0)).put 11 (.int .i64 0)).put 12 (.int .i64 0)).put 13 (.int .i64 0)).put 14 (.int .i64 0)).put 15 (.bool false))
    simp at hP
    have HP := shade hP
    have HGF := shade (grown_put (r := w.heap.size + 1) (grown_put (r := w.heap.size + 1) (grown_put (r := w.heap.size + 1) (grown_put (r := w.heap.size + 1) (grown_put (r := w.heap.size + 1) (grown_put (r := w.heap.size + 1) (grown_put (r := w.heap.size + 1) (grown_put (r := w.heap.size + 1) (grown_put (r := w.heap.size + 1) (grown_put (r := w.heap.size + 1) (grown_put (r := w.heap.size + 1) (grown_put (r := w.heap.size + 1) (grown_put (r := w.heap.size + 1) (grown_put (r := w.heap.size + 1) (grown_put (r := w.heap.size + 1) (grown_put (r := w.heap.size + 1) h3 (by omega) 0 (.slice none 0 0)) (by omega) 1 (.slice none 0 0)) (by omega) 2 (.int .i64 0)) (by omega) 3 (.int .i64 0)) (by omega) 4 (.int .i64 0)) (by omega) 5 (.int .i64 0)) (by omega) 6 (.int .i64 0)) (by omega) 7 (.int .i64 0)) (by omega) 8 (.int .i64 0)) (by omega) 9 (.int .i64 0)) (by omega) 10 (.int .i64 0)) (by omega) 11 (.int .i64 0)) (by omega) 12 (.int .i64 0)) (by omega) 13 (.int .i64 0)) (by omega) 14 (.int .i64 0)) (by omega) 15 (.bool false))
    clear h2 hP h3
    go_wp2_with fail
    have hP := HP.out
    have q0 := hP.look 0; have q1 := hP.look 1; have q2 := hP.look 2; have q3 := hP.look 3; have q4 := hP.look 4; have q5 := hP.look 5; have q6 := hP.look 6; have q7 := hP.look 7; have q8 := hP.look 8; have q9 := hP.look 9; have q10 := hP.look 10; have q11 := hP.look 11; have q12 := hP.look 12; have q13 := hP.look 13; have q14 := hP.look 14; have q15 := hP.look 15
    simp at q0 q1 q2 q3 q4 q5 q6 q7 q8 q9 q10 q11 q12 q13 q14 q15
    refine bodyPost_ret (v := .tuple #[.agg #[.slice none 0 0, .slice none 0 0, .int .i64 0, .int .i64 0, .int .i64 0, .int .i64 0, .int .i64 0, .int .i64 0, .int .i64 0, .int .i64 0, .int .i64 0, .int .i64 0, .int .i64 0, .int .i64 0, .int .i64 0, .bool false], .bool false]) (by simp [results, Tryd.results28, go_sem, q0, q1, q2, q3, q4, q5, q6, q7, q8, q9, q10, q11, q12, q13, q14, q15]) rfl ⟨rfl, HGF.out⟩

  · have hf1 : 300 < fuel := by omega
    have hf2 : 0 ≤ fuel := by omega
    clear hf hf0
    go_enter Tryd.func28, Tryd.ntmps28
    go_upto_region 1 with (fail)
    rw [HW0.out]
    clear HW0
    go_wp2_with fail
    refine HVC.out.mono ?_
    rintro e w1 ⟨rfl, hgr⟩
    have p1 := E1.out.grown hgr (by intro e; cases e)
    have E1b := shade p1
    have E2b := shade (E2.out.grown hgr (by intro e; cases e))
    have E3b := shade (grown_same E3.out hgr)
    have N1b := shade (N1.out.on hgr)
    have N2b := shade (N2.out.on hgr)
    have HCb := shade (HC.out.on hgr)
    have x0 := p1.look 0; have x1 := p1.look 1; have x2 := p1.look 2
    simp at x0 x1 x2
    clear E1 E2 E3 N1 N2 HC hgr HVC p1
    go_wp2_with fail
    refine (ValidMachine_any at' A1 A2 n1 n2 c1 c2 f1 f2 _ N1b.out N2b.out).mono ?_
    rw [HM.out]
    rintro e w2 ⟨rfl, hgr⟩
    have h2 := (E2b.out.grown hgr (by intro e; cases e))
    have h3 := (grown_same E3b.out hgr)
    clear hgr
    have r0 := h2.look 0; have t0 := h2.free 0; have r1 := h2.look 1; have t1 := h2.free 1; have r2 := h2.look 2; have t2 := h2.free 2; have r3 := h2.look 3; have t3 := h2.free 3; have r4 := h2.look 4; have t4 := h2.free 4; have r5 := h2.look 5; have t5 := h2.free 5; have r6 := h2.look 6; have t6 := h2.free 6; have r7 := h2.look 7; have t7 := h2.free 7; have r8 := h2.look 8; have t8 := h2.free 8; have r9 := h2.look 9; have t9 := h2.free 9; have r10 := h2.look 10; have t10 := h2.free 10; have r11 := h2.look 11; have t11 := h2.free 11; have r12 := h2.look 12; have t12 := h2.free 12; have r13 := h2.look 13; have t13 := h2.free 13; have r14 := h2.look 14; have t14 := h2.free 14; have r15 := h2.look 15; have t15 := h2.free 15
    simp at r0 r1 r2 r3 r4 r5 r6 r7 r8 r9 r10 r11 r12 r13 r14 r15
    have hP := ((((((((((((((((h2.put 0 (.slice none 0 0)).put 1 (.slice none 0 0)).put 2 (.int .i64 0)).put 3 (.int .i64 0)).put 4 (.int .i64 0)).put 5 (.int .i64 0)).put 6 (.int .i64 0)).put 7 (.int .i64 0)).put 8 (.int .i64 0)).put 9 (.int .i64 0)).put 10 (.int .i64 0)).put 11 (.int .i64 0)).put 12 (.int .i64 0)).put 13 (.int .i64 0)).put 14 (.int .i64 0)).put 15 (.bool false))
    simp at hP
    have HP := shade hP
    have HGF := shade (grown_put (r := w.heap.size + 1) (grown_put (r := w.heap.size + 1) (grown_put (r := w.heap.size + 1) (grown_put (r := w.heap.size + 1) (grown_put (r := w.heap.size + 1) (grown_put (r := w.heap.size + 1) (grown_put (r := w.heap.size + 1) (grown_put (r := w.heap.size + 1) (grown_put (r := w.heap.size + 1) (grown_put (r := w.heap.size + 1) (grown_put (r := w.heap.size + 1) (grown_put (r := w.heap.size + 1) (grown_put (r := w.heap.size + 1) (grown_put (r := w.heap.size + 1) (grown_put (r := w.heap.size + 1) (grown_put (r := w.heap.size + 1) h3 (by omega) 0 (.slice none 0 0)) (by omega) 1 (.slice none 0 0)) (by omega) 2 (.int .i64 0)) (by omega) 3 (.int .i64 0)) (by omega) 4 (.int .i64 0)) (by omega) 5 (.int .i64 0)) (by omega) 6 (.int .i64 0)) (by omega) 7 (.int .i64 0)) (by omega) 8 (.int .i64 0)) (by omega) 9 (.int .i64 0)) (by omega) 10 (.int .i64 0)) (by omega) 11 (.int .i64 0)) (by omega) 12 (.int .i64 0)) (by omega) 13 (.int .i64 0)) (by omega) 14 (.int .i64 0)) (by omega) 15 (.bool false))
    clear h2 hP h3
    go_wp2_with fail
    have hP := HP.out
    have q0 := hP.look 0; have q1 := hP.look 1; have q2 := hP.look 2; have q3 := hP.look 3; have q4 := hP.look 4; have q5 := hP.look 5; have q6 := hP.look 6; have q7 := hP.look 7; have q8 := hP.look 8; have q9 := hP.look 9; have q10 := hP.look 10; have q11 := hP.look 11; have q12 := hP.look 12; have q13 := hP.look 13; have q14 := hP.look 14; have q15 := hP.look 15
    simp at q0 q1 q2 q3 q4 q5 q6 q7 q8 q9 q10 q11 q12 q13 q14 q15
    refine bodyPost_ret (v := .tuple #[.agg #[.slice none 0 0, .slice none 0 0, .int .i64 0, .int .i64 0, .int .i64 0, .int .i64 0, .int .i64 0, .int .i64 0, .int .i64 0, .int .i64 0, .int .i64 0, .int .i64 0, .int .i64 0, .int .i64 0, .int .i64 0, .bool false], .bool false]) (by simp [results, Tryd.results28, go_sem, q0, q1, q2, q3, q4, q5, q6, q7, q8, q9, q10, q11, q12, q13, q14, q15]) rfl ⟨rfl, HGF.out⟩


end Go.Proofs.YtcfnoihjpiklhaaDoor

namespace Go.Proofs.YtcfnoihjpiklhaaDoor
open Go.RowKit
set_option linter.unusedSimpArgs false
/-- The cells of a run. -/
abbrev runC (A : Option Addr) (len cap : Nat) (A3 : Option Addr) (k c3 : Nat) (F : Nat → Ins) (s : Sta) : Array Value := #[.slice A len cap, .slice A3 k c3, .int .i64 (sN F s k).at', .int .i64 ((sN F s k).r 0), .int .i64 ((sN F s k).r 1), .int .i64 ((sN F s k).r 2), .int .i64 ((sN F s k).r 3), .int .i64 ((sN F s k).m 0), .int .i64 ((sN F s k).m 1), .int .i64 ((sN F s k).m 2), .int .i64 ((sN F s k).m 3), .int .i64 ((sN F s k).m 4), .int .i64 ((sN F s k).m 5), .int .i64 ((sN F s k).m 6), .int .i64 ((sN F s k).m 7), .bool (sHalt len F (sN F s k))]
theorem put_run (W : World) (r : Nat) (A : Option Addr) (len cap : Nat) (A3 : Option Addr) (k c3 : Nat) (F : Nat → Ins) (s : Sta) (h : Holds5 W r 62 #[.slice A len cap, .slice none 0 0, .int .i64 0, .int .i64 0, .int .i64 0, .int .i64 0, .int .i64 0, .int .i64 0, .int .i64 0, .int .i64 0, .int .i64 0, .int .i64 0, .int .i64 0, .int .i64 0, .int .i64 0, .bool false]) :
    Holds5 (((((((((((((((W.setCell ⟨r, 1, none⟩ (.slice A3 k c3)).setCell ⟨r, 2, none⟩ (.int .i64 (sN F s k).at')).setCell ⟨r, 3, none⟩ (.int .i64 ((sN F s k).r 0))).setCell ⟨r, 4, none⟩ (.int .i64 ((sN F s k).r 1))).setCell ⟨r, 5, none⟩ (.int .i64 ((sN F s k).r 2))).setCell ⟨r, 6, none⟩ (.int .i64 ((sN F s k).r 3))).setCell ⟨r, 7, none⟩ (.int .i64 ((sN F s k).m 0))).setCell ⟨r, 8, none⟩ (.int .i64 ((sN F s k).m 1))).setCell ⟨r, 9, none⟩ (.int .i64 ((sN F s k).m 2))).setCell ⟨r, 10, none⟩ (.int .i64 ((sN F s k).m 3))).setCell ⟨r, 11, none⟩ (.int .i64 ((sN F s k).m 4))).setCell ⟨r, 12, none⟩ (.int .i64 ((sN F s k).m 5))).setCell ⟨r, 13, none⟩ (.int .i64 ((sN F s k).m 6))).setCell ⟨r, 14, none⟩ (.int .i64 ((sN F s k).m 7))).setCell ⟨r, 15, none⟩ (.bool (sHalt len F (sN F s k)))) r 62 (runC A len cap A3 k c3 F s) ∧ W.grownBy (((((((((((((((W.setCell ⟨r, 1, none⟩ (.slice A3 k c3)).setCell ⟨r, 2, none⟩ (.int .i64 (sN F s k).at')).setCell ⟨r, 3, none⟩ (.int .i64 ((sN F s k).r 0))).setCell ⟨r, 4, none⟩ (.int .i64 ((sN F s k).r 1))).setCell ⟨r, 5, none⟩ (.int .i64 ((sN F s k).r 2))).setCell ⟨r, 6, none⟩ (.int .i64 ((sN F s k).r 3))).setCell ⟨r, 7, none⟩ (.int .i64 ((sN F s k).m 0))).setCell ⟨r, 8, none⟩ (.int .i64 ((sN F s k).m 1))).setCell ⟨r, 9, none⟩ (.int .i64 ((sN F s k).m 2))).setCell ⟨r, 10, none⟩ (.int .i64 ((sN F s k).m 3))).setCell ⟨r, 11, none⟩ (.int .i64 ((sN F s k).m 4))).setCell ⟨r, 12, none⟩ (.int .i64 ((sN F s k).m 5))).setCell ⟨r, 13, none⟩ (.int .i64 ((sN F s k).m 6))).setCell ⟨r, 14, none⟩ (.int .i64 ((sN F s k).m 7))).setCell ⟨r, 15, none⟩ (.bool (sHalt len F (sN F s k)))) (some r) := by
  refine ⟨?_, ?_⟩
  · have hP := (((((((((((((((h.put 1 (.slice A3 k c3)).put 2 (.int .i64 (sN F s k).at')).put 3 (.int .i64 ((sN F s k).r 0))).put 4 (.int .i64 ((sN F s k).r 1))).put 5 (.int .i64 ((sN F s k).r 2))).put 6 (.int .i64 ((sN F s k).r 3))).put 7 (.int .i64 ((sN F s k).m 0))).put 8 (.int .i64 ((sN F s k).m 1))).put 9 (.int .i64 ((sN F s k).m 2))).put 10 (.int .i64 ((sN F s k).m 3))).put 11 (.int .i64 ((sN F s k).m 4))).put 12 (.int .i64 ((sN F s k).m 5))).put 13 (.int .i64 ((sN F s k).m 6))).put 14 (.int .i64 ((sN F s k).m 7))).put 15 (.bool (sHalt len F (sN F s k))))
    simp at hP
    exact hP
  · exact grown_same (grown_same (grown_same (grown_same (grown_same (grown_same (grown_same (grown_same (grown_same (grown_same (grown_same (grown_same (grown_same (grown_same (grown_set _ _ _) (grown_set _ _ _)) (grown_set _ _ _)) (grown_set _ _ _)) (grown_set _ _ _)) (grown_set _ _ _)) (grown_set _ _ _)) (grown_set _ _ _)) (grown_set _ _ _)) (grown_set _ _ _)) (grown_set _ _ _)) (grown_set _ _ _)) (grown_set _ _ _)) (grown_set _ _ _)) (grown_set _ _ _)
/-- What runOf leaves of a program that may be run. -/
def YesRun (A : Option Addr) (len cap : Nat) (F : Nat → Ins) (s : Sta) (fuel : Nat) (w : World) (e : Ending) (w' : World) : Prop :=
  ∃ (k : Nat) (A3 : Option Addr) (c3 : Nat), RunEnd len F s fuel k ∧ e = .returned (.tuple #[.agg (runC A len cap A3 k c3 F s), .bool true]) ∧ Stas w' A3 k (sN F s) ∧ (∀ b off, A3 = some ⟨b, off, none⟩ → w.heap.size ≤ b ∧ b < w'.heap.size) ∧ w.grownBy w' none
set_option maxRecDepth 100000 in
set_option maxHeartbeats 16000000 in
theorem runOf_yes (A : Option Addr) (len cap : Nat) (F : Nat → Ins) (s : Sta) (b1 o1 c1 b2 o2 c2 : Nat) (fuel : Nat) (w : World) (hg : WT w) (hl : len ≤ 9223372036854775807) (hC : Code w A len F) (h1 : Nums w (some ⟨b1, o1, none⟩) 4 s.r) (h2 : Nums w (some ⟨b2, o2, none⟩) 8 s.m) (hv : vcB len F = true) (hm : vmB s.at' 4 8 s.r s.m = true) (hf : fuel ≤ 300) : Calls Tryd.prog 28 #[.slice A len cap, MV s.at' (some ⟨b1, o1, none⟩) 4 c1 (some ⟨b2, o2, none⟩) 8 c2, .int .i64 fuel] w (YesRun A len cap F s fuel w) := by
  obtain ⟨⟨t0, t1⟩, _, _, k1, k2⟩ := vmB_parts hm
  have hok : OkS s := okS_of hm
  have HGW := shade hg
  have HSV := shade (SV_self s.at' s.r s.m k1 k2)
  obtain ⟨W0, hW0⟩ : ∃ W0, (w.alloc (.cells #[.int .i64 s.at', .slice (some ⟨b1, o1, none⟩) 4 c1, .slice (some ⟨b2, o2, none⟩) 8 c2] 26)).alloc (.cells #[.slice none 0 0, .slice none 0 0, .int .i64 0, .int .i64 0, .int .i64 0, .int .i64 0, .int .i64 0, .int .i64 0, .int .i64 0, .int .i64 0, .int .i64 0, .int .i64 0, .int .i64 0, .int .i64 0, .int .i64 0, .bool false] 62) = W0 := ⟨_, rfl⟩
  have e1 : Holds5 W0 w.heap.size 26 #[.int .i64 s.at', .slice (some ⟨b1, o1, none⟩) 4 c1, .slice (some ⟨b2, o2, none⟩) 8 c2] := by
    rw [← hW0]
    exact (Holds5.fresh w 26 #[.int .i64 s.at', .slice (some ⟨b1, o1, none⟩) 4 c1, .slice (some ⟨b2, o2, none⟩) 8 c2]).alloc _
  have e2 : Holds5 W0 (w.heap.size + 1) 62 #[.slice none 0 0, .slice none 0 0, .int .i64 0, .int .i64 0, .int .i64 0, .int .i64 0, .int .i64 0, .int .i64 0, .int .i64 0, .int .i64 0, .int .i64 0, .int .i64 0, .int .i64 0, .int .i64 0, .int .i64 0, .bool false] := by
    rw [← hW0]
    have := Holds5.fresh (w.alloc (.cells #[.int .i64 s.at', .slice (some ⟨b1, o1, none⟩) 4 c1, .slice (some ⟨b2, o2, none⟩) 8 c2] 26)) 62 #[.slice none 0 0, .slice none 0 0, .int .i64 0, .int .i64 0, .int .i64 0, .int .i64 0, .int .i64 0, .int .i64 0, .int .i64 0, .int .i64 0, .int .i64 0, .int .i64 0, .int .i64 0, .int .i64 0, .int .i64 0, .bool false]
    rwa [World.size_alloc] at this
  have e3 : w.grownBy W0 none := by
    rw [← hW0]
    exact grown_same (World.grownBy_alloc _ _ _) (World.grownBy_alloc _ _ _)
  have HG := shade (hg.below (below_of_grown e3) (wt_lt hg))
  have HC := shade (hC.on e3)
  have HVC := shade (ValidCode_any A len cap F W0 (hg.below (below_of_grown e3) (wt_lt hg)) hl (hC.on e3))
  have N1 := shade (h1.on e3)
  have N2 := shade (h2.on e3)
  have HW0 := shade hW0
  have E1 := shade e1; have E2 := shade e2; have E3 := shade e3
  rw [hv] at HVC
  have HM := shade hm
  have HV := shade hv; have HOK := shade hok
  clear e1 e2 e3 hW0 hg hC hv hm h1 h2 t0 t1 k1 k2 hok
  go_enter Tryd.func28, Tryd.ntmps28
  go_upto_region 1 with (fail)
  rw [HW0.out]
  clear HW0
  go_wp2_with fail
  refine HVC.out.mono ?_
  rintro e w1 ⟨rfl, hgr⟩
  have p1 := E1.out.grown hgr (by intro e; cases e)
  have E1b := shade p1
  have E2b := shade (E2.out.grown hgr (by intro e; cases e))
  have E3b := shade (grown_same E3.out hgr)
  have N1b := shade (N1.out.on hgr)
  have N2b := shade (N2.out.on hgr)
  have HCb := shade (HC.out.on hgr)
  have x0 := p1.look 0; have x1 := p1.look 1; have x2 := p1.look 2
  simp at x0 x1 x2
  clear E1 E2 E3 N1 N2 HC hgr HVC p1
  go_wp2_with fail
  refine (ValidMachine_any s.at' (some ⟨b1, o1, none⟩) (some ⟨b2, o2, none⟩) 4 8 c1 c2 s.r s.m _ N1b.out N2b.out).mono ?_
  rw [HM.out]
  rintro e w2 ⟨rfl, hgr⟩
  have p1 := E1b.out.grown hgr (by intro e; cases e)
  have p2 := E2b.out.grown hgr (by intro e; cases e)
  have p3 := grown_same E3b.out hgr
  have m1 := N1b.out.on hgr
  have m2 := N2b.out.on hgr
  have m3 := HCb.out.on hgr
  clear x0 x1 x2 E1b E2b E3b N1b N2b HCb hgr
  go_upto_region 4 with (fail)
  have hga := World.grownBy_alloc w2 (.cells #[.slice A len cap, .slice none 0 0, .int .i64 0, .int .i64 0, .int .i64 0, .int .i64 0, .int .i64 0, .int .i64 0, .int .i64 0, .int .i64 0, .int .i64 0, .int .i64 0, .int .i64 0, .int .i64 0, .int .i64 0, .bool false] 62) none
  have e4 : Holds5 (w2.alloc (.cells #[.slice A len cap, .slice none 0 0, .int .i64 0, .int .i64 0, .int .i64 0, .int .i64 0, .int .i64 0, .int .i64 0, .int .i64 0, .int .i64 0, .int .i64 0, .int .i64 0, .int .i64 0, .int .i64 0, .int .i64 0, .bool false] 62)) w2.heap.size 62 #[.slice A len cap, .slice none 0 0, .int .i64 0, .int .i64 0, .int .i64 0, .int .i64 0, .int .i64 0, .int .i64 0, .int .i64 0, .int .i64 0, .int .i64 0, .int .i64 0, .int .i64 0, .int .i64 0, .int .i64 0, .bool false] := Holds5.fresh w2 62 #[.slice A len cap, .slice none 0 0, .int .i64 0, .int .i64 0, .int .i64 0, .int .i64 0, .int .i64 0, .int .i64 0, .int .i64 0, .int .i64 0, .int .i64 0, .int .i64 0, .int .i64 0, .int .i64 0, .int .i64 0, .bool false]
  have E1 := shade (p1.alloc (.cells #[.slice A len cap, .slice none 0 0, .int .i64 0, .int .i64 0, .int .i64 0, .int .i64 0, .int .i64 0, .int .i64 0, .int .i64 0, .int .i64 0, .int .i64 0, .int .i64 0, .int .i64 0, .int .i64 0, .int .i64 0, .bool false] 62))
  have E2 := shade (p2.alloc (.cells #[.slice A len cap, .slice none 0 0, .int .i64 0, .int .i64 0, .int .i64 0, .int .i64 0, .int .i64 0, .int .i64 0, .int .i64 0, .int .i64 0, .int .i64 0, .int .i64 0, .int .i64 0, .int .i64 0, .int .i64 0, .bool false] 62))
  have E3 := shade (grown_same p3 hga)
  have N1 := shade (m1.on hga)
  have N2 := shade (m2.on hga)
  have HC := shade (m3.on hga)
  have hz2 := p2.inside
  have hzr : w2.heap.size < (w2.alloc (.cells #[.slice A len cap, .slice none 0 0, .int .i64 0, .int .i64 0, .int .i64 0, .int .i64 0, .int .i64 0, .int .i64 0, .int .i64 0, .int .i64 0, .int .i64 0, .int .i64 0, .int .i64 0, .int .i64 0, .int .i64 0, .bool false] 62)).heap.size := by rw [World.size_alloc]; omega
  have HZR := shade hzr
  clear p1 p2 p3 m1 m2 m3 hga hzr
  obtain ⟨R, hR⟩ : ∃ R, w2.heap.size = R := ⟨_, rfl⟩
  rw [hR] at e4 HZR hz2
  obtain ⟨W2, hW⟩ : ∃ W2, w2.alloc (.cells #[.slice A len cap, .slice none 0 0, .int .i64 0, .int .i64 0, .int .i64 0, .int .i64 0, .int .i64 0, .int .i64 0, .int .i64 0, .int .i64 0, .int .i64 0, .int .i64 0, .int .i64 0, .int .i64 0, .int .i64 0, .bool false] 62) = W2 := ⟨_, rfl⟩
  rw [hW] at e4 E1 E2 E3 N1 N2 HC HZR ⊢
  rw [hR]
  have E4 := shade e4
  clear e4 hW hR
  have x0 := E1.out.look 0; have x1 := E1.out.look 1; have x2 := E1.out.look 2; have y0 := E4.out.look 0
  simp at x0 x1 x2 y0
  go_cut [] from 28 to 41 (fun wx => ∃ (k : Nat) (A3 : Option Addr) (c3 : Nat), RunEnd len F s fuel k ∧ Holds5 wx R 62 (runC A len cap A3 k c3 F s) ∧ Stas wx A3 k (sN F s) ∧ (∀ b off, A3 = some ⟨b, off, none⟩ → w.heap.size + 1 < b ∧ b < wx.heap.size) ∧ Holds5 wx (w.heap.size + 1) 62 #[.slice none 0 0, .slice none 0 0, .int .i64 0, .int .i64 0, .int .i64 0, .int .i64 0, .int .i64 0, .int .i64 0, .int .i64 0, .int .i64 0, .int .i64 0, .int .i64 0, .int .i64 0, .int .i64 0, .int .i64 0, .bool false] ∧ w.grownBy wx none)
  case first =>
    go_region_with (first
      | (go_at_call 48; refine (stateOf_any s.at' b1 o1 b2 o2 c1 c2 s.r s.m _ (N1.out.on (grown_drew1 W2)) (N2.out.on (grown_drew1 W2))).mono ?_; rw [HSV.out]; rintro e w3 ⟨rfl, hgr⟩; have e1 := E1.out.drew.grown hgr (by intro e; cases e); have e2 := E2.out.drew.grown hgr (by intro e; cases e); have e3 := grown_same (grown_same E3.out (grown_drew1 W2)) hgr; have e4 := E4.out.drew.grown hgr (by intro e; cases e); have hz3 : R < w3.heap.size := Nat.lt_of_lt_of_le HZR.out hgr.size; have hc3 := (HC.out.on (grown_drew1 W2)).on hgr; have xx0 := e1.look 0; have xx1 := e1.look 1; have xx2 := e1.look 2; have yy0 := e4.look 0; simp at xx0 xx1 xx2 yy0; have G2 := shade e2; have G3 := shade e3; have G4 := shade e4; have GC := shade hc3; clear e1 e2 e3 e4 hgr hc3)
      | (go_at_call 46; refine (follow_any A len cap F s fuel _ (HGW.out.below (below_of_grown G3.out) (wt_lt HGW.out)) GC.out HV.out HOK.out hf).mono ?_; rintro e w4 ⟨k, A3, c3, hre, rfl, hst, hsep, hgr⟩; have h4 := G4.out.grown hgr (by intro e; cases e); have hq2 := G2.out.grown hgr (by intro e; cases e); have hq3 := grown_same G3.out hgr; have f1 := h4.free 1; have f2 := h4.free 2; have f3 := h4.free 3; have f4 := h4.free 4; have f5 := h4.free 5; have f6 := h4.free 6; have f7 := h4.free 7; have f8 := h4.free 8; have f9 := h4.free 9; have f10 := h4.free 10; have f11 := h4.free 11; have f12 := h4.free 12; have f13 := h4.free 13; have f14 := h4.free 14; have f15 := h4.free 15; have l1 := h4.look 1; have l2 := h4.look 2; have l3 := h4.look 3; have l4 := h4.look 4; have l5 := h4.look 5; have l6 := h4.look 6; have l7 := h4.look 7; have l8 := h4.look 8; have l9 := h4.look 9; have l10 := h4.look 10; have l11 := h4.look 11; have l12 := h4.look 12; have l13 := h4.look 13; have l14 := h4.look 14; have l15 := h4.look 15; simp at l1 l2 l3 l4 l5 l6 l7 l8 l9 l10 l11 l12 l13 l14 l15; have hp := put_run w4 R A len cap A3 k c3 F s h4; have F1 := shade hp.1; have F2 := shade (hst.grown hp.2 (by intro b off e e'; injection e' with e'; have := hsep b off e; omega)); have F3 := shade (hq2.grown hp.2 (by intro e; injection e; omega)); have F4 := shade (grown_then hq3 hp.2 (by omega)); have F5 := shade hsep; have F6 := shade hp.2.size; have F7 := shade hre; have F8 := shade hp.2; clear h4 hq2 hq3 hp hst hsep hgr hre))
    all_goals (go_wp2_with fail; go_meet; exact ⟨k, A3, c3, F7.out, F1.out, F2.out, fun b off e => ⟨by have := F5.out b off e; omega, Nat.lt_of_lt_of_le (F5.out b off e).2 F6.out⟩, F3.out, F4.out⟩)
  case rest =>
    clear E1 E2 E3 N1 N2 HC E4 HZR x0 x1 x2 y0 HSV HM HV HOK HG HGW
    obtain ⟨k, A3, c3, hre, hE, hst, hsep, hZ, hg⟩ := hcut
    have y0 := hE.look 0; have y1 := hE.look 1; have y2 := hE.look 2; have y3 := hE.look 3; have y4 := hE.look 4; have y5 := hE.look 5; have y6 := hE.look 6; have y7 := hE.look 7; have y8 := hE.look 8; have y9 := hE.look 9; have y10 := hE.look 10; have y11 := hE.look 11; have y12 := hE.look 12; have y13 := hE.look 13; have y14 := hE.look 14; have y15 := hE.look 15
    simp at y0 y1 y2 y3 y4 y5 y6 y7 y8 y9 y10 y11 y12 y13 y14 y15
    have z0 := hZ.look 0; have t0 := hZ.free 0; have z1 := hZ.look 1; have t1 := hZ.free 1; have z2 := hZ.look 2; have t2 := hZ.free 2; have z3 := hZ.look 3; have t3 := hZ.free 3; have z4 := hZ.look 4; have t4 := hZ.free 4; have z5 := hZ.look 5; have t5 := hZ.free 5; have z6 := hZ.look 6; have t6 := hZ.free 6; have z7 := hZ.look 7; have t7 := hZ.free 7; have z8 := hZ.look 8; have t8 := hZ.free 8; have z9 := hZ.look 9; have t9 := hZ.free 9; have z10 := hZ.look 10; have t10 := hZ.free 10; have z11 := hZ.look 11; have t11 := hZ.free 11; have z12 := hZ.look 12; have t12 := hZ.free 12; have z13 := hZ.look 13; have t13 := hZ.free 13; have z14 := hZ.look 14; have t14 := hZ.free 14; have z15 := hZ.look 15; have t15 := hZ.free 15
    simp at z0 z1 z2 z3 z4 z5 z6 z7 z8 z9 z10 z11 z12 z13 z14 z15
    have hP := ((((((((((((((((hZ.put 0 (.slice A len cap)).put 1 (.slice A3 k c3)).put 2 (.int .i64 (sN F s k).at')).put 3 (.int .i64 ((sN F s k).r 0))).put 4 (.int .i64 ((sN F s k).r 1))).put 5 (.int .i64 ((sN F s k).r 2))).put 6 (.int .i64 ((sN F s k).r 3))).put 7 (.int .i64 ((sN F s k).m 0))).put 8 (.int .i64 ((sN F s k).m 1))).put 9 (.int .i64 ((sN F s k).m 2))).put 10 (.int .i64 ((sN F s k).m 3))).put 11 (.int .i64 ((sN F s k).m 4))).put 12 (.int .i64 ((sN F s k).m 5))).put 13 (.int .i64 ((sN F s k).m 6))).put 14 (.int .i64 ((sN F s k).m 7))).put 15 (.bool (sHalt len F (sN F s k))))
    have hG := (grown_put (r := w.heap.size + 1) (grown_put (r := w.heap.size + 1) (grown_put (r := w.heap.size + 1) (grown_put (r := w.heap.size + 1) (grown_put (r := w.heap.size + 1) (grown_put (r := w.heap.size + 1) (grown_put (r := w.heap.size + 1) (grown_put (r := w.heap.size + 1) (grown_put (r := w.heap.size + 1) (grown_put (r := w.heap.size + 1) (grown_put (r := w.heap.size + 1) (grown_put (r := w.heap.size + 1) (grown_put (r := w.heap.size + 1) (grown_put (r := w.heap.size + 1) (grown_put (r := w.heap.size + 1) (grown_put (r := w.heap.size + 1) hg (by omega) 0 (.slice A len cap)) (by omega) 1 (.slice A3 k c3)) (by omega) 2 (.int .i64 (sN F s k).at')) (by omega) 3 (.int .i64 ((sN F s k).r 0))) (by omega) 4 (.int .i64 ((sN F s k).r 1))) (by omega) 5 (.int .i64 ((sN F s k).r 2))) (by omega) 6 (.int .i64 ((sN F s k).r 3))) (by omega) 7 (.int .i64 ((sN F s k).m 0))) (by omega) 8 (.int .i64 ((sN F s k).m 1))) (by omega) 9 (.int .i64 ((sN F s k).m 2))) (by omega) 10 (.int .i64 ((sN F s k).m 3))) (by omega) 11 (.int .i64 ((sN F s k).m 4))) (by omega) 12 (.int .i64 ((sN F s k).m 5))) (by omega) 13 (.int .i64 ((sN F s k).m 6))) (by omega) 14 (.int .i64 ((sN F s k).m 7))) (by omega) 15 (.bool (sHalt len F (sN F s k))))
    have hR := grown_same (grown_same (grown_same (grown_same (grown_same (grown_same (grown_same (grown_same (grown_same (grown_same (grown_same (grown_same (grown_same (grown_same (grown_same (grown_set (w := wc) (w.heap.size + 1) 0 (.slice A len cap)) (grown_set (w.heap.size + 1) 1 (.slice A3 k c3))) (grown_set (w.heap.size + 1) 2 (.int .i64 (sN F s k).at'))) (grown_set (w.heap.size + 1) 3 (.int .i64 ((sN F s k).r 0)))) (grown_set (w.heap.size + 1) 4 (.int .i64 ((sN F s k).r 1)))) (grown_set (w.heap.size + 1) 5 (.int .i64 ((sN F s k).r 2)))) (grown_set (w.heap.size + 1) 6 (.int .i64 ((sN F s k).r 3)))) (grown_set (w.heap.size + 1) 7 (.int .i64 ((sN F s k).m 0)))) (grown_set (w.heap.size + 1) 8 (.int .i64 ((sN F s k).m 1)))) (grown_set (w.heap.size + 1) 9 (.int .i64 ((sN F s k).m 2)))) (grown_set (w.heap.size + 1) 10 (.int .i64 ((sN F s k).m 3)))) (grown_set (w.heap.size + 1) 11 (.int .i64 ((sN F s k).m 4)))) (grown_set (w.heap.size + 1) 12 (.int .i64 ((sN F s k).m 5)))) (grown_set (w.heap.size + 1) 13 (.int .i64 ((sN F s k).m 6)))) (grown_set (w.heap.size + 1) 14 (.int .i64 ((sN F s k).m 7)))) (grown_set (w.heap.size + 1) 15 (.bool (sHalt len F (sN F s k))))
    simp at hP
    have HP := shade hP
    have HGF := shade hG
    have HST := shade (hst.grown hR (by
      intro b off e e'
      injection e' with e'
      have := hsep b off e
      omega))
    have HSP := shade hsep
    have HRE := shade hre
    have HSZ := shade hR.size
    clear hP hG hR hst hsep hre hE hZ hg
    go_wp2_with fail
    have hP := HP.out
    have q0 := hP.look 0; have q1 := hP.look 1; have q2 := hP.look 2; have q3 := hP.look 3; have q4 := hP.look 4; have q5 := hP.look 5; have q6 := hP.look 6; have q7 := hP.look 7; have q8 := hP.look 8; have q9 := hP.look 9; have q10 := hP.look 10; have q11 := hP.look 11; have q12 := hP.look 12; have q13 := hP.look 13; have q14 := hP.look 14; have q15 := hP.look 15
    simp at q0 q1 q2 q3 q4 q5 q6 q7 q8 q9 q10 q11 q12 q13 q14 q15
    refine bodyPost_ret (v := .tuple #[.agg (runC A len cap A3 k c3 F s), .bool true]) (by simp [results, Tryd.results28, go_sem, q0, q1, q2, q3, q4, q5, q6, q7, q8, q9, q10, q11, q12, q13, q14, q15]) rfl ⟨k, A3, c3, HRE.out, rfl, HST.out, fun b off e => ⟨by have := HSP.out b off e; omega, Nat.lt_of_lt_of_le (HSP.out b off e).2 HSZ.out⟩, HGF.out⟩

end Go.Proofs.YtcfnoihjpiklhaaDoor
