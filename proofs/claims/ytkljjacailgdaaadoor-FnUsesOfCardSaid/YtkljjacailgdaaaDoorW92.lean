/- runOf: the run of a program, or none. -/
import Derived.Test.YtkljjacailgdaaaDoorG90
import Derived.Deep.RegionHeld3
namespace Go.Proofs.YtkljjacailgdaaaDoor
open Go.RowKit
set_option linter.unusedSimpArgs false
/-- May the program be run? -/
def runB (len : Nat) (F : Nat → Ins) (at' : Int) (n1 n2 : Nat) (f1 f2 : Nat → Int) (fuel : Int) : Bool := vcB len F && vmB at' n1 n2 f1 f2 && inRB fuel 0 300
def NoRun (w : World) (e : Ending) (w' : World) : Prop := e = .returned (.tuple #[.agg #[.slice none 0 0, .slice none 0 0, .int .i64 0, .int .i64 0, .int .i64 0, .int .i64 0, .int .i64 0, .int .i64 0, .int .i64 0, .int .i64 0, .int .i64 0, .int .i64 0, .int .i64 0, .int .i64 0, .int .i64 0, .bool false], .bool false]) ∧ w.grownBy w' none
set_option maxHeartbeats 4000000 in
theorem runOf_code (A : Option Addr) (len cap : Nat) (F : Nat → Ins) (at' : Int) (A1 : Option Addr) (n1 c1 : Nat) (A2 : Option Addr) (n2 c2 : Nat) (f1 f2 : Nat → Int) (fuel : Int) (w : World) (hg : WT w) (hl : len ≤ 9223372036854775807) (hC : Code w A len F) (h1 : Nums w A1 n1 f1) (h2 : Nums w A2 n2 f2) (hv : vcB len F = false) : Calls Tryd.prog 66 #[.slice A len cap, MV at' A1 n1 c1 A2 n2 c2, .int .i64 fuel] w (NoRun w) := by
  obtain ⟨W0, hW0⟩ : ∃ W0, (w.alloc (.cells #[.int .i64 at', .slice A1 n1 c1, .slice A2 n2 c2] 31)).alloc (.cells #[.slice none 0 0, .slice none 0 0, .int .i64 0, .int .i64 0, .int .i64 0, .int .i64 0, .int .i64 0, .int .i64 0, .int .i64 0, .int .i64 0, .int .i64 0, .int .i64 0, .int .i64 0, .int .i64 0, .int .i64 0, .bool false] 84) = W0 := ⟨_, rfl⟩
  have e1 : Holds5 W0 w.heap.size 31 #[.int .i64 at', .slice A1 n1 c1, .slice A2 n2 c2] := by
    rw [← hW0]
    exact (Holds5.fresh w 31 #[.int .i64 at', .slice A1 n1 c1, .slice A2 n2 c2]).alloc _
  have e2 : Holds5 W0 (w.heap.size + 1) 84 #[.slice none 0 0, .slice none 0 0, .int .i64 0, .int .i64 0, .int .i64 0, .int .i64 0, .int .i64 0, .int .i64 0, .int .i64 0, .int .i64 0, .int .i64 0, .int .i64 0, .int .i64 0, .int .i64 0, .int .i64 0, .bool false] := by
    rw [← hW0]
    have := Holds5.fresh (w.alloc (.cells #[.int .i64 at', .slice A1 n1 c1, .slice A2 n2 c2] 31)) 84 #[.slice none 0 0, .slice none 0 0, .int .i64 0, .int .i64 0, .int .i64 0, .int .i64 0, .int .i64 0, .int .i64 0, .int .i64 0, .int .i64 0, .int .i64 0, .int .i64 0, .int .i64 0, .int .i64 0, .int .i64 0, .bool false]
    rwa [World.size_alloc] at this
  have e3 : w.grownBy W0 none := by
    rw [← hW0]
    exact grown_same (World.grownBy_alloc _ _ _) (World.grownBy_alloc _ _ _)
  have HG := shade (hg.below (below_of_grown e3) (wt_lt hg))
  have HC := shade (hC.on e3)
  have HVC := shade (ValidCode_any A len cap F W0 (hg.below (below_of_grown e3) (wt_lt hg)) hl (hC.on e3))
  have N1 := shade (h1.on e3)
  have N2 := shade (h2.on e3)
  have HW0 := shade hW0
  have E1 := shade e1; have E2 := shade e2; have E3 := shade e3
  rw [hv] at HVC
  clear e1 e2 e3 hW0 hg hC hv h1 h2
  go_enter Tryd.func66, Tryd.ntmps66
  go_upto_region 1 with (fail)
  rw [HW0.out]
  clear HW0
  go_wp2_with fail
  refine HVC.out.mono ?_
  rintro e w1 ⟨rfl, hgr⟩
  have h2 := (E2.out.grown hgr (by intro e; cases e))
  have h3 := (grown_same E3.out hgr)
  clear hgr
  have r0 := h2.look 0; have t0 := h2.free 0; have r1 := h2.look 1; have t1 := h2.free 1; have r2 := h2.look 2; have t2 := h2.free 2; have r3 := h2.look 3; have t3 := h2.free 3; have r4 := h2.look 4; have t4 := h2.free 4; have r5 := h2.look 5; have t5 := h2.free 5; have r6 := h2.look 6; have t6 := h2.free 6; have r7 := h2.look 7; have t7 := h2.free 7; have r8 := h2.look 8; have t8 := h2.free 8; have r9 := h2.look 9; have t9 := h2.free 9; have r10 := h2.look 10; have t10 := h2.free 10; have r11 := h2.look 11; have t11 := h2.free 11; have r12 := h2.look 12; have t12 := h2.free 12; have r13 := h2.look 13; have t13 := h2.free 13; have r14 := h2.look 14; have t14 := h2.free 14; have r15 := h2.look 15; have t15 := h2.free 15
  simp at r0 r1 r2 r3 r4 r5 r6 r7 r8 r9 r10 r11 r12 r13 r14 r15
  have hP := ((((((((((((((((h2.put 0 (.slice none 0 0)).put 1 (.slice none 0 0)).put 2 (.int .i64 0)).put 3 (.int .i64 0)).put 4 (.int .i64 0)).put 5 (.int .i64 0)).put 6 (.int .i64 0)).put 7 (.int .i64 0)).put 8 (.int .i64 0)).put 9 (.int .i64 0)).put 10 (.int .i64 0)).put 11 (.int .i64 0)).put 12 (.int .i64 0)).put 13 (.int .i64 0)).put 14 (.int .i64 0)).put 15 (.bool false))
  simp at hP
  have HP := shade hP
  have HGF := shade (grown_put (r := w.heap.size + 1) (grown_put (r := w.heap.size + 1) (grown_put (r := w.heap.size + 1) (grown_put (r := w.heap.size + 1) (grown_put (r := w.heap.size + 1) (grown_put (r := w.heap.size + 1) (grown_put (r := w.heap.size + 1) (grown_put (r := w.heap.size + 1) (grown_put (r := w.heap.size + 1) (grown_put (r := w.heap.size + 1) (grown_put (r := w.heap.size + 1) (grown_put (r := w.heap.size + 1) (grown_put (r := w.heap.size + 1) (grown_put (r := w.heap.size + 1) (grown_put (r := w.heap.size + 1) (grown_put (r := w.heap.size + 1) h3 (by omega) 0 (.slice none 0 0)) (by omega) 1 (.slice none 0 0)) (by omega) 2 (.int .i64 0)) (by omega) 3 (.int .i64 0)) (by omega) 4 (.int .i64 0)) (by omega) 5 (.int .i64 0)) (by omega) 6 (.int .i64 0)) (by omega) 7 (.int .i64 0)) (by omega) 8 (.int .i64 0)) (by omega) 9 (.int .i64 0)) (by omega) 10 (.int .i64 0)) (by omega) 11 (.int .i64 0)) (by omega) 12 (.int .i64 0)) (by omega) 13 (.int .i64 0)) (by omega) 14 (.int .i64 0)) (by omega) 15 (.bool false))
  clear h2 hP h3
  go_wp2_with fail
  have hP := HP.out
  have q0 := hP.look 0; have q1 := hP.look 1; have q2 := hP.look 2; have q3 := hP.look 3; have q4 := hP.look 4; have q5 := hP.look 5; have q6 := hP.look 6; have q7 := hP.look 7; have q8 := hP.look 8; have q9 := hP.look 9; have q10 := hP.look 10; have q11 := hP.look 11; have q12 := hP.look 12; have q13 := hP.look 13; have q14 := hP.look 14; have q15 := hP.look 15
  simp at q0 q1 q2 q3 q4 q5 q6 q7 q8 q9 q10 q11 q12 q13 q14 q15
  refine bodyPost_ret (v := .tuple #[.agg #[.slice none 0 0, .slice none 0 0, .int .i64 0, .int .i64 0, .int .i64 0, .int .i64 0, .int .i64 0, .int .i64 0, .int .i64 0, .int .i64 0, .int .i64 0, .int .i64 0, .int .i64 0, .int .i64 0, .int .i64 0, .bool false], .bool false]) (by simp [results, Tryd.results66, go_sem, q0, q1, q2, q3, q4, q5, q6, q7, q8, q9, q10, q11, q12, q13, q14, q15]) rfl ⟨rfl, HGF.out⟩

set_option maxHeartbeats 4000000 in
theorem runOf_mach (A : Option Addr) (len cap : Nat) (F : Nat → Ins) (at' : Int) (A1 : Option Addr) (n1 c1 : Nat) (A2 : Option Addr) (n2 c2 : Nat) (f1 f2 : Nat → Int) (fuel : Int) (w : World) (hg : WT w) (hl : len ≤ 9223372036854775807) (hC : Code w A len F) (h1 : Nums w A1 n1 f1) (h2 : Nums w A2 n2 f2) (hv : vcB len F = true) (hm : vmB at' n1 n2 f1 f2 = false) : Calls Tryd.prog 66 #[.slice A len cap, MV at' A1 n1 c1 A2 n2 c2, .int .i64 fuel] w (NoRun w) := by
  obtain ⟨W0, hW0⟩ : ∃ W0, (w.alloc (.cells #[.int .i64 at', .slice A1 n1 c1, .slice A2 n2 c2] 31)).alloc (.cells #[.slice none 0 0, .slice none 0 0, .int .i64 0, .int .i64 0, .int .i64 0, .int .i64 0, .int .i64 0, .int .i64 0, .int .i64 0, .int .i64 0, .int .i64 0, .int .i64 0, .int .i64 0, .int .i64 0, .int .i64 0, .bool false] 84) = W0 := ⟨_, rfl⟩
  have e1 : Holds5 W0 w.heap.size 31 #[.int .i64 at', .slice A1 n1 c1, .slice A2 n2 c2] := by
    rw [← hW0]
    exact (Holds5.fresh w 31 #[.int .i64 at', .slice A1 n1 c1, .slice A2 n2 c2]).alloc _
  have e2 : Holds5 W0 (w.heap.size + 1) 84 #[.slice none 0 0, .slice none 0 0, .int .i64 0, .int .i64 0, .int .i64 0, .int .i64 0, .int .i64 0, .int .i64 0, .int .i64 0, .int .i64 0, .int .i64 0, .int .i64 0, .int .i64 0, .int .i64 0, .int .i64 0, .bool false] := by
    rw [← hW0]
    have := Holds5.fresh (w.alloc (.cells #[.int .i64 at', .slice A1 n1 c1, .slice A2 n2 c2] 31)) 84 #[.slice none 0 0, .slice none 0 0, .int .i64 0, .int .i64 0, .int .i64 0, .int .i64 0, .int .i64 0, .int .i64 0, .int .i64 0, .int .i64 0, .int .i64 0, .int .i64 0, .int .i64 0, .int .i64 0, .int .i64 0, .bool false]
    rwa [World.size_alloc] at this
  have e3 : w.grownBy W0 none := by
    rw [← hW0]
    exact grown_same (World.grownBy_alloc _ _ _) (World.grownBy_alloc _ _ _)
  have HG := shade (hg.below (below_of_grown e3) (wt_lt hg))
  have HC := shade (hC.on e3)
  have HVC := shade (ValidCode_any A len cap F W0 (hg.below (below_of_grown e3) (wt_lt hg)) hl (hC.on e3))
  have N1 := shade (h1.on e3)
  have N2 := shade (h2.on e3)
  have HW0 := shade hW0
  have E1 := shade e1; have E2 := shade e2; have E3 := shade e3
  rw [hv] at HVC
  have HM := shade hm
  clear e1 e2 e3 hW0 hg hC hv hm h1 h2
  go_enter Tryd.func66, Tryd.ntmps66
  go_upto_region 1 with (fail)
  rw [HW0.out]
  clear HW0
  go_wp2_with fail
  refine HVC.out.mono ?_
  rintro e w1 ⟨rfl, hgr⟩
  have p1 := E1.out.grown hgr (by intro e; cases e)
  have E1b := shade p1
  have E2b := shade (E2.out.grown hgr (by intro e; cases e))
  have E3b := shade (grown_same E3.out hgr)
  have N1b := shade (N1.out.on hgr)
  have N2b := shade (N2.out.on hgr)
  have HCb := shade (HC.out.on hgr)
  have x0 := p1.look 0; have x1 := p1.look 1; have x2 := p1.look 2
  simp at x0 x1 x2
  clear E1 E2 E3 N1 N2 HC hgr HVC p1
  go_wp2_with fail
  refine (ValidMachine_any at' A1 A2 n1 n2 c1 c2 f1 f2 _ N1b.out N2b.out).mono ?_
  rw [HM.out]
  rintro e w2 ⟨rfl, hgr⟩
  have h2 := (E2b.out.grown hgr (by intro e; cases e))
  have h3 := (grown_same E3b.out hgr)
  clear hgr
  have r0 := h2.look 0; have t0 := h2.free 0; have r1 := h2.look 1; have t1 := h2.free 1; have r2 := h2.look 2; have t2 := h2.free 2; have r3 := h2.look 3; have t3 := h2.free 3; have r4 := h2.look 4; have t4 := h2.free 4; have r5 := h2.look 5; have t5 := h2.free 5; have r6 := h2.look 6; have t6 := h2.free 6; have r7 := h2.look 7; have t7 := h2.free 7; have r8 := h2.look 8; have t8 := h2.free 8; have r9 := h2.look 9; have t9 := h2.free 9; have r10 := h2.look 10; have t10 := h2.free 10; have r11 := h2.look 11; have t11 := h2.free 11; have r12 := h2.look 12; have t12 := h2.free 12; have r13 := h2.look 13; have t13 := h2.free 13; have r14 := h2.look 14; have t14 := h2.free 14; have r15 := h2.look 15; have t15 := h2.free 15
  simp at r0 r1 r2 r3 r4 r5 r6 r7 r8 r9 r10 r11 r12 r13 r14 r15
  have hP := ((((((((((((((((h2.put 0 (.slice none 0 0)).put 1 (.slice none 0 0)).put 2 (.int .i64 0)).put 3 (.int .i64 0)).put 4 (.int .i64 0)).put 5 (.int .i64 0)).put 6 (.int .i64 0)).put 7 (.int .i64 0)).put 8 (.int .i64 0)).put 9 (.int .i64 0)).put 10 (.int .i64 0)).put 11 (.int .i64 0)).put 12 (.int .i64 0)).put 13 (.int .i64 0)).put 14 (.int .i64 0)).put 15 (.bool false))
  simp at hP
  have HP := shade hP
  have HGF := shade (grown_put (r := w.heap.size + 1) (grown_put (r := w.heap.size + 1) (grown_put (r := w.heap.size + 1) (grown_put (r := w.heap.size + 1) (grown_put (r := w.heap.size + 1) (grown_put (r := w.heap.size + 1) (grown_put (r := w.heap.size + 1) (grown_put (r := w.heap.size + 1) (grown_put (r := w.heap.size + 1) (grown_put (r := w.heap.size + 1) (grown_put (r := w.heap.size + 1) (grown_put (r := w.heap.size + 1) (grown_put (r := w.heap.size + 1) (grown_put (r := w.heap.size + 1) (grown_put (r := w.heap.size + 1) (grown_put (r := w.heap.size + 1) h3 (by omega) 0 (.slice none 0 0)) (by omega) 1 (.slice none 0 0)) (by omega) 2 (.int .i64 0)) (by omega) 3 (.int .i64 0)) (by omega) 4 (.int .i64 0)) (by omega) 5 (.int .i64 0)) (by omega) 6 (.int .i64 0)) (by omega) 7 (.int .i64 0)) (by omega) 8 (.int .i64 0)) (by omega) 9 (.int .i64 0)) (by omega) 10 (.int .i64 0)) (by omega) 11 (.int .i64 0)) (by omega) 12 (.int .i64 0)) (by omega) 13 (.int .i64 0)) (by omega) 14 (.int .i64 0)) (by omega) 15 (.bool false))
  clear h2 hP h3
  go_wp2_with fail
  have hP := HP.out
  have q0 := hP.look 0; have q1 := hP.look 1; have q2 := hP.look 2; have q3 := hP.look 3; have q4 := hP.look 4; have q5 := hP.look 5; have q6 := hP.look 6; have q7 := hP.look 7; have q8 := hP.look 8; have q9 := hP.look 9; have q10 := hP.look 10; have q11 := hP.look 11; have q12 := hP.look 12; have q13 := hP.look 13; have q14 := hP.look 14; have q15 := hP.look 15
  simp at q0 q1 q2 q3 q4 q5 q6 q7 q8 q9 q10 q11 q12 q13 q14 q15
  refine bodyPost_ret (v := .tuple #[.agg #[.slice none 0 0, .slice none 0 0, .int .i64 0, .int .i64 0, .int .i64 0, .int .i64 0, .int .i64 0, .int .i64 0, .int .i64 0, .int .i64 0, .int .i64 0, .int .i64 0, .int .i64 0, .int .i64 0, .int .i64 0, .bool false], .bool false]) (by simp [results, Tryd.results66, go_sem, q0, q1, q2, q3, q4, q5, q6, q7, q8, q9, q10, q11, q12, q13, q14, q15]) rfl ⟨rfl, HGF.out⟩

set_option maxHeartbeats 4000000 in
theorem runOf_fuel (A : Option Addr) (len cap : Nat) (F : Nat → Ins) (at' : Int) (A1 : Option Addr) (n1 c1 : Nat) (A2 : Option Addr) (n2 c2 : Nat) (f1 f2 : Nat → Int) (fuel : Int) (w : World) (hg : WT w) (hl : len ≤ 9223372036854775807) (hC : Code w A len F) (h1 : Nums w A1 n1 f1) (h2 : Nums w A2 n2 f2) (hv : vcB len F = true) (hm : vmB at' n1 n2 f1 f2 = true) (hf : fuel < 0 ∨ 300 < fuel) : Calls Tryd.prog 66 #[.slice A len cap, MV at' A1 n1 c1 A2 n2 c2, .int .i64 fuel] w (NoRun w) := by
  obtain ⟨W0, hW0⟩ : ∃ W0, (w.alloc (.cells #[.int .i64 at', .slice A1 n1 c1, .slice A2 n2 c2] 31)).alloc (.cells #[.slice none 0 0, .slice none 0 0, .int .i64 0, .int .i64 0, .int .i64 0, .int .i64 0, .int .i64 0, .int .i64 0, .int .i64 0, .int .i64 0, .int .i64 0, .int .i64 0, .int .i64 0, .int .i64 0, .int .i64 0, .bool false] 84) = W0 := ⟨_, rfl⟩
  have e1 : Holds5 W0 w.heap.size 31 #[.int .i64 at', .slice A1 n1 c1, .slice A2 n2 c2] := by
    rw [← hW0]
    exact (Holds5.fresh w 31 #[.int .i64 at', .slice A1 n1 c1, .slice A2 n2 c2]).alloc _
  have e2 : Holds5 W0 (w.heap.size + 1) 84 #[.slice none 0 0, .slice none 0 0, .int .i64 0, .int .i64 0, .int .i64 0, .int .i64 0, .int .i64 0, .int .i64 0, .int .i64 0, .int .i64 0, .int .i64 0, .int .i64 0, .int .i64 0, .int .i64 0, .int .i64 0, .bool false] := by
    rw [← hW0]
    have := Holds5.fresh (w.alloc (.cells #[.int .i64 at', .slice A1 n1 c1, .slice A2 n2 c2] 31)) 84 #[.slice none 0 0, .slice none 0 0, .int .i64 0, .int .i64 0, .int .i64 0, .int .i64 0, .int .i64 0, .int .i64 0, .int .i64 0, .int .i64 0, .int .i64 0, .int .i64 0, .int .i64 0, .int .i64 0, .int .i64 0, .bool false]
    rwa [World.size_alloc] at this
  have e3 : w.grownBy W0 none := by
    rw [← hW0]
    exact grown_same (World.grownBy_alloc _ _ _) (World.grownBy_alloc _ _ _)
  have HG := shade (hg.below (below_of_grown e3) (wt_lt hg))
  have HC := shade (hC.on e3)
  have HVC := shade (ValidCode_any A len cap F W0 (hg.below (below_of_grown e3) (wt_lt hg)) hl (hC.on e3))
  have N1 := shade (h1.on e3)
  have N2 := shade (h2.on e3)
  have HW0 := shade hW0
  have E1 := shade e1; have E2 := shade e2; have E3 := shade e3
  rw [hv] at HVC
  have HM := shade hm
  clear e1 e2 e3 hW0 hg hC hv hm h1 h2
  by_cases hf0 : fuel < 0
  · clear hf
    go_enter Tryd.func66, Tryd.ntmps66
    go_upto_region 1 with (fail)
    rw [HW0.out]
    clear HW0
    go_wp2_with fail
    refine HVC.out.mono ?_
    rintro e w1 ⟨rfl, hgr⟩
    have p1 := E1.out.grown hgr (by intro e; cases e)
    have E1b := shade p1
    have E2b := shade (E2.out.grown hgr (by intro e; cases e))
    have E3b := shade (grown_same E3.out hgr)
    have N1b := shade (N1.out.on hgr)
    have N2b := shade (N2.out.on hgr)
    have HCb := shade (HC.out.on hgr)
    have x0 := p1.look 0; have x1 := p1.look 1; have x2 := p1.look 2
    simp at x0 x1 x2
    clear E1 E2 E3 N1 N2 HC hgr HVC p1
    go_wp2_with fail
    refine (ValidMachine_any at' A1 A2 n1 n2 c1 c2 f1 f2 _ N1b.out N2b.out).mono ?_
    rw [HM.out]
    rintro e w2 ⟨rfl, hgr⟩
    have h2 := (E2b.out.grown hgr (by intro e; cases e))
    have h3 := (grown_same E3b.out hgr)
    clear hgr
    have r0 := h2.look 0; have t0 := h2.free 0; have r1 := h2.look 1; have t1 := h2.free 1; have r2 := h2.look 2; have t2 := h2.free 2; have r3 := h2.look 3; have t3 := h2.free 3; have r4 := h2.look 4; have t4 := h2.free 4; have r5 := h2.look 5; have t5 := h2.free 5; have r6 := h2.look 6; have t6 := h2.free 6; have r7 := h2.look 7; have t7 := h2.free 7; have r8 := h2.look 8; have t8 := h2.free 8; have r9 := h2.look 9; have t9 := h2.free 9; have r10 := h2.look 10; have t10 := h2.free 10; have r11 := h2.look 11; have t11 := h2.free 11; have r12 := h2.look 12; have t12 := h2.free 12; have r13 := h2.look 13; have t13 := h2.free 13; have r14 := h2.look 14; have t14 := h2.free 14; have r15 := h2.look 15; have t15 := h2.free 15
    simp at r0 r1 r2 r3 r4 r5 r6 r7 r8 r9 r10 r11 r12 r13 r14 r15
    have hP := ((((((((((((((((h2.put 0 (.slice none 0 0)).put 1 (.slice none 0 0)).put 2 (.int .i64 0)).put 3 (.int .i64 0)).put 4 (.int .i64 0)).put 5 (.int .i64 0)).put 6 (.int .i64 0)).put 7 (.int .i64 0)).put 8 (.int .i64 0)).put 9 (.int .i64 0)).put 10 (.int .i64 0)).put 11 (.int .i64 0)).put 12 (.int .i64 0)).put 13 (.int .i64 0)).put 14 (.int .i64 0)).put 15 (.bool false))
    simp at hP
    have HP := shade hP
    have HGF := shade (grown_put (r := w.heap.size + 1) (grown_put (r := w.heap.size + 1) (grown_put (r := w.heap.size + 1) (grown_put (r := w.heap.size + 1) (grown_put (r := w.heap.size + 1) (grown_put (r := w.heap.size + 1) (grown_put (r := w.heap.size + 1) (grown_put (r := w.heap.size + 1) (grown_put (r := w.heap.size + 1) (grown_put (r := w.heap.size + 1) (grown_put (r := w.heap.size + 1) (grown_put (r := w.heap.size + 1) (grown_put (r := w.heap.size + 1) (grown_put (r := w.heap.size + 1) (grown_put (r := w.heap.size + 1) (grown_put (r := w.heap.size + 1) h3 (by omega) 0 (.slice none 0 0)) (by omega) 1 (.slice none 0 0)) (by omega) 2 (.int .i64 0)) (by omega) 3 (.int .i64 0)) (by omega) 4 (.int .i64 0)) (by omega) 5 (.int .i64 0)) (by omega) 6 (.int .i64 0)) (by omega) 7 (.int .i64 0)) (by omega) 8 (.int .i64 0)) (by omega) 9 (.int .i64 0)) (by omega) 10 (.int .i64 0)) (by omega) 11 (.int .i64 0)) (by omega) 12 (.int .i64 0)) (by omega) 13 (.int .i64 0)) (by omega) 14 (.int .i64 0)) (by omega) 15 (.bool false))
    clear h2 hP h3
    go_wp2_with fail
    have hP := HP.out
    have q0 := hP.look 0; have q1 := hP.look 1; have q2 := hP.look 2; have q3 := hP.look 3; have q4 := hP.look 4; have q5 := hP.look 5; have q6 := hP.look 6; have q7 := hP.look 7; have q8 := hP.look 8; have q9 := hP.look 9; have q10 := hP.look 10; have q11 := hP.look 11; have q12 := hP.look 12; have q13 := hP.look 13; have q14 := hP.look 14; have q15 := hP.look 15
    simp at q0 q1 q2 q3 q4 q5 q6 q7 q8 q9 q10 q11 q12 q13 q14 q15
    refine bodyPost_ret (v := .tuple #[.agg #[.slice none 0 0, .slice none 0 0, .int .i64 0, .int .i64 0, .int .i64 0, .int .i64 0, .int .i64 0, .int .i64 0, .int .i64 0, .int .i64 0, .int .i64 0, .int .i64 0, .int .i64 0, .int .i64 0, .int .i64 0, .bool false], .bool false]) (by simp [results, Tryd.results66, go_sem, q0, q1, q2, q3, q4, q5, q6, q7, q8, q9, q10, q11, q12, q13, q14, q15]) rfl ⟨rfl, HGF.out⟩

  · have hf1 : 300 < fuel := by omega
    have hf2 : 0 ≤ fuel := by omega
    clear hf hf0
    go_enter Tryd.func66, Tryd.ntmps66
    go_upto_region 1 with (fail)
    rw [HW0.out]
    clear HW0
    go_wp2_with fail
    refine HVC.out.mono ?_
    rintro e w1 ⟨rfl, hgr⟩
    have p1 := E1.out.grown hgr (by intro e; cases e)
    have E1b := shade p1
    have E2b := shade (E2.out.grown hgr (by intro e; cases e))
    have E3b := shade (grown_same E3.out hgr)
    have N1b := shade (N1.out.on hgr)
    have N2b := shade (N2.out.on hgr)
    have HCb := shade (HC.out.on hgr)
    have x0 := p1.look 0; have x1 := p1.look 1; have x2 := p1.look 2
    simp at x0 x1 x2
    clear E1 E2 E3 N1 N2 HC hgr HVC p1
    go_wp2_with fail
    refine (ValidMachine_any at' A1 A2 n1 n2 c1 c2 f1 f2 _ N1b.out N2b.out).mono ?_
    rw [HM.out]
    rintro e w2 ⟨rfl, hgr⟩
    have h2 := (E2b.out.grown hgr (by intro e; cases e))
    have h3 := (grown_same E3b.out hgr)
    clear hgr
    have r0 := h2.look 0; have t0 := h2.free 0; have r1 := h2.look 1; have t1 := h2.free 1; have r2 := h2.look 2; have t2 := h2.free 2; have r3 := h2.look 3; have t3 := h2.free 3; have r4 := h2.look 4; have t4 := h2.free 4; have r5 := h2.look 5; have t5 := h2.free 5; have r6 := h2.look 6; have t6 := h2.free 6; have r7 := h2.look 7; have t7 := h2.free 7; have r8 := h2.look 8; have t8 := h2.free 8; have r9 := h2.look 9; have t9 := h2.free 9; have r10 := h2.look 10; have t10 := h2.free 10; have r11 := h2.look 11; have t11 := h2.free 11; have r12 := h2.look 12; have t12 := h2.free 12; have r13 := h2.look 13; have t13 := h2.free 13; have r14 := h2.look 14; have t14 := h2.free 14; have r15 := h2.look 15; have t15 := h2.free 15
    simp at r0 r1 r2 r3 r4 r5 r6 r7 r8 r9 r10 r11 r12 r13 r14 r15
    have hP := ((((((((((((((((h2.put 0 (.slice none 0 0)).put 1 (.slice none 0 0)).put 2 (.int .i64 0)).put 3 (.int .i64 0)).put 4 (.int .i64 0)).put 5 (.int .i64 0)).put 6 (.int .i64 0)).put 7 (.int .i64 0)).put 8 (.int .i64 0)).put 9 (.int .i64 0)).put 10 (.int .i64 0)).put 11 (.int .i64 0)).put 12 (.int .i64 0)).put 13 (.int .i64 0)).put 14 (.int .i64 0)).put 15 (.bool false))
    simp at hP
    have HP := shade hP
    have HGF := shade (grown_put (r := w.heap.size + 1) (grown_put (r := w.heap.size + 1) (grown_put (r := w.heap.size + 1) (grown_put (r := w.heap.size + 1) (grown_put (r := w.heap.size + 1) (grown_put (r := w.heap.size + 1) (grown_put (r := w.heap.size + 1) (grown_put (r := w.heap.size + 1) (grown_put (r := w.heap.size + 1) (grown_put (r := w.heap.size + 1) (grown_put (r := w.heap.size + 1) (grown_put (r := w.heap.size + 1) (grown_put (r := w.heap.size + 1) (grown_put (r := w.heap.size + 1) (grown_put (r := w.heap.size + 1) (grown_put (r := w.heap.size + 1) h3 (by omega) 0 (.slice none 0 0)) (by omega) 1 (.slice none 0 0)) (by omega) 2 (.int .i64 0)) (by omega) 3 (.int .i64 0)) (by omega) 4 (.int .i64 0)) (by omega) 5 (.int .i64 0)) (by omega) 6 (.int .i64 0)) (by omega) 7 (.int .i64 0)) (by omega) 8 (.int .i64 0)) (by omega) 9 (.int .i64 0)) (by omega) 10 (.int .i64 0)) (by omega) 11 (.int .i64 0)) (by omega) 12 (.int .i64 0)) (by omega) 13 (.int .i64 0)) (by omega) 14 (.int .i64 0)) (by omega) 15 (.bool false))
    clear h2 hP h3
    go_wp2_with fail
    have hP := HP.out
    have q0 := hP.look 0; have q1 := hP.look 1; have q2 := hP.look 2; have q3 := hP.look 3; have q4 := hP.look 4; have q5 := hP.look 5; have q6 := hP.look 6; have q7 := hP.look 7; have q8 := hP.look 8; have q9 := hP.look 9; have q10 := hP.look 10; have q11 := hP.look 11; have q12 := hP.look 12; have q13 := hP.look 13; have q14 := hP.look 14; have q15 := hP.look 15
    simp at q0 q1 q2 q3 q4 q5 q6 q7 q8 q9 q10 q11 q12 q13 q14 q15
    refine bodyPost_ret (v := .tuple #[.agg #[.slice none 0 0, .slice none 0 0, .int .i64 0, .int .i64 0, .int .i64 0, .int .i64 0, .int .i64 0, .int .i64 0, .int .i64 0, .int .i64 0, .int .i64 0, .int .i64 0, .int .i64 0, .int .i64 0, .int .i64 0, .bool false], .bool false]) (by simp [results, Tryd.results66, go_sem, q0, q1, q2, q3, q4, q5, q6, q7, q8, q9, q10, q11, q12, q13, q14, q15]) rfl ⟨rfl, HGF.out⟩


end Go.Proofs.YtkljjacailgdaaaDoor
