/- StepMachine: what it answers, for every program and machine whose cells can be read. -/
import Derived.Test.YtkljjacailgdaaaDoorW71
import Derived.Test.YtkljjacailgdaaaDoorW73
namespace Go.Proofs.YtkljjacailgdaaaDoor
open Go.RowKit
set_option linter.unusedSimpArgs false
theorem step_any (n : Nat) (hn : n ≤ 8) (b off len cap m rd ra rb : Nat) (k : Int) (op : ByteArray) (F : Nat → Ins) (f1 f2 : Nat → Int) (w : World) (hg : WT w) (hC : Code w (some ⟨b, off, none⟩) len F) (hm : m < len) (hlen : len ≤ 40) (hF : F m = ⟨op, rd, ra, rb, k⟩) (hw : wordN op.toList = n)
    (hd : rd < 4) (ha : ra < 4) (hb : rb < 4) (k0 : 0 ≤ k) (k1 : k ≤ 255) (ok1 : ∀ j, j < 4 → 0 ≤ f1 j ∧ f1 j ≤ 255) :
    Calls Tryd.prog 60 #[.slice (some ⟨b, off, none⟩) len cap, SV m f1 f2] w fun e w' => e = .returned (.tuple #[SV (stepAt n m ra k f1) (stepRegs n rd ra rb k f1 f2) (stepMem n rd ra k f1 f2), .bool true]) ∧ w.grownBy w' none := by
  match n, hn, hw with
  | 0, _, hw => exact step_0 b off len cap m rd ra rb k op F f1 f2 w hg hC hm hlen hF hw hd ha hb k0 k1 ok1
  | 1, _, hw => exact step_1 b off len cap m rd ra rb k op F f1 f2 w hg hC hm hlen hF hw hd ha hb k0 k1 ok1
  | 2, _, hw => exact step_2 b off len cap m rd ra rb k op F f1 f2 w hg hC hm hlen hF hw hd ha hb k0 k1 ok1
  | 3, _, hw => exact step_3 b off len cap m rd ra rb k op F f1 f2 w hg hC hm hlen hF hw hd ha hb k0 k1 ok1
  | 4, _, hw => exact step_4 b off len cap m rd ra rb k op F f1 f2 w hg hC hm hlen hF hw hd ha hb k0 k1 ok1
  | 5, _, hw => exact step_5 b off len cap m rd ra rb k op F f1 f2 w hg hC hm hlen hF hw hd ha hb k0 k1 ok1
  | 6, _, hw => exact step_6 b off len cap m rd ra rb k op F f1 f2 w hg hC hm hlen hF hw hd ha hb k0 k1 ok1
  | 7, _, hw => exact step_7 b off len cap m rd ra rb k op F f1 f2 w hg hC hm hlen hF hw hd ha hb k0 k1 ok1
  | 8, _, hw => exact step_8 b off len cap m rd ra rb k op F f1 f2 w hg hC hm hlen hF hw hd ha hb k0 k1 ok1
theorem okL_bounds {n : Nat} {f : Nat → Int} (h : okL n f = true) : ∀ j, j < n → 0 ≤ f j ∧ f j ≤ 255 := by
  intro j hj
  have := okL_iff.1 h j hj
  simpa [inRB] using this
theorem SV_self (at' : Int) (f1 f2 : Nat → Int) (h1 : okL 4 f1 = true) (h2 : okL 8 f2 = true) : SV at' (fun j => f1 j % 256) (fun j => f2 j % 256) = SV at' f1 f2 := by
  have e1 : ∀ j, j < 4 → f1 j % 256 = f1 j := fun j hj => by
    have := okL_bounds h1 j hj
    omega
  have e2 : ∀ j, j < 8 → f2 j % 256 = f2 j := fun j hj => by
    have := okL_bounds h2 j hj
    omega
  exact congrArg Value.agg (stC_congr at' (fun j => f1 j % 256) (fun j => f2 j % 256) f1 f2 e1 e2)
/-- Does the program halt there? -/
def haltB (len : Nat) (F : Nat → Ins) (m : Nat) : Bool := decide (len ≤ m) || ((F m).op.toList == [104, 108, 116])
/-- What a step that is not there leaves. -/
def NoStep (w : World) (e : Ending) (w' : World) : Prop := e = .returned (.tuple #[MV 0 none 0 0 none 0 0, .bool false]) ∧ w.grownBy w' none
/-- What a step leaves. -/
def YesStep (w : World) (at2 : Int) (g1 g2 : Nat → Int) (e : Ending) (w' : World) : Prop :=
  ∃ r1 c1 r2 c2, e = .returned (.tuple #[MV at2 (some ⟨r1, 0, none⟩) 4 c1 (some ⟨r2, 0, none⟩) 8 c2, .bool true]) ∧ r1 ≠ r2 ∧ Own w' w.heap.size (some ⟨r1, 0, none⟩) 4 c1 g1 ∧ Own w' w.heap.size (some ⟨r2, 0, none⟩) 8 c2 g2 ∧ w.grownBy w' none


set_option maxHeartbeats 4000000 in
theorem StepMachine_code (A : Option Addr) (len cap : Nat) (F : Nat → Ins) (at' : Int) (A1 : Option Addr) (n1 c1 : Nat) (A2 : Option Addr) (n2 c2 : Nat) (w : World) (hg : WT w) (hl : len ≤ 9223372036854775807) (hC : Code w A len F) (hv : vcB len F = false) :
    Calls Tryd.prog 18 #[.slice A len cap, MV at' A1 n1 c1 A2 n2 c2] w (NoStep w) := by
  obtain ⟨W0, hW0⟩ : ∃ W0, (w.alloc (.cells #[.int .i64 at', .slice A1 n1 c1, .slice A2 n2 c2] 31)).alloc (.cells #[.int .i64 0, .slice none 0 0, .slice none 0 0] 31) = W0 := ⟨_, rfl⟩
  have e1 : Holds5 W0 w.heap.size 31 #[.int .i64 at', .slice A1 n1 c1, .slice A2 n2 c2] := by
    rw [← hW0]
    exact (Holds5.fresh w 31 #[.int .i64 at', .slice A1 n1 c1, .slice A2 n2 c2]).alloc _
  have e2 : Holds5 W0 (w.heap.size + 1) 31 #[.int .i64 0, .slice none 0 0, .slice none 0 0] := by
    rw [← hW0]
    have := Holds5.fresh (w.alloc (.cells #[.int .i64 at', .slice A1 n1 c1, .slice A2 n2 c2] 31)) 31 #[.int .i64 0, .slice none 0 0, .slice none 0 0]
    rwa [World.size_alloc] at this
  have e3 : w.grownBy W0 none := by
    rw [← hW0]
    exact grown_same (World.grownBy_alloc _ _ _) (World.grownBy_alloc _ _ _)
  have HG := shade (hg.below (below_of_grown e3) (wt_lt hg))
  have HVC := shade (ValidCode_any A len cap F W0 (hg.below (below_of_grown e3) (wt_lt hg)) hl (hC.on e3))
  rw [hv] at HVC
  have HW0 := shade hW0
  have E1 := shade e1; have E2 := shade e2; have E3 := shade e3
  clear e1 e2 e3 hW0 hg hC hv
  go_enter Tryd.func18, Tryd.ntmps18
  go_upto_region 1 with (fail)
  rw [HW0.out]
  clear HW0
  go_wp2_with fail
  refine HVC.out.mono ?_
  rintro e w1 ⟨rfl, hgr⟩
  have h2 := E2.out.grown hgr (by intro e; cases e)
  have r0 := h2.look 0; have r1 := h2.look 1; have r2 := h2.look 2; have t0 := h2.free 0; have t1 := h2.free 1; have t2 := h2.free 2
  simp at r0 r1 r2
  have hP := ((h2.put 0 (.int .i64 0)).put 1 (.slice none 0 0)).put 2 (.slice none 0 0)
  simp at hP
  have HP := shade hP
  have HGF := shade (grown_put (r := w.heap.size + 1) (grown_put (r := w.heap.size + 1) (grown_put (r := w.heap.size + 1) (grown_same E3.out hgr) (by omega) 0 (.int .i64 0)) (by omega) 1 (.slice none 0 0)) (by omega) 2 (.slice none 0 0))
  clear h2 hP hgr
  go_wp2_with fail
  have hP := HP.out
  have q0 := hP.look 0; have q1 := hP.look 1; have q2 := hP.look 2
  simp at q0 q1 q2
  refine bodyPost_ret (v := .tuple #[MV 0 none 0 0 none 0 0, .bool false]) (by simp [results, Tryd.results18, go_sem, q0, q1, q2]) rfl ⟨rfl, HGF.out⟩


theorem Nums.on {w w' : World} {A : Option Addr} {n : Nat} {f : Nat → Int} (h : Nums w A n f) (hg : w.grownBy w' none) : Nums w' A n f := h.grown hg (by intro _ _ _ e; cases e)
set_option maxHeartbeats 4000000 in
theorem StepMachine_mach (A : Option Addr) (len cap : Nat) (F : Nat → Ins) (at' : Int) (A1 : Option Addr) (n1 c1 : Nat) (A2 : Option Addr) (n2 c2 : Nat) (f1 f2 : Nat → Int) (w : World) (hg : WT w) (hl : len ≤ 9223372036854775807) (hC : Code w A len F) (hv : vcB len F = true)
    (h1 : Nums w A1 n1 f1) (h2 : Nums w A2 n2 f2) (hm : vmB at' n1 n2 f1 f2 = false) :
    Calls Tryd.prog 18 #[.slice A len cap, MV at' A1 n1 c1 A2 n2 c2] w (NoStep w) := by
  obtain ⟨W0, hW0⟩ : ∃ W0, (w.alloc (.cells #[.int .i64 at', .slice A1 n1 c1, .slice A2 n2 c2] 31)).alloc (.cells #[.int .i64 0, .slice none 0 0, .slice none 0 0] 31) = W0 := ⟨_, rfl⟩
  have e1 : Holds5 W0 w.heap.size 31 #[.int .i64 at', .slice A1 n1 c1, .slice A2 n2 c2] := by
    rw [← hW0]
    exact (Holds5.fresh w 31 #[.int .i64 at', .slice A1 n1 c1, .slice A2 n2 c2]).alloc _
  have e2 : Holds5 W0 (w.heap.size + 1) 31 #[.int .i64 0, .slice none 0 0, .slice none 0 0] := by
    rw [← hW0]
    have := Holds5.fresh (w.alloc (.cells #[.int .i64 at', .slice A1 n1 c1, .slice A2 n2 c2] 31)) 31 #[.int .i64 0, .slice none 0 0, .slice none 0 0]
    rwa [World.size_alloc] at this
  have e3 : w.grownBy W0 none := by
    rw [← hW0]
    exact grown_same (World.grownBy_alloc _ _ _) (World.grownBy_alloc _ _ _)
  have HVC := shade (ValidCode_any A len cap F W0 (hg.below (below_of_grown e3) (wt_lt hg)) hl (hC.on e3))
  rw [hv] at HVC
  have N1 := shade (h1.on e3)
  have N2 := shade (h2.on e3)
  clear h1 h2
  have HM := shade hm
  clear hm
  have HW0 := shade hW0
  have E1 := shade e1; have E2 := shade e2; have E3 := shade e3
  clear e1 e2 e3 hW0 hg hC hv
  go_enter Tryd.func18, Tryd.ntmps18
  go_upto_region 1 with (fail)
  rw [HW0.out]
  clear HW0
  go_wp2_with fail
  refine HVC.out.mono ?_
  rintro e w1 ⟨rfl, hgr⟩
  have p1 := E1.out.grown hgr (by intro e; cases e)
  have E2b := shade (E2.out.grown hgr (by intro e; cases e))
  have E3b := shade (grown_same E3.out hgr)
  have N1b := shade (N1.out.on hgr)
  have N2b := shade (N2.out.on hgr)
  have x0 := p1.look 0; have x1 := p1.look 1; have x2 := p1.look 2
  simp at x0 x1 x2
  have E1b := shade p1
  clear E1 E2 E3 N1 N2 hgr HVC p1
  go_wp2_with fail
  refine (ValidMachine_any at' A1 A2 n1 n2 c1 c2 f1 f2 _ N1b.out N2b.out).mono ?_
  rw [HM.out]
  rintro e w2 ⟨rfl, hgr⟩
  have h2 := E2b.out.grown hgr (by intro e; cases e)
  have h3 := grown_same E3b.out hgr
  clear hgr
  have r0 := h2.look 0; have r1 := h2.look 1; have r2 := h2.look 2; have t0 := h2.free 0; have t1 := h2.free 1; have t2 := h2.free 2
  simp at r0 r1 r2
  have hP := ((h2.put 0 (.int .i64 0)).put 1 (.slice none 0 0)).put 2 (.slice none 0 0)
  simp at hP
  have HP := shade hP
  have HGF := shade (grown_put (r := w.heap.size + 1) (grown_put (r := w.heap.size + 1) (grown_put (r := w.heap.size + 1) h3 (by omega) 0 (.int .i64 0)) (by omega) 1 (.slice none 0 0)) (by omega) 2 (.slice none 0 0))
  clear h2 hP h3
  go_wp2_with fail
  have hP := HP.out
  have q0 := hP.look 0; have q1 := hP.look 1; have q2 := hP.look 2
  simp at q0 q1 q2
  refine bodyPost_ret (v := .tuple #[MV 0 none 0 0 none 0 0, .bool false]) (by simp [results, Tryd.results18, go_sem, q0, q1, q2]) rfl ⟨rfl, HGF.out⟩

set_option maxHeartbeats 4000000 in
theorem StepMachine_halt (A : Option Addr) (len cap : Nat) (F : Nat → Ins) (m : Nat) (b1 o1 c1 b2 o2 c2 : Nat) (f1 f2 : Nat → Int) (w : World) (hg : WT w) (hl : len ≤ 9223372036854775807) (hC : Code w A len F) (hv : vcB len F = true)
    (h1 : Nums w (some ⟨b1, o1, none⟩) 4 f1) (h2 : Nums w (some ⟨b2, o2, none⟩) 8 f2) (hm40 : (m : Int) ≤ 40) (k1 : okL 4 f1 = true) (k2 : okL 8 f2 = true)
    (hS : ∀ W, w.grownBy W none → Calls Tryd.prog 60 #[.slice A len cap, SV m f1 f2] W fun e w' => e = .returned (.tuple #[SV 0 (fun _ => 0) (fun _ => 0), .bool false]) ∧ W.grownBy w' none) :
    Calls Tryd.prog 18 #[.slice A len cap, MV m (some ⟨b1, o1, none⟩) 4 c1 (some ⟨b2, o2, none⟩) 8 c2] w (NoStep w) := by
  obtain ⟨W0, hW0⟩ : ∃ W0, (w.alloc (.cells #[.int .i64 m, .slice (some ⟨b1, o1, none⟩) 4 c1, .slice (some ⟨b2, o2, none⟩) 8 c2] 31)).alloc (.cells #[.int .i64 0, .slice none 0 0, .slice none 0 0] 31) = W0 := ⟨_, rfl⟩
  have e1 : Holds5 W0 w.heap.size 31 #[.int .i64 m, .slice (some ⟨b1, o1, none⟩) 4 c1, .slice (some ⟨b2, o2, none⟩) 8 c2] := by
    rw [← hW0]
    exact (Holds5.fresh w 31 #[.int .i64 m, .slice (some ⟨b1, o1, none⟩) 4 c1, .slice (some ⟨b2, o2, none⟩) 8 c2]).alloc _
  have e2 : Holds5 W0 (w.heap.size + 1) 31 #[.int .i64 0, .slice none 0 0, .slice none 0 0] := by
    rw [← hW0]
    have := Holds5.fresh (w.alloc (.cells #[.int .i64 m, .slice (some ⟨b1, o1, none⟩) 4 c1, .slice (some ⟨b2, o2, none⟩) 8 c2] 31)) 31 #[.int .i64 0, .slice none 0 0, .slice none 0 0]
    rwa [World.size_alloc] at this
  have e3 : w.grownBy W0 none := by
    rw [← hW0]
    exact grown_same (World.grownBy_alloc _ _ _) (World.grownBy_alloc _ _ _)
  have HVC := shade (ValidCode_any A len cap F W0 (hg.below (below_of_grown e3) (wt_lt hg)) hl (hC.on e3))
  rw [hv] at HVC
  have N1 := shade (h1.on e3)
  have N2 := shade (h2.on e3)
  clear h1 h2
  have HM := shade (show vmB m 4 8 f1 f2 = true by rw [vmB_in (by omega) hm40, k1, k2]; rfl)
  have HSV := shade (SV_self m f1 f2 k1 k2)
  have HS := shade hS
  clear hm40 k1 k2 hS
  have HW0 := shade hW0
  have E1 := shade e1; have E2 := shade e2; have E3 := shade e3
  clear e1 e2 e3 hW0 hg hC hv
  go_enter Tryd.func18, Tryd.ntmps18
  go_upto_region 1 with (fail)
  rw [HW0.out]
  clear HW0
  go_wp2_with fail
  refine HVC.out.mono ?_
  rintro e w1 ⟨rfl, hgr⟩
  have p1 := E1.out.grown hgr (by intro e; cases e)
  have E2b := shade (E2.out.grown hgr (by intro e; cases e))
  have E3b := shade (grown_same E3.out hgr)
  have N1b := shade (N1.out.on hgr)
  have N2b := shade (N2.out.on hgr)
  have x0 := p1.look 0; have x1 := p1.look 1; have x2 := p1.look 2
  simp at x0 x1 x2
  have E1b := shade p1
  clear E1 E2 E3 N1 N2 hgr HVC p1
  go_wp2_with fail
  refine (ValidMachine_any m (some ⟨b1, o1, none⟩) (some ⟨b2, o2, none⟩) 4 8 c1 c2 f1 f2 _ N1b.out N2b.out).mono ?_
  rw [HM.out]
  rintro e w2 ⟨rfl, hgr⟩
  have p1 := E1b.out.grown hgr (by intro e; cases e)
  have E2c := shade (E2b.out.grown hgr (by intro e; cases e))
  have E3c := shade (grown_same E3b.out hgr)
  have N1c := shade (N1b.out.on hgr)
  have N2c := shade (N2b.out.on hgr)
  clear x0 x1 x2 E1b E2b E3b N1b N2b hgr
  have x0 := p1.look 0; have x1 := p1.look 1; have x2 := p1.look 2
  simp at x0 x1 x2
  clear p1
  go_wp2_with fail
  refine (stateOf_any m b1 o1 b2 o2 c1 c2 f1 f2 _ N1c.out N2c.out).mono ?_
  rw [HSV.out]
  rintro e w3 ⟨rfl, hgr⟩
  have E2d := shade (E2c.out.grown hgr (by intro e; cases e))
  have E3d := shade (grown_same E3c.out hgr)
  clear hgr E2c E3c N1c N2c
  go_wp2_with fail
  refine (HS.out _ E3d.out).mono ?_
  rintro e w4 ⟨rfl, hgr⟩
  have h2 := (E2d.out.grown hgr (by intro e; cases e)).alloc (.cells #[.int .i64 0, .int .i64 0, .int .i64 0, .int .i64 0, .int .i64 0, .int .i64 0, .int .i64 0, .int .i64 0, .int .i64 0, .int .i64 0, .int .i64 0, .int .i64 0, .int .i64 0] 73)
  have h3 := grown_same (grown_same E3d.out hgr) (World.grownBy_alloc w4 (.cells #[.int .i64 0, .int .i64 0, .int .i64 0, .int .i64 0, .int .i64 0, .int .i64 0, .int .i64 0, .int .i64 0, .int .i64 0, .int .i64 0, .int .i64 0, .int .i64 0, .int .i64 0] 73) none)
  clear hgr
  have r0 := h2.look 0; have r1 := h2.look 1; have r2 := h2.look 2; have t0 := h2.free 0; have t1 := h2.free 1; have t2 := h2.free 2
  simp at r0 r1 r2
  have hP := ((h2.put 0 (.int .i64 0)).put 1 (.slice none 0 0)).put 2 (.slice none 0 0)
  simp at hP
  have HP := shade hP
  have HGF := shade (grown_put (r := w.heap.size + 1) (grown_put (r := w.heap.size + 1) (grown_put (r := w.heap.size + 1) h3 (by omega) 0 (.int .i64 0)) (by omega) 1 (.slice none 0 0)) (by omega) 2 (.slice none 0 0))
  clear h2 hP h3
  go_wp2_with fail
  have hP := HP.out
  have q0 := hP.look 0; have q1 := hP.look 1; have q2 := hP.look 2
  simp at q0 q1 q2
  refine bodyPost_ret (v := .tuple #[MV 0 none 0 0 none 0 0, .bool false]) (by simp [results, Tryd.results18, go_sem, q0, q1, q2]) rfl ⟨rfl, HGF.out⟩


set_option maxHeartbeats 4000000 in
theorem StepMachine_go (A : Option Addr) (len cap : Nat) (F : Nat → Ins) (m : Nat) (b1 o1 c1 b2 o2 c2 : Nat) (f1 f2 g1 g2 : Nat → Int) (at2 : Int) (w : World) (hg : WT w) (hl : len ≤ 9223372036854775807) (hC : Code w A len F) (hv : vcB len F = true)
    (h1 : Nums w (some ⟨b1, o1, none⟩) 4 f1) (h2 : Nums w (some ⟨b2, o2, none⟩) 8 f2) (hm40 : (m : Int) ≤ 40) (k1 : okL 4 f1 = true) (k2 : okL 8 f2 = true)
    (hS : ∀ W, w.grownBy W none → Calls Tryd.prog 60 #[.slice A len cap, SV m f1 f2] W fun e w' => e = .returned (.tuple #[SV at2 g1 g2, .bool true]) ∧ W.grownBy w' none) :
    Calls Tryd.prog 18 #[.slice A len cap, MV m (some ⟨b1, o1, none⟩) 4 c1 (some ⟨b2, o2, none⟩) 8 c2] w (YesStep w at2 g1 g2) := by
  obtain ⟨W0, hW0⟩ : ∃ W0, (w.alloc (.cells #[.int .i64 m, .slice (some ⟨b1, o1, none⟩) 4 c1, .slice (some ⟨b2, o2, none⟩) 8 c2] 31)).alloc (.cells #[.int .i64 0, .slice none 0 0, .slice none 0 0] 31) = W0 := ⟨_, rfl⟩
  have e1 : Holds5 W0 w.heap.size 31 #[.int .i64 m, .slice (some ⟨b1, o1, none⟩) 4 c1, .slice (some ⟨b2, o2, none⟩) 8 c2] := by
    rw [← hW0]
    exact (Holds5.fresh w 31 #[.int .i64 m, .slice (some ⟨b1, o1, none⟩) 4 c1, .slice (some ⟨b2, o2, none⟩) 8 c2]).alloc _
  have e2 : Holds5 W0 (w.heap.size + 1) 31 #[.int .i64 0, .slice none 0 0, .slice none 0 0] := by
    rw [← hW0]
    have := Holds5.fresh (w.alloc (.cells #[.int .i64 m, .slice (some ⟨b1, o1, none⟩) 4 c1, .slice (some ⟨b2, o2, none⟩) 8 c2] 31)) 31 #[.int .i64 0, .slice none 0 0, .slice none 0 0]
    rwa [World.size_alloc] at this
  have e3 : w.grownBy W0 none := by
    rw [← hW0]
    exact grown_same (World.grownBy_alloc _ _ _) (World.grownBy_alloc _ _ _)
  have HVC := shade (ValidCode_any A len cap F W0 (hg.below (below_of_grown e3) (wt_lt hg)) hl (hC.on e3))
  rw [hv] at HVC
  have N1 := shade (h1.on e3)
  have N2 := shade (h2.on e3)
  clear h1 h2
  have HM := shade (show vmB m 4 8 f1 f2 = true by rw [vmB_in (by omega) hm40, k1, k2]; rfl)
  have HSV := shade (SV_self m f1 f2 k1 k2)
  have HS := shade hS
  clear hm40 k1 k2 hS
  have HW0 := shade hW0
  have E1 := shade e1; have E2 := shade e2; have E3 := shade e3
  clear e1 e2 e3 hW0 hg hC hv
  go_enter Tryd.func18, Tryd.ntmps18
  go_upto_region 1 with (fail)
  rw [HW0.out]
  clear HW0
  go_wp2_with fail
  refine HVC.out.mono ?_
  rintro e w1 ⟨rfl, hgr⟩
  have p1 := E1.out.grown hgr (by intro e; cases e)
  have E2b := shade (E2.out.grown hgr (by intro e; cases e))
  have E3b := shade (grown_same E3.out hgr)
  have N1b := shade (N1.out.on hgr)
  have N2b := shade (N2.out.on hgr)
  have x0 := p1.look 0; have x1 := p1.look 1; have x2 := p1.look 2
  simp at x0 x1 x2
  have E1b := shade p1
  clear E1 E2 E3 N1 N2 hgr HVC p1
  go_wp2_with fail
  refine (ValidMachine_any m (some ⟨b1, o1, none⟩) (some ⟨b2, o2, none⟩) 4 8 c1 c2 f1 f2 _ N1b.out N2b.out).mono ?_
  rw [HM.out]
  rintro e w2 ⟨rfl, hgr⟩
  have p1 := E1b.out.grown hgr (by intro e; cases e)
  have E2c := shade (E2b.out.grown hgr (by intro e; cases e))
  have E3c := shade (grown_same E3b.out hgr)
  have N1c := shade (N1b.out.on hgr)
  have N2c := shade (N2b.out.on hgr)
  clear x0 x1 x2 E1b E2b E3b N1b N2b hgr
  have x0 := p1.look 0; have x1 := p1.look 1; have x2 := p1.look 2
  simp at x0 x1 x2
  clear p1
  go_wp2_with fail
  refine (stateOf_any m b1 o1 b2 o2 c1 c2 f1 f2 _ N1c.out N2c.out).mono ?_
  rw [HSV.out]
  rintro e w3 ⟨rfl, hgr⟩
  have E2d := shade (E2c.out.grown hgr (by intro e; cases e))
  have E3d := shade (grown_same E3c.out hgr)
  clear hgr E2c E3c N1c N2c
  go_wp2_with fail
  refine (HS.out _ E3d.out).mono ?_
  rintro e w4 ⟨rfl, hgr⟩
  have E2e := shade (E2d.out.grown hgr (by intro e; cases e))
  have E3e := shade (grown_same E3d.out hgr)
  clear hgr E2d E3d x0 x1 x2
  go_wp2_with fail
  refine (stateMachine_any at2 g1 g2 _).mono ?_
  rintro e w5 ⟨r1, d1, r2, d2, rfl, hne, ho1, ho2, hgr⟩
  have hX := grown_same (World.grownBy_alloc w4 (.cells #[.int .i64 at2, .int .i64 (g1 0), .int .i64 (g1 1), .int .i64 (g1 2), .int .i64 (g1 3), .int .i64 (g2 0), .int .i64 (g2 1), .int .i64 (g2 2), .int .i64 (g2 3), .int .i64 (g2 4), .int .i64 (g2 5), .int .i64 (g2 6), .int .i64 (g2 7)] 73) none) hgr
  have h2 := E2e.out.grown hX (by intro e; cases e)
  have h3 := grown_same E3e.out hX
  have l1 := ho1.lt
  have l2 := ho2.lt
  have z4 := E2e.out.inside
  have z5 := E3e.out.size
  rw [World.size_alloc] at l1 l2
  have y0 := h2.look 0; have y1 := h2.look 1; have y2 := h2.look 2; have t0 := h2.free 0; have t1 := h2.free 1; have t2 := h2.free 2
  simp at y0 y1 y2
  have hP := ((h2.put 0 (.int .i64 at2)).put 1 (.slice (some ⟨r1, 0, none⟩) 4 d1)).put 2 (.slice (some ⟨r2, 0, none⟩) 8 d2)
  simp at hP
  have HP := shade hP
  have HGF := shade (grown_put (r := w.heap.size + 1) (grown_put (r := w.heap.size + 1) (grown_put (r := w.heap.size + 1) h3 (by omega) 0 (.int .i64 at2)) (by omega) 1 (.slice (some ⟨r1, 0, none⟩) 4 d1)) (by omega) 2 (.slice (some ⟨r2, 0, none⟩) 8 d2))
  rw [World.size_alloc] at ho1 ho2
  have M1 := shade ((((Own.lower (B' := w.heap.size) ho1 (by omega)).far (r := w.heap.size + 1) (by omega) 0 (.int .i64 at2)).far (r := w.heap.size + 1) (by omega) 1 (.slice (some ⟨r1, 0, none⟩) 4 d1)).far (r := w.heap.size + 1) (by omega) 2 (.slice (some ⟨r2, 0, none⟩) 8 d2))
  have M2 := shade ((((Own.lower (B' := w.heap.size) ho2 (by omega)).far (r := w.heap.size + 1) (by omega) 0 (.int .i64 at2)).far (r := w.heap.size + 1) (by omega) 1 (.slice (some ⟨r1, 0, none⟩) 4 d1)).far (r := w.heap.size + 1) (by omega) 2 (.slice (some ⟨r2, 0, none⟩) 8 d2))
  clear h2 hP h3 hgr hX ho1 ho2 l1 l2
  go_wp2_with fail
  have hP := HP.out
  have q0 := hP.look 0; have q1 := hP.look 1; have q2 := hP.look 2
  simp at q0 q1 q2
  refine bodyPost_ret (v := .tuple #[MV at2 (some ⟨r1, 0, none⟩) 4 d1 (some ⟨r2, 0, none⟩) 8 d2, .bool true]) (by simp [results, Tryd.results18, go_sem, q0, q1, q2]) rfl ?_
  exact ⟨r1, d1, r2, d2, rfl, hne, M1.out, M2.out, HGF.out⟩

end Go.Proofs.YtkljjacailgdaaaDoor
