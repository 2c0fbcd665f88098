/- The model's StepMachine: it answers as stepB, stAt, stRegs and stMem say. -/
import Derived.Test.YtbdlbooooiinkaaDoorW72
import Derived.Test.YtbdlbooooiinkaaDoorG73
namespace Go.Proofs.YtbdlbooooiinkaaDoor
open Go.RowKit
set_option linter.unusedSimpArgs false
theorem specStep_any (n : Nat) (hn : n ≤ 8) (b off len cap m rd ra rb : Nat) (k : Int) (F : Nat → Ins) (b1 o1 c1 b2 o2 c2 : Nat) (f1 f2 : Nat → Int) (w : World) (hC : Code w (some ⟨b, off, none⟩) len F) (hm : m < len) (hlen : len ≤ 40) (hF : F m = ⟨wT n, rd, ra, rb, k⟩)
    (hd : rd < 4) (ha : ra < 4) (hb : rb < 4) (k0 : 0 ≤ k) (k1 : k ≤ 255) (ok1 : ∀ j, j < 4 → 0 ≤ f1 j ∧ f1 j ≤ 255) (h1 : Nums w (some ⟨b1, o1, none⟩) 4 f1) (h2 : Nums w (some ⟨b2, o2, none⟩) 8 f2) :
    Calls Tryd.prog 45 #[.slice (some ⟨b, off, none⟩) len cap, MV m (some ⟨b1, o1, none⟩) 4 c1 (some ⟨b2, o2, none⟩) 8 c2] w (MachOk w (stepAt n m ra k f1) 4 8 (stepRegs n rd ra rb k f1 f2) (stepMem n rd ra k f1 f2)) := by
  match n, hn, hF with
  | 0, _, hF => exact specStep_0 b off len cap m rd ra rb k F b1 o1 c1 b2 o2 c2 f1 f2 w hC hm hlen hF hd ha hb k0 k1 ok1 h1 h2
  | 1, _, hF => exact specStep_1 b off len cap m rd ra rb k F b1 o1 c1 b2 o2 c2 f1 f2 w hC hm hlen hF hd ha hb k0 k1 ok1 h1 h2
  | 2, _, hF => exact specStep_2 b off len cap m rd ra rb k F b1 o1 c1 b2 o2 c2 f1 f2 w hC hm hlen hF hd ha hb k0 k1 ok1 h1 h2
  | 3, _, hF => exact specStep_3 b off len cap m rd ra rb k F b1 o1 c1 b2 o2 c2 f1 f2 w hC hm hlen hF hd ha hb k0 k1 ok1 h1 h2
  | 4, _, hF => exact specStep_4 b off len cap m rd ra rb k F b1 o1 c1 b2 o2 c2 f1 f2 w hC hm hlen hF hd ha hb k0 k1 ok1 h1 h2
  | 5, _, hF => exact specStep_5 b off len cap m rd ra rb k F b1 o1 c1 b2 o2 c2 f1 f2 w hC hm hlen hF hd ha hb k0 k1 ok1 h1 h2
  | 6, _, hF => exact specStep_6 b off len cap m rd ra rb k F b1 o1 c1 b2 o2 c2 f1 f2 w hC hm hlen hF hd ha hb k0 k1 ok1 h1 h2
  | 7, _, hF => exact specStep_7 b off len cap m rd ra rb k F b1 o1 c1 b2 o2 c2 f1 f2 w hC hm hlen hF hd ha hb k0 k1 ok1 h1 h2
  | 8, _, hF => exact specStep_8 b off len cap m rd ra rb k F b1 o1 c1 b2 o2 c2 f1 f2 w hC hm hlen hF hd ha hb k0 k1 ok1 h1 h2
theorem halted_any (A : Option Addr) (len cap m : Nat) (F : Nat → Ins) (w : World) (hC : Code w A len F) (hl : len ≤ 40) :
    Calls Tryd.prog 44 #[.slice A len cap, .int .i64 m] w fun e w' => e = .returned (.bool (haltB len F m)) ∧ w = w' := by
  by_cases h : len ≤ m
  · rw [show haltB len F m = true by simp [haltB, h]]
    exact halted_end A len cap m w h
  · obtain ⟨b, off, rfl, _⟩ := hC.resolve_left (by omega)
    rw [show haltB len F m = ((F m).op.toList == [104, 108, 116]) by simp [haltB, h]]
    exact halted_in b off len cap m F w hC (by omega) hl


set_option maxHeartbeats 4000000 in
theorem SpecStep_code (A : Option Addr) (len cap : Nat) (F : Nat → Ins) (at' : Int) (A1 : Option Addr) (n1 c1 : Nat) (A2 : Option Addr) (n2 c2 : Nat) (f1 f2 : Nat → Int) (w : World) (hl : len ≤ 9223372036854775807) (hC : Code w A len F) (h1 : Nums w A1 n1 f1) (h2 : Nums w A2 n2 f2) (_hn1 : n1 ≤ 9223372036854775807) (_hn2 : n2 ≤ 9223372036854775807) (hv : vcB len F = false) :
    Calls Tryd.prog 11 #[.slice A len cap, MV at' A1 n1 c1 A2 n2 c2] w (NoStep w) := by
  obtain ⟨W0, hW0⟩ : ∃ W0, (w.alloc (.cells #[.int .i64 at', .slice A1 n1 c1, .slice A2 n2 c2] 26)).alloc (.cells #[.int .i64 0, .slice none 0 0, .slice none 0 0] 26) = W0 := ⟨_, rfl⟩
  have e1 : Holds5 W0 w.heap.size 26 #[.int .i64 at', .slice A1 n1 c1, .slice A2 n2 c2] := by
    rw [← hW0]
    exact (Holds5.fresh w 26 #[.int .i64 at', .slice A1 n1 c1, .slice A2 n2 c2]).alloc _
  have e2 : Holds5 W0 (w.heap.size + 1) 26 #[.int .i64 0, .slice none 0 0, .slice none 0 0] := by
    rw [← hW0]
    have := Holds5.fresh (w.alloc (.cells #[.int .i64 at', .slice A1 n1 c1, .slice A2 n2 c2] 26)) 26 #[.int .i64 0, .slice none 0 0, .slice none 0 0]
    rwa [World.size_alloc] at this
  have e3 : w.grownBy W0 none := by
    rw [← hW0]
    exact grown_same (World.grownBy_alloc _ _ _) (World.grownBy_alloc _ _ _)
  have HVC := shade (validCode_any A len cap F W0 hl (hC.on e3))
  have N1 := shade (h1.on e3)
  have N2 := shade (h2.on e3)
  have HC := shade (hC.on e3)
  clear h1 h2 hC
  rw [hv] at HVC
  clear hv
  have HW0 := shade hW0
  have E1 := shade e1; have E2 := shade e2; have E3 := shade e3
  clear e1 e2 e3 hW0
  go_enter Tryd.func11, Tryd.ntmps11
  go_upto_region 1 with (fail)
  rw [HW0.out]
  clear HW0
  go_wp2_with fail
  refine HVC.out.mono ?_
  rintro e w1 ⟨rfl, hgr⟩
  have h2 := E2.out.grown hgr (by intro e; cases e)
  have h3 := grown_same E3.out hgr
  clear hgr
  have r0 := h2.look 0; have r1 := h2.look 1; have r2 := h2.look 2; have t0 := h2.free 0; have t1 := h2.free 1; have t2 := h2.free 2
  simp at r0 r1 r2
  have hP := ((h2.put 0 (.int .i64 0)).put 1 (.slice none 0 0)).put 2 (.slice none 0 0)
  simp at hP
  have HP := shade hP
  have HGF := shade (grown_put (r := w.heap.size + 1) (grown_put (r := w.heap.size + 1) (grown_put (r := w.heap.size + 1) h3 (by omega) 0 (.int .i64 0)) (by omega) 1 (.slice none 0 0)) (by omega) 2 (.slice none 0 0))
  clear h2 hP h3
  go_wp2_with fail
  have hP := HP.out
  have q0 := hP.look 0; have q1 := hP.look 1; have q2 := hP.look 2
  simp at q0 q1 q2
  refine bodyPost_ret (v := .tuple #[MV 0 none 0 0 none 0 0, .bool false]) (by simp [results, Tryd.results11, go_sem, q0, q1, q2]) rfl ⟨rfl, HGF.out⟩

set_option maxHeartbeats 4000000 in
theorem SpecStep_mach (A : Option Addr) (len cap : Nat) (F : Nat → Ins) (at' : Int) (A1 : Option Addr) (n1 c1 : Nat) (A2 : Option Addr) (n2 c2 : Nat) (f1 f2 : Nat → Int) (w : World) (hl : len ≤ 9223372036854775807) (hC : Code w A len F) (h1 : Nums w A1 n1 f1) (h2 : Nums w A2 n2 f2) (hn1 : n1 ≤ 9223372036854775807) (hn2 : n2 ≤ 9223372036854775807) (hv : vcB len F = true) (hm : vmB at' n1 n2 f1 f2 = false) :
    Calls Tryd.prog 11 #[.slice A len cap, MV at' A1 n1 c1 A2 n2 c2] w (NoStep w) := by
  obtain ⟨W0, hW0⟩ : ∃ W0, (w.alloc (.cells #[.int .i64 at', .slice A1 n1 c1, .slice A2 n2 c2] 26)).alloc (.cells #[.int .i64 0, .slice none 0 0, .slice none 0 0] 26) = W0 := ⟨_, rfl⟩
  have e1 : Holds5 W0 w.heap.size 26 #[.int .i64 at', .slice A1 n1 c1, .slice A2 n2 c2] := by
    rw [← hW0]
    exact (Holds5.fresh w 26 #[.int .i64 at', .slice A1 n1 c1, .slice A2 n2 c2]).alloc _
  have e2 : Holds5 W0 (w.heap.size + 1) 26 #[.int .i64 0, .slice none 0 0, .slice none 0 0] := by
    rw [← hW0]
    have := Holds5.fresh (w.alloc (.cells #[.int .i64 at', .slice A1 n1 c1, .slice A2 n2 c2] 26)) 26 #[.int .i64 0, .slice none 0 0, .slice none 0 0]
    rwa [World.size_alloc] at this
  have e3 : w.grownBy W0 none := by
    rw [← hW0]
    exact grown_same (World.grownBy_alloc _ _ _) (World.grownBy_alloc _ _ _)
  have HVC := shade (validCode_any A len cap F W0 hl (hC.on e3))
  have N1 := shade (h1.on e3)
  have N2 := shade (h2.on e3)
  have HC := shade (hC.on e3)
  clear h1 h2 hC
  rw [hv] at HVC
  have HM := shade hm
  clear hv hm
  have HW0 := shade hW0
  have E1 := shade e1; have E2 := shade e2; have E3 := shade e3
  clear e1 e2 e3 hW0
  go_enter Tryd.func11, Tryd.ntmps11
  go_upto_region 1 with (fail)
  rw [HW0.out]
  clear HW0
  go_wp2_with fail
  refine HVC.out.mono ?_
  rintro e w1 ⟨rfl, hgr⟩
  have p1 := E1.out.grown hgr (by intro e; cases e)
  have E1b := shade p1
  have E2b := shade (E2.out.grown hgr (by intro e; cases e))
  have E3b := shade (grown_same E3.out hgr)
  have N1b := shade (N1.out.on hgr)
  have N2b := shade (N2.out.on hgr)
  have Cb := shade (HC.out.on hgr)
  have x0 := p1.look 0; have x1 := p1.look 1; have x2 := p1.look 2
  simp at x0 x1 x2
  clear E1 E2 E3 N1 N2 HC hgr HVC p1
  go_wp2_with fail
  refine (validMachine_any at' A1 A2 n1 n2 c1 c2 f1 f2 _ hn1 hn2 N1b.out N2b.out).mono ?_
  rw [HM.out]
  rintro e w2 ⟨rfl, hgr⟩
  have h2 := E2b.out.grown hgr (by intro e; cases e)
  have h3 := grown_same E3b.out hgr
  clear hgr
  have r0 := h2.look 0; have r1 := h2.look 1; have r2 := h2.look 2; have t0 := h2.free 0; have t1 := h2.free 1; have t2 := h2.free 2
  simp at r0 r1 r2
  have hP := ((h2.put 0 (.int .i64 0)).put 1 (.slice none 0 0)).put 2 (.slice none 0 0)
  simp at hP
  have HP := shade hP
  have HGF := shade (grown_put (r := w.heap.size + 1) (grown_put (r := w.heap.size + 1) (grown_put (r := w.heap.size + 1) h3 (by omega) 0 (.int .i64 0)) (by omega) 1 (.slice none 0 0)) (by omega) 2 (.slice none 0 0))
  clear h2 hP h3
  go_wp2_with fail
  have hP := HP.out
  have q0 := hP.look 0; have q1 := hP.look 1; have q2 := hP.look 2
  simp at q0 q1 q2
  refine bodyPost_ret (v := .tuple #[MV 0 none 0 0 none 0 0, .bool false]) (by simp [results, Tryd.results11, go_sem, q0, q1, q2]) rfl ⟨rfl, HGF.out⟩

set_option maxHeartbeats 4000000 in
theorem SpecStep_halt (A : Option Addr) (len cap : Nat) (F : Nat → Ins) (m : Nat) (A1 : Option Addr) (n1 c1 : Nat) (A2 : Option Addr) (n2 c2 : Nat) (f1 f2 : Nat → Int) (w : World) (hl : len ≤ 9223372036854775807) (hC : Code w A len F) (h1 : Nums w A1 n1 f1) (h2 : Nums w A2 n2 f2) (hn1 : n1 ≤ 9223372036854775807) (hn2 : n2 ≤ 9223372036854775807) (hv : vcB len F = true) (h40 : len ≤ 40) (hm : vmB m n1 n2 f1 f2 = true) (hh : haltB len F m = true) :
    Calls Tryd.prog 11 #[.slice A len cap, MV m A1 n1 c1 A2 n2 c2] w (NoStep w) := by
  obtain ⟨W0, hW0⟩ : ∃ W0, (w.alloc (.cells #[.int .i64 m, .slice A1 n1 c1, .slice A2 n2 c2] 26)).alloc (.cells #[.int .i64 0, .slice none 0 0, .slice none 0 0] 26) = W0 := ⟨_, rfl⟩
  have e1 : Holds5 W0 w.heap.size 26 #[.int .i64 m, .slice A1 n1 c1, .slice A2 n2 c2] := by
    rw [← hW0]
    exact (Holds5.fresh w 26 #[.int .i64 m, .slice A1 n1 c1, .slice A2 n2 c2]).alloc _
  have e2 : Holds5 W0 (w.heap.size + 1) 26 #[.int .i64 0, .slice none 0 0, .slice none 0 0] := by
    rw [← hW0]
    have := Holds5.fresh (w.alloc (.cells #[.int .i64 m, .slice A1 n1 c1, .slice A2 n2 c2] 26)) 26 #[.int .i64 0, .slice none 0 0, .slice none 0 0]
    rwa [World.size_alloc] at this
  have e3 : w.grownBy W0 none := by
    rw [← hW0]
    exact grown_same (World.grownBy_alloc _ _ _) (World.grownBy_alloc _ _ _)
  have HVC := shade (validCode_any A len cap F W0 hl (hC.on e3))
  have N1 := shade (h1.on e3)
  have N2 := shade (h2.on e3)
  have HC := shade (hC.on e3)
  clear h1 h2 hC
  rw [hv] at HVC
  have HM := shade hm
  have HH := shade hh
  clear hv hm hh
  have HW0 := shade hW0
  have E1 := shade e1; have E2 := shade e2; have E3 := shade e3
  clear e1 e2 e3 hW0
  go_enter Tryd.func11, Tryd.ntmps11
  go_upto_region 1 with (fail)
  rw [HW0.out]
  clear HW0
  go_wp2_with fail
  refine HVC.out.mono ?_
  rintro e w1 ⟨rfl, hgr⟩
  have p1 := E1.out.grown hgr (by intro e; cases e)
  have E1b := shade p1
  have E2b := shade (E2.out.grown hgr (by intro e; cases e))
  have E3b := shade (grown_same E3.out hgr)
  have N1b := shade (N1.out.on hgr)
  have N2b := shade (N2.out.on hgr)
  have Cb := shade (HC.out.on hgr)
  have x0 := p1.look 0; have x1 := p1.look 1; have x2 := p1.look 2
  simp at x0 x1 x2
  clear E1 E2 E3 N1 N2 HC hgr HVC p1
  go_wp2_with fail
  refine (validMachine_any m A1 A2 n1 n2 c1 c2 f1 f2 _ hn1 hn2 N1b.out N2b.out).mono ?_
  rw [HM.out]
  rintro e w2 ⟨rfl, hgr⟩
  have p1 := E1b.out.grown hgr (by intro e; cases e)
  have E2c := shade (E2b.out.grown hgr (by intro e; cases e))
  have E3c := shade (grown_same E3b.out hgr)
  have N1c := shade (N1b.out.on hgr)
  have N2c := shade (N2b.out.on hgr)
  have Cc := shade (Cb.out.on hgr)
  clear x0 x1 x2 E1b E2b E3b N1b N2b Cb hgr
  have x0 := p1.look 0; have x1 := p1.look 1; have x2 := p1.look 2
  simp at x0 x1 x2
  clear p1
  go_wp2_with fail
  refine (halted_any A len cap m F _ Cc.out h40).mono ?_
  rw [HH.out]
  rintro e w3 ⟨rfl, rfl⟩
  have h2 := E2c.out
  have h3 := E3c.out
  have r0 := h2.look 0; have r1 := h2.look 1; have r2 := h2.look 2; have t0 := h2.free 0; have t1 := h2.free 1; have t2 := h2.free 2
  simp at r0 r1 r2
  have hP := ((h2.put 0 (.int .i64 0)).put 1 (.slice none 0 0)).put 2 (.slice none 0 0)
  simp at hP
  have HP := shade hP
  have HGF := shade (grown_put (r := w.heap.size + 1) (grown_put (r := w.heap.size + 1) (grown_put (r := w.heap.size + 1) h3 (by omega) 0 (.int .i64 0)) (by omega) 1 (.slice none 0 0)) (by omega) 2 (.slice none 0 0))
  clear h2 hP h3
  go_wp2_with fail
  have hP := HP.out
  have q0 := hP.look 0; have q1 := hP.look 1; have q2 := hP.look 2
  simp at q0 q1 q2
  refine bodyPost_ret (v := .tuple #[MV 0 none 0 0 none 0 0, .bool false]) (by simp [results, Tryd.results11, go_sem, q0, q1, q2]) rfl ⟨rfl, HGF.out⟩

set_option maxHeartbeats 4000000 in
theorem SpecStep_go (A : Option Addr) (len cap : Nat) (F : Nat → Ins) (m : Nat) (A1 : Option Addr) (n1 c1 : Nat) (A2 : Option Addr) (n2 c2 : Nat) (f1 f2 : Nat → Int) (w : World) (hl : len ≤ 9223372036854775807) (hC : Code w A len F) (h1 : Nums w A1 n1 f1) (h2 : Nums w A2 n2 f2) (hn1 : n1 ≤ 9223372036854775807) (hn2 : n2 ≤ 9223372036854775807) (hv : vcB len F = true) (h40 : len ≤ 40) (hm : vmB m n1 n2 f1 f2 = true) (hh : haltB len F m = false) (at2 : Int) (g1 g2 : Nat → Int)
    (hS : ∀ W, w.grownBy W none → Calls Tryd.prog 45 #[.slice A len cap, MV m A1 n1 c1 A2 n2 c2] W (MachOk W at2 4 8 g1 g2)) :
    Calls Tryd.prog 11 #[.slice A len cap, MV m A1 n1 c1 A2 n2 c2] w (YesStep w at2 g1 g2) := by
  obtain ⟨W0, hW0⟩ : ∃ W0, (w.alloc (.cells #[.int .i64 m, .slice A1 n1 c1, .slice A2 n2 c2] 26)).alloc (.cells #[.int .i64 0, .slice none 0 0, .slice none 0 0] 26) = W0 := ⟨_, rfl⟩
  have e1 : Holds5 W0 w.heap.size 26 #[.int .i64 m, .slice A1 n1 c1, .slice A2 n2 c2] := by
    rw [← hW0]
    exact (Holds5.fresh w 26 #[.int .i64 m, .slice A1 n1 c1, .slice A2 n2 c2]).alloc _
  have e2 : Holds5 W0 (w.heap.size + 1) 26 #[.int .i64 0, .slice none 0 0, .slice none 0 0] := by
    rw [← hW0]
    have := Holds5.fresh (w.alloc (.cells #[.int .i64 m, .slice A1 n1 c1, .slice A2 n2 c2] 26)) 26 #[.int .i64 0, .slice none 0 0, .slice none 0 0]
    rwa [World.size_alloc] at this
  have e3 : w.grownBy W0 none := by
    rw [← hW0]
    exact grown_same (World.grownBy_alloc _ _ _) (World.grownBy_alloc _ _ _)
  have HVC := shade (validCode_any A len cap F W0 hl (hC.on e3))
  have N1 := shade (h1.on e3)
  have N2 := shade (h2.on e3)
  have HC := shade (hC.on e3)
  clear h1 h2 hC
  rw [hv] at HVC
  have HM := shade hm
  have HH := shade hh
  have HS := shade hS
  clear hv hm hh hS
  have HW0 := shade hW0
  have E1 := shade e1; have E2 := shade e2; have E3 := shade e3
  clear e1 e2 e3 hW0
  go_enter Tryd.func11, Tryd.ntmps11
  go_upto_region 1 with (fail)
  rw [HW0.out]
  clear HW0
  go_wp2_with fail
  refine HVC.out.mono ?_
  rintro e w1 ⟨rfl, hgr⟩
  have p1 := E1.out.grown hgr (by intro e; cases e)
  have E1b := shade p1
  have E2b := shade (E2.out.grown hgr (by intro e; cases e))
  have E3b := shade (grown_same E3.out hgr)
  have N1b := shade (N1.out.on hgr)
  have N2b := shade (N2.out.on hgr)
  have Cb := shade (HC.out.on hgr)
  have x0 := p1.look 0; have x1 := p1.look 1; have x2 := p1.look 2
  simp at x0 x1 x2
  clear E1 E2 E3 N1 N2 HC hgr HVC p1
  go_wp2_with fail
  refine (validMachine_any m A1 A2 n1 n2 c1 c2 f1 f2 _ hn1 hn2 N1b.out N2b.out).mono ?_
  rw [HM.out]
  rintro e w2 ⟨rfl, hgr⟩
  have p1 := E1b.out.grown hgr (by intro e; cases e)
  have E2c := shade (E2b.out.grown hgr (by intro e; cases e))
  have E3c := shade (grown_same E3b.out hgr)
  have N1c := shade (N1b.out.on hgr)
  have N2c := shade (N2b.out.on hgr)
  have Cc := shade (Cb.out.on hgr)
  clear x0 x1 x2 E1b E2b E3b N1b N2b Cb hgr
  have x0 := p1.look 0; have x1 := p1.look 1; have x2 := p1.look 2
  simp at x0 x1 x2
  clear p1
  go_wp2_with fail
  refine (halted_any A len cap m F _ Cc.out h40).mono ?_
  rw [HH.out]
  rintro e w3 ⟨rfl, rfl⟩
  go_wp2_with fail
  refine (HS.out _ E3c.out).mono ?_
  rintro e w5 ⟨r1, d1, r2, d2, rfl, hne, ho1, ho2, hgr⟩
  have h2 := E2c.out.grown hgr (by intro e; cases e)
  have h3 := grown_same E3c.out hgr
  have l1 := ho1.lt
  have l2 := ho2.lt
  have z4 := E2c.out.inside
  have z5 := E3c.out.size
  have y0 := h2.look 0; have y1 := h2.look 1; have y2 := h2.look 2; have t0 := h2.free 0; have t1 := h2.free 1; have t2 := h2.free 2
  simp at y0 y1 y2
  have hP := ((h2.put 0 (.int .i64 at2)).put 1 (.slice (some ⟨r1, 0, none⟩) 4 d1)).put 2 (.slice (some ⟨r2, 0, none⟩) 8 d2)
  simp at hP
  have HP := shade hP
  have HGF := shade (grown_put (r := w.heap.size + 1) (grown_put (r := w.heap.size + 1) (grown_put (r := w.heap.size + 1) h3 (by omega) 0 (.int .i64 at2)) (by omega) 1 (.slice (some ⟨r1, 0, none⟩) 4 d1)) (by omega) 2 (.slice (some ⟨r2, 0, none⟩) 8 d2))
  have M1 := shade ((((Own.lower (B' := w.heap.size) ho1 (by omega)).far (r := w.heap.size + 1) (by omega) 0 (.int .i64 at2)).far (r := w.heap.size + 1) (by omega) 1 (.slice (some ⟨r1, 0, none⟩) 4 d1)).far (r := w.heap.size + 1) (by omega) 2 (.slice (some ⟨r2, 0, none⟩) 8 d2))
  have M2 := shade ((((Own.lower (B' := w.heap.size) ho2 (by omega)).far (r := w.heap.size + 1) (by omega) 0 (.int .i64 at2)).far (r := w.heap.size + 1) (by omega) 1 (.slice (some ⟨r1, 0, none⟩) 4 d1)).far (r := w.heap.size + 1) (by omega) 2 (.slice (some ⟨r2, 0, none⟩) 8 d2))
  clear h2 hP h3 hgr ho1 ho2 l1 l2
  go_wp2_with fail
  have hP := HP.out
  have q0 := hP.look 0; have q1 := hP.look 1; have q2 := hP.look 2
  simp at q0 q1 q2
  refine bodyPost_ret (v := .tuple #[MV at2 (some ⟨r1, 0, none⟩) 4 d1 (some ⟨r2, 0, none⟩) 8 d2, .bool true]) (by simp [results, Tryd.results11, go_sem, q0, q1, q2]) rfl ?_
  exact ⟨r1, d1, r2, d2, rfl, hne, M1.out, M2.out, HGF.out⟩
theorem SpecStepMachine_no (A : Option Addr) (len cap : Nat) (F : Nat → Ins) (at' : Int) (A1 : Option Addr) (n1 c1 : Nat) (A2 : Option Addr) (n2 c2 : Nat) (f1 f2 : Nat → Int) (w : World) (hl : len ≤ 9223372036854775807) (hC : Code w A len F) (h1 : Nums w A1 n1 f1) (h2 : Nums w A2 n2 f2) (hn1 : n1 ≤ 9223372036854775807) (hn2 : n2 ≤ 9223372036854775807) (hs : stepB len F at' n1 n2 f1 f2 = false) :
    Calls Tryd.prog 11 #[.slice A len cap, MV at' A1 n1 c1 A2 n2 c2] w (NoStep w) := by
  rcases hv : vcB len F with _ | _
  · exact SpecStep_code A len cap F at' A1 n1 c1 A2 n2 c2 f1 f2 w hl hC h1 h2 hn1 hn2 hv
  rcases hm : vmB at' n1 n2 f1 f2 with _ | _
  · exact SpecStep_mach A len cap F at' A1 n1 c1 A2 n2 c2 f1 f2 w hl hC h1 h2 hn1 hn2 hv hm
  · have hh : haltB len F at'.toNat = true := by
      simp only [stepB, hv, hm, Bool.true_and, Bool.not_eq_false'] at hs
      exact hs
    have h40 : len ≤ 40 := by
      simp only [vcB, Bool.and_eq_true, decide_eq_true_eq] at hv
      exact hv.2
    have he : ((at'.toNat : Nat) : Int) = at' := Int.toNat_of_nonneg (vmB_parts hm).1.1
    have key := SpecStep_halt A len cap F at'.toNat A1 n1 c1 A2 n2 c2 f1 f2 w hl hC h1 h2 hn1 hn2 hv h40 (by rw [he]; exact hm) hh
    rw [he] at key
    exact key
theorem SpecStepMachine_yes (A : Option Addr) (len cap : Nat) (F : Nat → Ins) (at' : Int) (A1 : Option Addr) (n1 c1 : Nat) (A2 : Option Addr) (n2 c2 : Nat) (f1 f2 : Nat → Int) (w : World) (hl : len ≤ 9223372036854775807) (hC : Code w A len F) (h1 : Nums w A1 n1 f1) (h2 : Nums w A2 n2 f2) (hn1 : n1 ≤ 9223372036854775807) (hn2 : n2 ≤ 9223372036854775807) (hs : stepB len F at' n1 n2 f1 f2 = true) :
    Calls Tryd.prog 11 #[.slice A len cap, MV at' A1 n1 c1 A2 n2 c2] w (YesStep w (stAt F at' f1) (stRegs F at' f1 f2) (stMem F at' f1 f2)) := by
  simp only [stepB, Bool.and_eq_true, Bool.not_eq_true'] at hs
  obtain ⟨⟨hv, hm⟩, hh⟩ := hs
  obtain ⟨⟨t0, t1⟩, rfl, rfl, k1, k2⟩ := vmB_parts hm
  obtain ⟨b1, o1, rfl, _⟩ := h1.resolve_left (by omega)
  obtain ⟨b2, o2, rfl, _⟩ := h2.resolve_left (by omega)
  have he : ((at'.toNat : Nat) : Int) = at' := Int.toNat_of_nonneg t0
  have hh2 := hh
  simp only [haltB, Bool.or_eq_false_iff, decide_eq_false_iff_not] at hh
  have hlt : at'.toNat < len := by omega
  obtain ⟨h40, ⟨r1, r2, r3⟩, ⟨q0, q1⟩, hw, h9, hF⟩ := ins_parts hv hlt
  have h8 : nOf F at' ≤ 8 := by
    have : wordN (F at'.toNat).op.toList ≠ 9 := fun e => by
      rw [(hlt_word _).2 e] at hh
      cases hh.2
    omega
  obtain ⟨b, off, rfl, _⟩ := hC.resolve_left (by omega)
  rw [op_is _ (nOf F at') (by omega) hw] at hF
  have key := SpecStep_go (some ⟨b, off, none⟩) len cap F at'.toNat (some ⟨b1, o1, none⟩) 4 c1 (some ⟨b2, o2, none⟩) 8 c2 f1 f2 w hl hC h1 h2 hn1 hn2 hv h40 (by rw [he]; exact hm) hh2 (stAt F at' f1) (stRegs F at' f1 f2) (stMem F at' f1 f2)
    (fun W hW => specStep_any (nOf F at') h8 b off len cap at'.toNat (rdOf F at') (raOf F at') (rbOf F at') (kOf F at') F b1 o1 c1 b2 o2 c2 f1 f2 W (hC.on hW) hlt h40 hF r1 r2 r3 q0 q1 (okL_bounds k1) (h1.on hW) (h2.on hW))
  rw [he] at key
  exact key

end Go.Proofs.YtbdlbooooiinkaaDoor
