/- RunMachine and its model: what they answer. What RunMachine leaves for a program, and whether another program leaves the same memory. The laws' comparison of programs. -/
import Derived.Test.YtjeflaodeafhbaaDoorG94
import Derived.Test.YtjeflaodeafhbaaDoorG77
import Derived.Deep.RegionHeld3
import Derived.Deep.DeepCutAuto
import Derived.Test.YtjeflaodeafhbaaDoorG600
import Derived.Test.YtjeflaodeafhbaaDoorG60
namespace Go.Proofs.YtjeflaodeafhbaaDoor
open Go.RowKit
set_option linter.unusedSimpArgs false
/-- What runOf leaves, all but the states told. -/
def RunResE (k : Nat) (t : Sta) (d b : Bool) (w : World) (e : Ending) (w' : World) : Prop :=
  ∃ (A0 : Option Addr) (l0 c0 : Nat) (A3 : Option Addr) (c3 : Nat), e = .returned (.tuple #[.agg #[.slice A0 l0 c0, .slice A3 k c3, .int .i64 t.at', .int .i64 (t.r 0), .int .i64 (t.r 1), .int .i64 (t.r 2), .int .i64 (t.r 3), .int .i64 (t.m 0), .int .i64 (t.m 1), .int .i64 (t.m 2), .int .i64 (t.m 3), .int .i64 (t.m 4), .int .i64 (t.m 5), .int .i64 (t.m 6), .int .i64 (t.m 7), .bool d], .bool b]) ∧ w.grownBy w' none
theorem NoRun.resE {w : World} {e : Ending} {w' : World} (h : NoRun w e w') : RunResE 0 zSta false false w e w' := ⟨none, 0, 0, none, 0, h.1, h.2⟩
theorem YesRun.resE {A : Option Addr} {len cap : Nat} {F : Nat → Ins} {s : Sta} {fuel K : Nat} {w : World} {e : Ending} {w' : World} (hK : RunEnd len F s fuel K) (h : YesRun A len cap F s fuel w e w') : RunResE K (sN F s K) (sHalt len F (sN F s K)) true w e w' := by
  obtain ⟨k, A3, c3, hre, he, hst, hsep, hgr⟩ := h
  obtain rfl := hre.uniq hK
  exact ⟨A, len, cap, A3, c3, he, hgr⟩
/-- What RunMachine leaves. -/
def RunMRes (w : World) (at2 : Int) (k1 k2 : Nat) (g1 g2 : Nat → Int) (n : Int) (d : Bool) (e : Ending) (w' : World) : Prop :=
  ∃ B1 d1 B2 d2, e = .returned (.tuple #[MV at2 B1 k1 d1 B2 k2 d2, .int .i64 n, .bool d]) ∧ RM w' w.heap.size B1 k1 d1 B2 k2 d2 g1 g2 ∧ w.grownBy w' none
theorem Holds5.put3o {w : World} {g : Nat} {t : TypeId} {cs : Array Value} {r : Nat} (h : Holds5 w g t cs) (hne : g ≠ r) (x y z : Value) : Holds5 (((w.setCell ⟨r, 0, none⟩ x).setCell ⟨r, 1, none⟩ y).setCell ⟨r, 2, none⟩ z) g t cs :=
  ((h.other (p := ⟨r, 0, none⟩) hne x).other (p := ⟨r, 1, none⟩) hne y).other (p := ⟨r, 2, none⟩) hne z
theorem box3m {w : World} {g : Nat} {t : TypeId} {a b c : Value} (h : Holds5 w g t #[a, b, c]) : w.cell? ⟨g, 0, none⟩ = some a ∧ w.cell? ⟨g, 1, none⟩ = some b ∧ w.cell? ⟨g, 2, none⟩ = some c :=
  ⟨(h.look 0).trans rfl, (h.look 1).trans rfl, (h.look 2).trans rfl⟩
theorem runBox {wr : World} {R : Nat} {A0 : Option Addr} {l0 c0 : Nat} {A3 : Option Addr} {k c3 : Nat} {t : Sta} {d : Bool} (h : Holds5 wr R 55 #[.slice A0 l0 c0, .slice A3 k c3, .int .i64 t.at', .int .i64 (t.r 0), .int .i64 (t.r 1), .int .i64 (t.r 2), .int .i64 (t.r 3), .int .i64 (t.m 0), .int .i64 (t.m 1), .int .i64 (t.m 2), .int .i64 (t.m 3), .int .i64 (t.m 4), .int .i64 (t.m 5), .int .i64 (t.m 6), .int .i64 (t.m 7), .bool d]) : wr.cell? ⟨R, 1, none⟩ = some (.slice A3 k c3) ∧ wr.cell? ⟨R, 2, none⟩ = some (.int .i64 t.at') ∧ wr.cell? ⟨R, 3, none⟩ = some (.int .i64 (t.r 0)) ∧ wr.cell? ⟨R, 4, none⟩ = some (.int .i64 (t.r 1)) ∧ wr.cell? ⟨R, 5, none⟩ = some (.int .i64 (t.r 2)) ∧ wr.cell? ⟨R, 6, none⟩ = some (.int .i64 (t.r 3)) ∧ wr.cell? ⟨R, 7, none⟩ = some (.int .i64 (t.m 0)) ∧ wr.cell? ⟨R, 8, none⟩ = some (.int .i64 (t.m 1)) ∧ wr.cell? ⟨R, 9, none⟩ = some (.int .i64 (t.m 2)) ∧ wr.cell? ⟨R, 10, none⟩ = some (.int .i64 (t.m 3)) ∧ wr.cell? ⟨R, 11, none⟩ = some (.int .i64 (t.m 4)) ∧ wr.cell? ⟨R, 12, none⟩ = some (.int .i64 (t.m 5)) ∧ wr.cell? ⟨R, 13, none⟩ = some (.int .i64 (t.m 6)) ∧ wr.cell? ⟨R, 14, none⟩ = some (.int .i64 (t.m 7)) ∧ wr.cell? ⟨R, 15, none⟩ = some (.bool d) :=
  ⟨(h.look 1).trans rfl, (h.look 2).trans rfl, (h.look 3).trans rfl, (h.look 4).trans rfl, (h.look 5).trans rfl, (h.look 6).trans rfl, (h.look 7).trans rfl, (h.look 8).trans rfl, (h.look 9).trans rfl, (h.look 10).trans rfl, (h.look 11).trans rfl, (h.look 12).trans rfl, (h.look 13).trans rfl, (h.look 14).trans rfl, (h.look 15).trans rfl⟩
set_option maxRecDepth 100000 in
set_option maxHeartbeats 8000000 in
theorem RunMachine_no (A : Option Addr) (len cap : Nat) (at' : Int) (A1 : Option Addr) (n1 c1 : Nat) (A2 : Option Addr) (n2 c2 : Nat) (fuel : Int) (k : Nat) (t : Sta) (d : Bool) (g1 g2 : Nat → Int) (w : World) (hR : ∀ W, w.grownBy W none → Calls Tryd.prog 46 #[.slice A len cap, MV at' A1 n1 c1 A2 n2 c2, .int .i64 fuel] W (RunResE k t d false W)) :
    Calls Tryd.prog 16 #[.slice A len cap, MV at' A1 n1 c1 A2 n2 c2, .int .i64 fuel] w (RunMRes w 0 0 0 g1 g2 (-1) false) := by
  obtain ⟨W0, hW0⟩ : ∃ W0, (w.alloc (.cells #[.int .i64 at', .slice A1 n1 c1, .slice A2 n2 c2] 29)).alloc (.cells #[.int .i64 0, .slice none 0 0, .slice none 0 0] 29) = W0 := ⟨_, rfl⟩
  have e1 : Holds5 W0 w.heap.size 29 #[.int .i64 at', .slice A1 n1 c1, .slice A2 n2 c2] := by
    rw [← hW0]
    exact (Holds5.fresh w 29 #[.int .i64 at', .slice A1 n1 c1, .slice A2 n2 c2]).alloc _
  have e2 : Holds5 W0 (w.heap.size + 1) 29 #[.int .i64 0, .slice none 0 0, .slice none 0 0] := by
    rw [← hW0]
    have := Holds5.fresh (w.alloc (.cells #[.int .i64 at', .slice A1 n1 c1, .slice A2 n2 c2] 29)) 29 #[.int .i64 0, .slice none 0 0, .slice none 0 0]
    rwa [World.size_alloc] at this
  have e3 : w.grownBy W0 none := by
    rw [← hW0]
    exact grown_same (World.grownBy_alloc _ _ _) (World.grownBy_alloc _ _ _)
  have HR := shade (hR _ e3)
  have HW0 := shade hW0
  have E1 := shade e1; have E2 := shade e2; have E3 := shade e3
  clear e1 e2 e3 hW0 hR
  go_enter Tryd.func16, Tryd.ntmps16
  go_upto_region 1 with (fail)
  rw [HW0.out]
  clear HW0
  have x0 := E1.out.look 0; have x1 := E1.out.look 1; have x2 := E1.out.look 2
  simp at x0 x1 x2
  go_wp2_with fail
  refine HR.out.mono ?_
  rintro e w1 ⟨A0, l0, c0, A3, c3, rfl, hgr⟩
  have h2 := (E2.out.grown hgr (by intro e; cases e)).alloc (.cells #[.slice A0 l0 c0, .slice A3 k c3, .int .i64 t.at', .int .i64 (t.r 0), .int .i64 (t.r 1), .int .i64 (t.r 2), .int .i64 (t.r 3), .int .i64 (t.m 0), .int .i64 (t.m 1), .int .i64 (t.m 2), .int .i64 (t.m 3), .int .i64 (t.m 4), .int .i64 (t.m 5), .int .i64 (t.m 6), .int .i64 (t.m 7), .bool d] 55)
  have h3 := grown_same (grown_same E3.out hgr) (World.grownBy_alloc w1 (.cells #[.slice A0 l0 c0, .slice A3 k c3, .int .i64 t.at', .int .i64 (t.r 0), .int .i64 (t.r 1), .int .i64 (t.r 2), .int .i64 (t.r 3), .int .i64 (t.m 0), .int .i64 (t.m 1), .int .i64 (t.m 2), .int .i64 (t.m 3), .int .i64 (t.m 4), .int .i64 (t.m 5), .int .i64 (t.m 6), .int .i64 (t.m 7), .bool d] 55) none)
  clear hgr x0 x1 x2 HR E1 E2 E3
  go_upto_region 2 with (fail)
  obtain ⟨W2, hW⟩ : ∃ W2, w1.alloc (.cells #[.slice A0 l0 c0, .slice A3 k c3, .int .i64 t.at', .int .i64 (t.r 0), .int .i64 (t.r 1), .int .i64 (t.r 2), .int .i64 (t.r 3), .int .i64 (t.m 0), .int .i64 (t.m 1), .int .i64 (t.m 2), .int .i64 (t.m 3), .int .i64 (t.m 4), .int .i64 (t.m 5), .int .i64 (t.m 6), .int .i64 (t.m 7), .bool d] 55) = W2 := ⟨_, rfl⟩
  rw [hW] at h2 h3 ⊢
  clear hW
  have r0 := h2.look 0; have r1 := h2.look 1; have r2 := h2.look 2; have t0 := h2.free 0; have t1 := h2.free 1; have t2 := h2.free 2
  simp at r0 r1 r2
  have hP := ((h2.put 0 (.int .i64 0)).put 1 (.slice none 0 0)).put 2 (.slice none 0 0)
  simp at hP
  have HP := shade hP
  have HGF := shade (grown_put (r := w.heap.size + 1) (grown_put (r := w.heap.size + 1) (grown_put (r := w.heap.size + 1) h3 (by omega) 0 (.int .i64 0)) (by omega) 1 (.slice none 0 0)) (by omega) 2 (.slice none 0 0))
  clear h2 hP h3
  go_wp2_with fail
  have hP := HP.out
  have q0 := hP.look 0; have q1 := hP.look 1; have q2 := hP.look 2
  simp at q0 q1 q2
  refine bodyPost_ret (v := .tuple #[MV 0 none 0 0 none 0 0, .int .i64 (-1), .bool false]) (by simp [results, Tryd.results16, go_sem, q0, q1, q2]) rfl ⟨none, 0, none, 0, rfl, .inl ⟨rfl, rfl, rfl, rfl⟩, HGF.out⟩

set_option maxRecDepth 100000 in
set_option maxHeartbeats 16000000 in
theorem RunMachine_yes (A : Option Addr) (len cap : Nat) (at' : Int) (A1 : Option Addr) (n1 c1 : Nat) (A2 : Option Addr) (n2 c2 : Nat) (fuel : Int) (k : Nat) (t : Sta) (d : Bool) (w : World) (_hk : k ≤ 300) (hR : ∀ W, w.grownBy W none → Calls Tryd.prog 46 #[.slice A len cap, MV at' A1 n1 c1 A2 n2 c2, .int .i64 fuel] W (RunResE k t d true W)) :
    Calls Tryd.prog 16 #[.slice A len cap, MV at' A1 n1 c1 A2 n2 c2, .int .i64 fuel] w (RunMRes w t.at' 4 8 t.r t.m k d) := by
  obtain ⟨W0, hW0⟩ : ∃ W0, (w.alloc (.cells #[.int .i64 at', .slice A1 n1 c1, .slice A2 n2 c2] 29)).alloc (.cells #[.int .i64 0, .slice none 0 0, .slice none 0 0] 29) = W0 := ⟨_, rfl⟩
  have e1 : Holds5 W0 w.heap.size 29 #[.int .i64 at', .slice A1 n1 c1, .slice A2 n2 c2] := by
    rw [← hW0]
    exact (Holds5.fresh w 29 #[.int .i64 at', .slice A1 n1 c1, .slice A2 n2 c2]).alloc _
  have e2 : Holds5 W0 (w.heap.size + 1) 29 #[.int .i64 0, .slice none 0 0, .slice none 0 0] := by
    rw [← hW0]
    have := Holds5.fresh (w.alloc (.cells #[.int .i64 at', .slice A1 n1 c1, .slice A2 n2 c2] 29)) 29 #[.int .i64 0, .slice none 0 0, .slice none 0 0]
    rwa [World.size_alloc] at this
  have e3 : w.grownBy W0 none := by
    rw [← hW0]
    exact grown_same (World.grownBy_alloc _ _ _) (World.grownBy_alloc _ _ _)
  have HR := shade (hR _ e3)
  have HW0 := shade hW0
  have E1 := shade e1; have E2 := shade e2; have E3 := shade e3
  clear e1 e2 e3 hW0 hR
  go_enter Tryd.func16, Tryd.ntmps16
  go_upto_region 1 with (fail)
  rw [HW0.out]
  clear HW0
  have x0 := E1.out.look 0; have x1 := E1.out.look 1; have x2 := E1.out.look 2
  simp at x0 x1 x2
  go_wp2_with fail
  refine HR.out.mono ?_
  rintro e w1 ⟨A0, l0, c0, A3, c3, rfl, hgr⟩
  have h2 := (E2.out.grown hgr (by intro e; cases e)).alloc (.cells #[.slice A0 l0 c0, .slice A3 k c3, .int .i64 t.at', .int .i64 (t.r 0), .int .i64 (t.r 1), .int .i64 (t.r 2), .int .i64 (t.r 3), .int .i64 (t.m 0), .int .i64 (t.m 1), .int .i64 (t.m 2), .int .i64 (t.m 3), .int .i64 (t.m 4), .int .i64 (t.m 5), .int .i64 (t.m 6), .int .i64 (t.m 7), .bool d] 55)
  have h3 := grown_same (grown_same E3.out hgr) (World.grownBy_alloc w1 (.cells #[.slice A0 l0 c0, .slice A3 k c3, .int .i64 t.at', .int .i64 (t.r 0), .int .i64 (t.r 1), .int .i64 (t.r 2), .int .i64 (t.r 3), .int .i64 (t.m 0), .int .i64 (t.m 1), .int .i64 (t.m 2), .int .i64 (t.m 3), .int .i64 (t.m 4), .int .i64 (t.m 5), .int .i64 (t.m 6), .int .i64 (t.m 7), .bool d] 55) none)
  have h4 : Holds5 (w1.alloc (.cells #[.slice A0 l0 c0, .slice A3 k c3, .int .i64 t.at', .int .i64 (t.r 0), .int .i64 (t.r 1), .int .i64 (t.r 2), .int .i64 (t.r 3), .int .i64 (t.m 0), .int .i64 (t.m 1), .int .i64 (t.m 2), .int .i64 (t.m 3), .int .i64 (t.m 4), .int .i64 (t.m 5), .int .i64 (t.m 6), .int .i64 (t.m 7), .bool d] 55)) w1.heap.size 55 #[.slice A0 l0 c0, .slice A3 k c3, .int .i64 t.at', .int .i64 (t.r 0), .int .i64 (t.r 1), .int .i64 (t.r 2), .int .i64 (t.r 3), .int .i64 (t.m 0), .int .i64 (t.m 1), .int .i64 (t.m 2), .int .i64 (t.m 3), .int .i64 (t.m 4), .int .i64 (t.m 5), .int .i64 (t.m 6), .int .i64 (t.m 7), .bool d] := Holds5.fresh w1 55 #[.slice A0 l0 c0, .slice A3 k c3, .int .i64 t.at', .int .i64 (t.r 0), .int .i64 (t.r 1), .int .i64 (t.r 2), .int .i64 (t.r 3), .int .i64 (t.m 0), .int .i64 (t.m 1), .int .i64 (t.m 2), .int .i64 (t.m 3), .int .i64 (t.m 4), .int .i64 (t.m 5), .int .i64 (t.m 6), .int .i64 (t.m 7), .bool d]
  have z2 := (E2.out.grown hgr (by intro e; cases e)).inside
  clear hgr x0 x1 x2 HR E1 E2 E3
  go_upto_region 2 with (fail)
  obtain ⟨W2, hW⟩ : ∃ W2, w1.alloc (.cells #[.slice A0 l0 c0, .slice A3 k c3, .int .i64 t.at', .int .i64 (t.r 0), .int .i64 (t.r 1), .int .i64 (t.r 2), .int .i64 (t.r 3), .int .i64 (t.m 0), .int .i64 (t.m 1), .int .i64 (t.m 2), .int .i64 (t.m 3), .int .i64 (t.m 4), .int .i64 (t.m 5), .int .i64 (t.m 6), .int .i64 (t.m 7), .bool d] 55) = W2 := ⟨_, rfl⟩
  obtain ⟨R, hR⟩ : ∃ R, w1.heap.size = R := ⟨_, rfl⟩
  rw [hR] at h4 z2 ⊢
  rw [hW] at h2 h3 h4 ⊢
  clear hW hR
  have hRne : R ≠ w.heap.size + 1 := by omega
  have H2 := shade h2; have H3 := shade h3; have H4 := shade h4
  clear h2 h3 h4
  go_upto_region 4 with (fail)
  go_region_held3 (fun w' => w'.cell? ⟨R, 1, none⟩ = some (.slice A3 k c3) ∧ w'.cell? ⟨R, 2, none⟩ = some (.int .i64 t.at') ∧ w'.cell? ⟨R, 3, none⟩ = some (.int .i64 (t.r 0)) ∧ w'.cell? ⟨R, 4, none⟩ = some (.int .i64 (t.r 1)) ∧ w'.cell? ⟨R, 5, none⟩ = some (.int .i64 (t.r 2)) ∧ w'.cell? ⟨R, 6, none⟩ = some (.int .i64 (t.r 3)) ∧ w'.cell? ⟨R, 7, none⟩ = some (.int .i64 (t.m 0)) ∧ w'.cell? ⟨R, 8, none⟩ = some (.int .i64 (t.m 1)) ∧ w'.cell? ⟨R, 9, none⟩ = some (.int .i64 (t.m 2)) ∧ w'.cell? ⟨R, 10, none⟩ = some (.int .i64 (t.m 3)) ∧ w'.cell? ⟨R, 11, none⟩ = some (.int .i64 (t.m 4)) ∧ w'.cell? ⟨R, 12, none⟩ = some (.int .i64 (t.m 5)) ∧ w'.cell? ⟨R, 13, none⟩ = some (.int .i64 (t.m 6)) ∧ w'.cell? ⟨R, 14, none⟩ = some (.int .i64 (t.m 7)) ∧ w'.cell? ⟨R, 15, none⟩ = some (.bool d))
    (first | with_reducible exact runBox H4.out.drew | with_reducible exact runBox HB.out | with_reducible exact runBox (HB.out.put3o hRne _ _ _))
    (first | (go_at_call 47; refine (stateMachine_any t.at' t.r t.m _).mono ?_; rintro e w5 ⟨r1, d1, r2, d2, rfl, hne, ho1, ho2, hgr⟩; have HB := shade (H4.out.drew.grown hgr (by intro e; cases e)); have hl1 := ho1.lt; have hl2 := ho2.lt; simp only [size_drewS] at hl1 hl2; have hd := H2.out.drew.grown hgr (by intro e; cases e); have zi := H2.out.inside; have y0 := hd.look 0; have y1 := hd.look 1; have y2 := hd.look 2; have t0 := hd.free 0; have t1 := hd.free 1; have t2 := hd.free 2; simp at y0 y1 y2; have hP := ((hd.put 0 (.int .i64 t.at')).put 1 (.slice (some ⟨r1, 0, none⟩) 4 d1)).put 2 (.slice (some ⟨r2, 0, none⟩) 8 d2); simp at hP; have HP := shade hP; have h3d := grown_same (grown_same H3.out (grown_drew1 W2)) hgr; have HGF := shade (grown_put (r := w.heap.size + 1) (grown_put (r := w.heap.size + 1) (grown_put (r := w.heap.size + 1) h3d (by omega) 0 (.int .i64 t.at')) (by omega) 1 (.slice (some ⟨r1, 0, none⟩) 4 d1)) (by omega) 2 (.slice (some ⟨r2, 0, none⟩) 8 d2)); have M1 := shade ((((Own.lower (B' := w.heap.size) ho1 (by simp only [size_drewS]; omega)).far (r := w.heap.size + 1) (by omega) 0 (.int .i64 t.at')).far (r := w.heap.size + 1) (by omega) 1 (.slice (some ⟨r1, 0, none⟩) 4 d1)).far (r := w.heap.size + 1) (by omega) 2 (.slice (some ⟨r2, 0, none⟩) 8 d2)); have M2 := shade ((((Own.lower (B' := w.heap.size) ho2 (by simp only [size_drewS]; omega)).far (r := w.heap.size + 1) (by omega) 0 (.int .i64 t.at')).far (r := w.heap.size + 1) (by omega) 1 (.slice (some ⟨r1, 0, none⟩) 4 d1)).far (r := w.heap.size + 1) (by omega) 2 (.slice (some ⟨r2, 0, none⟩) 8 d2)); have HN := shade hne; clear ho1 ho2 hgr hne hd hP h3d hl1 hl2 zi))
  all_goals (go_wp2_with fail; have hP := HP.out; have q0 := hP.look 0; have q1 := hP.look 1; have q2 := hP.look 2; simp at q0 q1 q2; refine bodyPost_ret (v := .tuple #[MV t.at' (some ⟨r1, 0, none⟩) 4 d1 (some ⟨r2, 0, none⟩) 8 d2, .int .i64 k, .bool d]) (by simp [results, Tryd.results16, go_sem, q0, q1, q2]) rfl ⟨_, d1, _, d2, rfl, .inr ⟨r1, r2, rfl, rfl, HN.out, M1.out, M2.out⟩, HGF.out⟩)

end Go.Proofs.YtjeflaodeafhbaaDoor

namespace Go.Proofs.YtjeflaodeafhbaaDoor
open Go.RowKit
set_option linter.unusedSimpArgs false
theorem runEnd_some (n : Nat) (F : Nat → Ins) (s : Sta) : ∀ fuel, ∃ K, RunEnd n F s fuel K := by
  intro fuel
  induction fuel with
  | zero => exact ⟨0, Nat.le_refl _, fun i hi => absurd hi (Nat.not_lt_zero i), .inl rfl⟩
  | succ fuel ih =>
    obtain ⟨K, h1, h2, h3⟩ := ih
    rcases h : sHalt n F (sN F s K) with _ | _
    · rcases h3 with h3 | h3
      · refine ⟨K + 1, by omega, fun i hi => ?_, .inl (by omega)⟩
        by_cases e : i = K
        · rw [e]
          exact h
        · exact h2 i (by omega)
      · rw [h] at h3
        cases h3
    · exact ⟨K, by omega, h2, .inr h⟩
theorem runs_told (A : Option Addr) (n cap : Nat) (F : Nat → Ins) (s : Sta) (b1 c1 b2 c2 : Nat) (fuel K : Nat) (w : World) (hg : WT w) (hC : Code w A n F) (h1 : Nums w (some ⟨b1, 0, none⟩) 4 s.r) (h2 : Nums w (some ⟨b2, 0, none⟩) 8 s.m) (hv : vcB n F = true) (hm : vmB s.at' 4 8 s.r s.m = true) (hf : fuel ≤ 300) (hK : RunEnd n F s fuel K) :
    Calls Tryd.prog 16 #[.slice A n cap, MV s.at' (some ⟨b1, 0, none⟩) 4 c1 (some ⟨b2, 0, none⟩) 8 c2, .int .i64 fuel] w (RunMRes w (sN F s K).at' 4 8 (sN F s K).r (sN F s K).m K (sHalt n F (sN F s K))) := by
  have hn := vcB_40 hv
  refine RunMachine_yes A n cap s.at' (some ⟨b1, 0, none⟩) 4 c1 (some ⟨b2, 0, none⟩) 8 c2 fuel K (sN F s K) (sHalt n F (sN F s K)) w (by have := hK.le; omega) (fun W hW => ?_)
  exact (runOf_yes A n cap F s b1 0 c1 b2 0 c2 fuel W (hg.below (below_of_grown hW) (wt_lt hg)) (by omega) (hC.on hW) (nums_on h1 hW) (nums_on h2 hW) hv hm hf).mono fun _ _ h => h.resE hK
/-- What RunMachine leaves, in blocks. -/
theorem RunMRes.open {w w' : World} {at2 : Int} {g1 g2 : Nat → Int} {n : Int} {d : Bool} {e : Ending} (h : RunMRes w at2 4 8 g1 g2 n d e w') : ∃ r1 d1 r2 d2, e = .returned (.tuple #[MV at2 (some ⟨r1, 0, none⟩) 4 d1 (some ⟨r2, 0, none⟩) 8 d2, .int .i64 n, .bool d]) ∧ Own w' w.heap.size (some ⟨r1, 0, none⟩) 4 d1 g1 ∧ Own w' w.heap.size (some ⟨r2, 0, none⟩) 8 d2 g2 ∧ w.grownBy w' none := by
  obtain ⟨B1, d1, B2, d2, he, hR, hg⟩ := h
  rcases hR with ⟨h, _⟩ | ⟨r1, r2, rfl, rfl, _, o1, o2⟩
  · cases h
  · exact ⟨r1, d1, r2, d2, he, o1, o2, hg⟩
set_option maxRecDepth 100000 in
set_option maxHeartbeats 8000000 in
theorem sameEnd_any (A A2 : Option Addr) (n c n2 cc : Nat) (F F2 : Nat → Ins) (s : Sta) (b1 c1 b2 c2 : Nat) (w : World) (hg : WT w) (hC : Code w A n F) (hC2 : Code w A2 n2 F2) (h1 : Nums w (some ⟨b1, 0, none⟩) 4 s.r) (h2 : Nums w (some ⟨b2, 0, none⟩) 8 s.m) (hv : vcB n F = true) (hv2 : vcB n2 F2 = true) (hm : vmB s.at' 4 8 s.r s.m = true)
    (hE : ∀ K, (∀ i, i < K → sHalt n F (sN F s i) = false) → sHalt n F (sN F s K) = true → EndsBy F2 n2 s K (sN F s K).m) :
    Calls Tryd.prog 22 #[.slice A n c, .slice A2 n2 cc, MV s.at' (some ⟨b1, 0, none⟩) 4 c1 (some ⟨b2, 0, none⟩) 8 c2] w fun e w' => e = .returned (.bool true) ∧ w.grownBy w' none := by
  obtain ⟨K, hK⟩ := runEnd_some n F s 300
  have HR := shade (fun W (hW : w.grownBy W none) => runs_told A n c F s b1 c1 b2 c2 300 K W (hg.below (below_of_grown hW) (wt_lt hg)) (hC.on hW) (nums_on h1 hW) (nums_on h2 hW) hv hm (Nat.le_refl _) hK)
  obtain ⟨K2, hK2⟩ := runEnd_some n2 F2 s 300
  have HR2 := shade (fun W (hW : w.grownBy W none) => runs_told A2 n2 cc F2 s b1 c1 b2 c2 300 K2 W (hg.below (below_of_grown hW) (wt_lt hg)) (hC2.on hW) (nums_on h1 hW) (nums_on h2 hW) hv2 hm (Nat.le_refl _) hK2)
  have hx : sHalt n F (sN F s K) = true → sHalt n2 F2 (sN F2 s K2) = true ∧ K2 ≤ K ∧ (sN F2 s K2).m = (sN F s K).m := fun hh => by
    obtain ⟨K3, k1, k2, k3, k4⟩ := hE K hK.go hh
    have hkk : RunEnd n2 F2 s 300 K3 := ⟨by have := hK.le; omega, k2, .inr k3⟩
    obtain rfl := hkk.uniq hK2
    exact ⟨k3, k1, k4⟩
  have HX := shade hx
  have hkl := hK.le
  have hkl2 := hK2.le
  obtain ⟨at2, hat⟩ : ∃ x, (sN F s K).at' = x := ⟨_, rfl⟩
  obtain ⟨r2, hr2⟩ : ∃ x, (sN F s K).r = x := ⟨_, rfl⟩
  obtain ⟨m2, hm2⟩ : ∃ x, (sN F s K).m = x := ⟨_, rfl⟩
  obtain ⟨d, hd⟩ : ∃ x, sHalt n F (sN F s K) = x := ⟨_, rfl⟩
  obtain ⟨at3, hat3⟩ : ∃ x, (sN F2 s K2).at' = x := ⟨_, rfl⟩
  obtain ⟨r3, hr3⟩ : ∃ x, (sN F2 s K2).r = x := ⟨_, rfl⟩
  obtain ⟨m3, hm3⟩ : ∃ x, (sN F2 s K2).m = x := ⟨_, rfl⟩
  obtain ⟨d3, hd3⟩ : ∃ x, sHalt n2 F2 (sN F2 s K2) = x := ⟨_, rfl⟩
  rw [hat, hr2, hm2, hd] at HR
  rw [hat3, hr3, hm3, hd3] at HR2
  rw [hd, hd3, hm2, hm3] at HX
  clear hx hat hr2 hm2 hd hat3 hr3 hm3 hd3 hE hC hC2 h1 h2 hv hv2 hm hK hK2 hg
  have hbx := World.grownBy_alloc w (.cells #[.int .i64 s.at', .slice (some ⟨b1, 0, none⟩) 4 c1, .slice (some ⟨b2, 0, none⟩) 8 c2] 29) none
  have HM := shade (Holds5.fresh w 29 #[.int .i64 s.at', .slice (some ⟨b1, 0, none⟩) 4 c1, .slice (some ⟨b2, 0, none⟩) 8 c2])
  have HB := shade hbx
  clear hbx
  go_enter Tryd.func22, Tryd.ntmps22
  go_wp2_with fail
  refine (HR.out _ HB.out).mono ?_
  rintro e w2 h5
  obtain ⟨ra, da, rb, db, rfl, o1, o2, hg⟩ := RunMRes.open h5
  have hga := World.grownBy_alloc w2 (.cells #[.int .i64 at2, .slice (some ⟨ra, 0, none⟩) 4 da, .slice (some ⟨rb, 0, none⟩) 8 db] 29) none
  have HB2 := shade (grown_same HB.out (grown_same hg hga))
  have HM2 := shade (HM.out.grown (grown_same hg hga) (by intro e; cases e))
  have HA2 := shade (Holds5.fresh w2 29 #[.int .i64 at2, .slice (some ⟨ra, 0, none⟩) 4 da, .slice (some ⟨rb, 0, none⟩) 8 db])
  have HO2 := shade (nums_on o2.nums hga)
  clear h5 o1 o2 hg hga HR HB HM
  rcases d with _ | _
  · go_wp2_with fail
    go_ret
    exact ⟨rfl, HB2.out⟩
  · obtain ⟨x1, x2, x3⟩ := HX.out rfl
    subst x1 x3
    clear HX
    go_upto_region 4 with (fail)
    obtain ⟨W2, hW2⟩ : ∃ W2, w2.alloc (.cells #[.int .i64 at2, .slice (some ⟨ra, 0, none⟩) 4 da, .slice (some ⟨rb, 0, none⟩) 8 db] 29) = W2 := ⟨_, rfl⟩
    rw [hW2] at HB2 HM2 HA2 HO2 ⊢
    clear hW2
    have q0 := HM2.out.look 0; have q1 := HM2.out.look 1; have q2 := HM2.out.look 2
    simp at q0 q1 q2
    go_wp2_with fail
    refine (HR2.out _ HB2.out).mono ?_
    rintro e w3 h5
    obtain ⟨r3a, d3a, r3b, d3b, rfl, o1, o2, hg⟩ := RunMRes.open h5
    have hga := World.grownBy_alloc w3 (.cells #[.int .i64 at3, .slice (some ⟨r3a, 0, none⟩) 4 d3a, .slice (some ⟨r3b, 0, none⟩) 8 d3b] 29) none
    have HB3 := shade (grown_same HB2.out (grown_same hg hga))
    have HA3 := shade (HA2.out.grown (grown_same hg hga) (by intro e; cases e))
    have HO3 := shade (nums_on HO2.out (grown_same hg hga))
    have HC3 := shade (Holds5.fresh w3 29 #[.int .i64 at3, .slice (some ⟨r3a, 0, none⟩) 4 d3a, .slice (some ⟨r3b, 0, none⟩) 8 d3b])
    have HD3 := shade (nums_on o2.nums hga)
    clear h5 o1 o2 hg hga HR2 HB2 HM2 HA2 HO2 q0 q1 q2
    go_upto_region 5 with (fail)
    obtain ⟨W3, hW3⟩ : ∃ W3, w3.alloc (.cells #[.int .i64 at3, .slice (some ⟨r3a, 0, none⟩) 4 d3a, .slice (some ⟨r3b, 0, none⟩) 8 d3b] 29) = W3 := ⟨_, rfl⟩
    rw [hW3] at HB3 HA3 HO3 HC3 HD3 ⊢
    clear hW3
    have q0 := HA3.out.look 0; have q1 := HA3.out.look 1; have q2 := HA3.out.look 2
    have p0 := HC3.out.look 0; have p1 := HC3.out.look 1; have p2 := HC3.out.look 2
    simp at q0 q1 q2 p0 p1 p2
    have hkk : (K2 : Int) ≤ (K : Int) := by omega
    have HEQ := shade (equalInts_any (some ⟨rb, 0, none⟩) (some ⟨r3b, 0, none⟩) db d3b 8 m3 m3 W3 (by omega) HO3.out HD3.out (fun _ _ => rfl))
    clear HO3 HD3 HA3 HC3
    go_wp2_with fail
    refine HEQ.out.mono ?_
    rintro e w4 ⟨rfl, m, rfl⟩
    have HB4 := shade (grown_drewN HB3.out m)
    go_wp2_with fail
    go_ret
    exact ⟨rfl, HB4.out⟩
end Go.Proofs.YtjeflaodeafhbaaDoor

namespace Go.Proofs.YtjeflaodeafhbaaDoor
open Go.RowKit
set_option linter.unusedSimpArgs false
theorem equalCode_zero (A1 A2 : Option Addr) (c1 c2 : Nat) (w : World) :
    Calls Tryd.prog 19 #[.slice A1 0 c1, .slice A2 0 c2] w fun e w' => e = .returned (.bool true) ∧ w.grownBy w' none := by
  go_enter Tryd.func19, Tryd.ntmps19
  go_wp2
  refine wp_loop_rounds 1 ?_
  rw [rounds_succ]
  go_wp2
  go_ret
  exact ⟨rfl, World.grownBy.refl _ _⟩
set_option maxHeartbeats 4000000 in
theorem equalCode_at (b1 o1 b2 o2 c1 c2 n : Nat) (f : Nat → Ins) (w : World) (hn : n ≤ 9223372036854775807) (h1 : Code w (some ⟨b1, o1, none⟩) n f) (h2 : Code w (some ⟨b2, o2, none⟩) n f) :
    Calls Tryd.prog 19 #[.slice (some ⟨b1, o1, none⟩) n c1, .slice (some ⟨b2, o2, none⟩) n c2] w fun e w' => e = .returned (.bool true) ∧ w.grownBy w' none := by
  have H1 := shade h1
  have H2 := shade h2
  clear h1 h2
  go_enter Tryd.func19, Tryd.ntmps19
  go_wp2
  go_loopw [5] (fun i wr => ∃ k : Nat, k ≤ n ∧ i = .int .i64 k ∧ w.grownBy wr none) (fun i _ => n - (intOf i).toNat)
  case atStart => exact ⟨0, Nat.zero_le _, rfl, World.grownBy.refl _ _⟩
  case round =>
    obtain ⟨k, hk, rfl, hg⟩ := hrel
    by_cases hkn : k < n
    · have hgd := grown_same hg (grown_drew1 wr)
      have p := (H1.out.on hgd).five hkn
      have q := (H2.out.on hgd).five hkn
      have HG := shade hgd
      clear hg hgd
      generalize f k = cc at *
      obtain ⟨op, d, a, b', kk⟩ := cc
      simp only [] at p q
      have S0 := shade (And.intro p q)
      clear p q
      go_wp2_with fail
      go_region_held3 (fun w' => (w'.cell? ⟨b1, o1 + k * 5, none⟩ = some (.string op) ∧ w'.cell? ⟨b1, o1 + k * 5 + 1, none⟩ = some (.int .i64 d) ∧ w'.cell? ⟨b1, o1 + k * 5 + 2, none⟩ = some (.int .i64 a) ∧ w'.cell? ⟨b1, o1 + k * 5 + 3, none⟩ = some (.int .i64 b') ∧ w'.cell? ⟨b1, o1 + k * 5 + 4, none⟩ = some (.int .i64 kk)) ∧ (w'.cell? ⟨b2, o2 + k * 5, none⟩ = some (.string op) ∧ w'.cell? ⟨b2, o2 + k * 5 + 1, none⟩ = some (.int .i64 d) ∧ w'.cell? ⟨b2, o2 + k * 5 + 2, none⟩ = some (.int .i64 a) ∧ w'.cell? ⟨b2, o2 + k * 5 + 3, none⟩ = some (.int .i64 b') ∧ w'.cell? ⟨b2, o2 + k * 5 + 4, none⟩ = some (.int .i64 kk))) (exact S0.out) (fail)
      go_wp2_with fail
      go_roundw
      case rel => exact ⟨k + 1, by omega, by go_num, HG.out⟩
      case measure => simp [intOf]; omega
    · have hkn2 : k = n := by omega
      subst hkn2
      have HG := shade hg
      clear hg
      go_wp2
      go_ret
      exact ⟨rfl, HG.out⟩
theorem equalCode_any (A1 A2 : Option Addr) (c1 c2 n : Nat) (f : Nat → Ins) (w : World) (hn : n ≤ 9223372036854775807) (h1 : Code w A1 n f) (h2 : Code w A2 n f) :
    Calls Tryd.prog 19 #[.slice A1 n c1, .slice A2 n c2] w fun e w' => e = .returned (.bool true) ∧ w.grownBy w' none := by
  by_cases h0 : n = 0
  · subst h0
    exact equalCode_zero A1 A2 c1 c2 w
  · obtain ⟨b1, o1, rfl, _⟩ := h1.resolve_left h0
    obtain ⟨b2, o2, rfl, _⟩ := h2.resolve_left h0
    exact equalCode_at b1 o1 b2 o2 c1 c2 n f w hn h1 h2
end Go.Proofs.YtjeflaodeafhbaaDoor
