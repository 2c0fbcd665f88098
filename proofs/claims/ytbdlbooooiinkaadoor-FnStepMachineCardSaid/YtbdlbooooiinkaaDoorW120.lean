/- RunMachine and its model: what they answer. -/
import Derived.Test.YtbdlbooooiinkaaDoorG94
import Derived.Test.YtbdlbooooiinkaaDoorG77
import Derived.Deep.RegionHeld3
import Derived.Deep.DeepCutAuto
namespace Go.Proofs.YtbdlbooooiinkaaDoor
open Go.RowKit
set_option linter.unusedSimpArgs false
/-- What runOf leaves, all but the states told. -/
def RunResE (k : Nat) (t : Sta) (d b : Bool) (w : World) (e : Ending) (w' : World) : Prop :=
  ∃ (A0 : Option Addr) (l0 c0 : Nat) (A3 : Option Addr) (c3 : Nat), e = .returned (.tuple #[.agg #[.slice A0 l0 c0, .slice A3 k c3, .int .i64 t.at', .int .i64 (t.r 0), .int .i64 (t.r 1), .int .i64 (t.r 2), .int .i64 (t.r 3), .int .i64 (t.m 0), .int .i64 (t.m 1), .int .i64 (t.m 2), .int .i64 (t.m 3), .int .i64 (t.m 4), .int .i64 (t.m 5), .int .i64 (t.m 6), .int .i64 (t.m 7), .bool d], .bool b]) ∧ w.grownBy w' none
theorem NoRun.resE {w : World} {e : Ending} {w' : World} (h : NoRun w e w') : RunResE 0 zSta false false w e w' := ⟨none, 0, 0, none, 0, h.1, h.2⟩
theorem YesRun.resE {A : Option Addr} {len cap : Nat} {F : Nat → Ins} {s : Sta} {fuel K : Nat} {w : World} {e : Ending} {w' : World} (hK : RunEnd len F s fuel K) (h : YesRun A len cap F s fuel w e w') : RunResE K (sN F s K) (sHalt len F (sN F s K)) true w e w' := by
  obtain ⟨k, A3, c3, hre, he, hst, hsep, hgr⟩ := h
  obtain rfl := hre.uniq hK
  exact ⟨A, len, cap, A3, c3, he, hgr⟩
/-- What RunMachine leaves. -/
def RunMRes (w : World) (at2 : Int) (k1 k2 : Nat) (g1 g2 : Nat → Int) (n : Int) (d : Bool) (e : Ending) (w' : World) : Prop :=
  ∃ B1 d1 B2 d2, e = .returned (.tuple #[MV at2 B1 k1 d1 B2 k2 d2, .int .i64 n, .bool d]) ∧ RM w' w.heap.size B1 k1 d1 B2 k2 d2 g1 g2 ∧ w.grownBy w' none
theorem Holds5.put3o {w : World} {g : Nat} {t : TypeId} {cs : Array Value} {r : Nat} (h : Holds5 w g t cs) (hne : g ≠ r) (x y z : Value) : Holds5 (((w.setCell ⟨r, 0, none⟩ x).setCell ⟨r, 1, none⟩ y).setCell ⟨r, 2, none⟩ z) g t cs :=
  ((h.other (p := ⟨r, 0, none⟩) hne x).other (p := ⟨r, 1, none⟩) hne y).other (p := ⟨r, 2, none⟩) hne z
theorem box3m {w : World} {g : Nat} {t : TypeId} {a b c : Value} (h : Holds5 w g t #[a, b, c]) : w.cell? ⟨g, 0, none⟩ = some a ∧ w.cell? ⟨g, 1, none⟩ = some b ∧ w.cell? ⟨g, 2, none⟩ = some c :=
  ⟨(h.look 0).trans rfl, (h.look 1).trans rfl, (h.look 2).trans rfl⟩
theorem runBox {wr : World} {R : Nat} {A0 : Option Addr} {l0 c0 : Nat} {A3 : Option Addr} {k c3 : Nat} {t : Sta} {d : Bool} (h : Holds5 wr R 76 #[.slice A0 l0 c0, .slice A3 k c3, .int .i64 t.at', .int .i64 (t.r 0), .int .i64 (t.r 1), .int .i64 (t.r 2), .int .i64 (t.r 3), .int .i64 (t.m 0), .int .i64 (t.m 1), .int .i64 (t.m 2), .int .i64 (t.m 3), .int .i64 (t.m 4), .int .i64 (t.m 5), .int .i64 (t.m 6), .int .i64 (t.m 7), .bool d]) : wr.cell? ⟨R, 1, none⟩ = some (.slice A3 k c3) ∧ wr.cell? ⟨R, 2, none⟩ = some (.int .i64 t.at') ∧ wr.cell? ⟨R, 3, none⟩ = some (.int .i64 (t.r 0)) ∧ wr.cell? ⟨R, 4, none⟩ = some (.int .i64 (t.r 1)) ∧ wr.cell? ⟨R, 5, none⟩ = some (.int .i64 (t.r 2)) ∧ wr.cell? ⟨R, 6, none⟩ = some (.int .i64 (t.r 3)) ∧ wr.cell? ⟨R, 7, none⟩ = some (.int .i64 (t.m 0)) ∧ wr.cell? ⟨R, 8, none⟩ = some (.int .i64 (t.m 1)) ∧ wr.cell? ⟨R, 9, none⟩ = some (.int .i64 (t.m 2)) ∧ wr.cell? ⟨R, 10, none⟩ = some (.int .i64 (t.m 3)) ∧ wr.cell? ⟨R, 11, none⟩ = some (.int .i64 (t.m 4)) ∧ wr.cell? ⟨R, 12, none⟩ = some (.int .i64 (t.m 5)) ∧ wr.cell? ⟨R, 13, none⟩ = some (.int .i64 (t.m 6)) ∧ wr.cell? ⟨R, 14, none⟩ = some (.int .i64 (t.m 7)) ∧ wr.cell? ⟨R, 15, none⟩ = some (.bool d) :=
  ⟨(h.look 1).trans rfl, (h.look 2).trans rfl, (h.look 3).trans rfl, (h.look 4).trans rfl, (h.look 5).trans rfl, (h.look 6).trans rfl, (h.look 7).trans rfl, (h.look 8).trans rfl, (h.look 9).trans rfl, (h.look 10).trans rfl, (h.look 11).trans rfl, (h.look 12).trans rfl, (h.look 13).trans rfl, (h.look 14).trans rfl, (h.look 15).trans rfl⟩
set_option maxRecDepth 100000 in
set_option maxHeartbeats 8000000 in
theorem RunMachine_no (A : Option Addr) (len cap : Nat) (at' : Int) (A1 : Option Addr) (n1 c1 : Nat) (A2 : Option Addr) (n2 c2 : Nat) (fuel : Int) (k : Nat) (t : Sta) (d : Bool) (g1 g2 : Nat → Int) (w : World) (hR : ∀ W, w.grownBy W none → Calls Tryd.prog 48 #[.slice A len cap, MV at' A1 n1 c1 A2 n2 c2, .int .i64 fuel] W (RunResE k t d false W)) :
    Calls Tryd.prog 20 #[.slice A len cap, MV at' A1 n1 c1 A2 n2 c2, .int .i64 fuel] w (RunMRes w 0 0 0 g1 g2 (-1) false) := by
  obtain ⟨W0, hW0⟩ : ∃ W0, (w.alloc (.cells #[.int .i64 at', .slice A1 n1 c1, .slice A2 n2 c2] 26)).alloc (.cells #[.int .i64 0, .slice none 0 0, .slice none 0 0] 26) = W0 := ⟨_, rfl⟩
  have e1 : Holds5 W0 w.heap.size 26 #[.int .i64 at', .slice A1 n1 c1, .slice A2 n2 c2] := by
    rw [← hW0]
    exact (Holds5.fresh w 26 #[.int .i64 at', .slice A1 n1 c1, .slice A2 n2 c2]).alloc _
  have e2 : Holds5 W0 (w.heap.size + 1) 26 #[.int .i64 0, .slice none 0 0, .slice none 0 0] := by
    rw [← hW0]
    have := Holds5.fresh (w.alloc (.cells #[.int .i64 at', .slice A1 n1 c1, .slice A2 n2 c2] 26)) 26 #[.int .i64 0, .slice none 0 0, .slice none 0 0]
    rwa [World.size_alloc] at this
  have e3 : w.grownBy W0 none := by
    rw [← hW0]
    exact grown_same (World.grownBy_alloc _ _ _) (World.grownBy_alloc _ _ _)
  have HR := shade (hR _ e3)
  have HW0 := shade hW0
  have E1 := shade e1; have E2 := shade e2; have E3 := shade e3
  clear e1 e2 e3 hW0 hR
  go_enter Tryd.func20, Tryd.ntmps20
  go_upto_region 1 with (fail)
  rw [HW0.out]
  clear HW0
  have x0 := E1.out.look 0; have x1 := E1.out.look 1; have x2 := E1.out.look 2
  simp at x0 x1 x2
  go_wp2_with fail
  refine HR.out.mono ?_
  rintro e w1 ⟨A0, l0, c0, A3, c3, rfl, hgr⟩
  have h2 := (E2.out.grown hgr (by intro e; cases e)).alloc (.cells #[.slice A0 l0 c0, .slice A3 k c3, .int .i64 t.at', .int .i64 (t.r 0), .int .i64 (t.r 1), .int .i64 (t.r 2), .int .i64 (t.r 3), .int .i64 (t.m 0), .int .i64 (t.m 1), .int .i64 (t.m 2), .int .i64 (t.m 3), .int .i64 (t.m 4), .int .i64 (t.m 5), .int .i64 (t.m 6), .int .i64 (t.m 7), .bool d] 76)
  have h3 := grown_same (grown_same E3.out hgr) (World.grownBy_alloc w1 (.cells #[.slice A0 l0 c0, .slice A3 k c3, .int .i64 t.at', .int .i64 (t.r 0), .int .i64 (t.r 1), .int .i64 (t.r 2), .int .i64 (t.r 3), .int .i64 (t.m 0), .int .i64 (t.m 1), .int .i64 (t.m 2), .int .i64 (t.m 3), .int .i64 (t.m 4), .int .i64 (t.m 5), .int .i64 (t.m 6), .int .i64 (t.m 7), .bool d] 76) none)
  clear hgr x0 x1 x2 HR E1 E2 E3
  go_upto_region 2 with (fail)
  obtain ⟨W2, hW⟩ : ∃ W2, w1.alloc (.cells #[.slice A0 l0 c0, .slice A3 k c3, .int .i64 t.at', .int .i64 (t.r 0), .int .i64 (t.r 1), .int .i64 (t.r 2), .int .i64 (t.r 3), .int .i64 (t.m 0), .int .i64 (t.m 1), .int .i64 (t.m 2), .int .i64 (t.m 3), .int .i64 (t.m 4), .int .i64 (t.m 5), .int .i64 (t.m 6), .int .i64 (t.m 7), .bool d] 76) = W2 := ⟨_, rfl⟩
  rw [hW] at h2 h3 ⊢
  clear hW
  have r0 := h2.look 0; have r1 := h2.look 1; have r2 := h2.look 2; have t0 := h2.free 0; have t1 := h2.free 1; have t2 := h2.free 2
  simp at r0 r1 r2
  have hP := ((h2.put 0 (.int .i64 0)).put 1 (.slice none 0 0)).put 2 (.slice none 0 0)
  simp at hP
  have HP := shade hP
  have HGF := shade (grown_put (r := w.heap.size + 1) (grown_put (r := w.heap.size + 1) (grown_put (r := w.heap.size + 1) h3 (by omega) 0 (.int .i64 0)) (by omega) 1 (.slice none 0 0)) (by omega) 2 (.slice none 0 0))
  clear h2 hP h3
  go_wp2_with fail
  have hP := HP.out
  have q0 := hP.look 0; have q1 := hP.look 1; have q2 := hP.look 2
  simp at q0 q1 q2
  refine bodyPost_ret (v := .tuple #[MV 0 none 0 0 none 0 0, .int .i64 (-1), .bool false]) (by simp [results, Tryd.results20, go_sem, q0, q1, q2]) rfl ⟨none, 0, none, 0, rfl, .inl ⟨rfl, rfl, rfl, rfl⟩, HGF.out⟩

set_option maxRecDepth 100000 in
set_option maxHeartbeats 16000000 in
theorem RunMachine_yes (A : Option Addr) (len cap : Nat) (at' : Int) (A1 : Option Addr) (n1 c1 : Nat) (A2 : Option Addr) (n2 c2 : Nat) (fuel : Int) (k : Nat) (t : Sta) (d : Bool) (w : World) (_hk : k ≤ 300) (hR : ∀ W, w.grownBy W none → Calls Tryd.prog 48 #[.slice A len cap, MV at' A1 n1 c1 A2 n2 c2, .int .i64 fuel] W (RunResE k t d true W)) :
    Calls Tryd.prog 20 #[.slice A len cap, MV at' A1 n1 c1 A2 n2 c2, .int .i64 fuel] w (RunMRes w t.at' 4 8 t.r t.m k d) := by
  obtain ⟨W0, hW0⟩ : ∃ W0, (w.alloc (.cells #[.int .i64 at', .slice A1 n1 c1, .slice A2 n2 c2] 26)).alloc (.cells #[.int .i64 0, .slice none 0 0, .slice none 0 0] 26) = W0 := ⟨_, rfl⟩
  have e1 : Holds5 W0 w.heap.size 26 #[.int .i64 at', .slice A1 n1 c1, .slice A2 n2 c2] := by
    rw [← hW0]
    exact (Holds5.fresh w 26 #[.int .i64 at', .slice A1 n1 c1, .slice A2 n2 c2]).alloc _
  have e2 : Holds5 W0 (w.heap.size + 1) 26 #[.int .i64 0, .slice none 0 0, .slice none 0 0] := by
    rw [← hW0]
    have := Holds5.fresh (w.alloc (.cells #[.int .i64 at', .slice A1 n1 c1, .slice A2 n2 c2] 26)) 26 #[.int .i64 0, .slice none 0 0, .slice none 0 0]
    rwa [World.size_alloc] at this
  have e3 : w.grownBy W0 none := by
    rw [← hW0]
    exact grown_same (World.grownBy_alloc _ _ _) (World.grownBy_alloc _ _ _)
  have HR := shade (hR _ e3)
  have HW0 := shade hW0
  have E1 := shade e1; have E2 := shade e2; have E3 := shade e3
  clear e1 e2 e3 hW0 hR
  go_enter Tryd.func20, Tryd.ntmps20
  go_upto_region 1 with (fail)
  rw [HW0.out]
  clear HW0
  have x0 := E1.out.look 0; have x1 := E1.out.look 1; have x2 := E1.out.look 2
  simp at x0 x1 x2
  go_wp2_with fail
  refine HR.out.mono ?_
  rintro e w1 ⟨A0, l0, c0, A3, c3, rfl, hgr⟩
  have h2 := (E2.out.grown hgr (by intro e; cases e)).alloc (.cells #[.slice A0 l0 c0, .slice A3 k c3, .int .i64 t.at', .int .i64 (t.r 0), .int .i64 (t.r 1), .int .i64 (t.r 2), .int .i64 (t.r 3), .int .i64 (t.m 0), .int .i64 (t.m 1), .int .i64 (t.m 2), .int .i64 (t.m 3), .int .i64 (t.m 4), .int .i64 (t.m 5), .int .i64 (t.m 6), .int .i64 (t.m 7), .bool d] 76)
  have h3 := grown_same (grown_same E3.out hgr) (World.grownBy_alloc w1 (.cells #[.slice A0 l0 c0, .slice A3 k c3, .int .i64 t.at', .int .i64 (t.r 0), .int .i64 (t.r 1), .int .i64 (t.r 2), .int .i64 (t.r 3), .int .i64 (t.m 0), .int .i64 (t.m 1), .int .i64 (t.m 2), .int .i64 (t.m 3), .int .i64 (t.m 4), .int .i64 (t.m 5), .int .i64 (t.m 6), .int .i64 (t.m 7), .bool d] 76) none)
  have h4 : Holds5 (w1.alloc (.cells #[.slice A0 l0 c0, .slice A3 k c3, .int .i64 t.at', .int .i64 (t.r 0), .int .i64 (t.r 1), .int .i64 (t.r 2), .int .i64 (t.r 3), .int .i64 (t.m 0), .int .i64 (t.m 1), .int .i64 (t.m 2), .int .i64 (t.m 3), .int .i64 (t.m 4), .int .i64 (t.m 5), .int .i64 (t.m 6), .int .i64 (t.m 7), .bool d] 76)) w1.heap.size 76 #[.slice A0 l0 c0, .slice A3 k c3, .int .i64 t.at', .int .i64 (t.r 0), .int .i64 (t.r 1), .int .i64 (t.r 2), .int .i64 (t.r 3), .int .i64 (t.m 0), .int .i64 (t.m 1), .int .i64 (t.m 2), .int .i64 (t.m 3), .int .i64 (t.m 4), .int .i64 (t.m 5), .int .i64 (t.m 6), .int .i64 (t.m 7), .bool d] := Holds5.fresh w1 76 #[.slice A0 l0 c0, .slice A3 k c3, .int .i64 t.at', .int .i64 (t.r 0), .int .i64 (t.r 1), .int .i64 (t.r 2), .int .i64 (t.r 3), .int .i64 (t.m 0), .int .i64 (t.m 1), .int .i64 (t.m 2), .int .i64 (t.m 3), .int .i64 (t.m 4), .int .i64 (t.m 5), .int .i64 (t.m 6), .int .i64 (t.m 7), .bool d]
  have z2 := (E2.out.grown hgr (by intro e; cases e)).inside
  clear hgr x0 x1 x2 HR E1 E2 E3
  go_upto_region 2 with (fail)
  obtain ⟨W2, hW⟩ : ∃ W2, w1.alloc (.cells #[.slice A0 l0 c0, .slice A3 k c3, .int .i64 t.at', .int .i64 (t.r 0), .int .i64 (t.r 1), .int .i64 (t.r 2), .int .i64 (t.r 3), .int .i64 (t.m 0), .int .i64 (t.m 1), .int .i64 (t.m 2), .int .i64 (t.m 3), .int .i64 (t.m 4), .int .i64 (t.m 5), .int .i64 (t.m 6), .int .i64 (t.m 7), .bool d] 76) = W2 := ⟨_, rfl⟩
  obtain ⟨R, hR⟩ : ∃ R, w1.heap.size = R := ⟨_, rfl⟩
  rw [hR] at h4 z2 ⊢
  rw [hW] at h2 h3 h4 ⊢
  clear hW hR
  have hRne : R ≠ w.heap.size + 1 := by omega
  have H2 := shade h2; have H3 := shade h3; have H4 := shade h4
  clear h2 h3 h4
  go_upto_region 4 with (fail)
  go_region_held3 (fun w' => w'.cell? ⟨R, 1, none⟩ = some (.slice A3 k c3) ∧ w'.cell? ⟨R, 2, none⟩ = some (.int .i64 t.at') ∧ w'.cell? ⟨R, 3, none⟩ = some (.int .i64 (t.r 0)) ∧ w'.cell? ⟨R, 4, none⟩ = some (.int .i64 (t.r 1)) ∧ w'.cell? ⟨R, 5, none⟩ = some (.int .i64 (t.r 2)) ∧ w'.cell? ⟨R, 6, none⟩ = some (.int .i64 (t.r 3)) ∧ w'.cell? ⟨R, 7, none⟩ = some (.int .i64 (t.m 0)) ∧ w'.cell? ⟨R, 8, none⟩ = some (.int .i64 (t.m 1)) ∧ w'.cell? ⟨R, 9, none⟩ = some (.int .i64 (t.m 2)) ∧ w'.cell? ⟨R, 10, none⟩ = some (.int .i64 (t.m 3)) ∧ w'.cell? ⟨R, 11, none⟩ = some (.int .i64 (t.m 4)) ∧ w'.cell? ⟨R, 12, none⟩ = some (.int .i64 (t.m 5)) ∧ w'.cell? ⟨R, 13, none⟩ = some (.int .i64 (t.m 6)) ∧ w'.cell? ⟨R, 14, none⟩ = some (.int .i64 (t.m 7)) ∧ w'.cell? ⟨R, 15, none⟩ = some (.bool d))
    (first | with_reducible exact runBox H4.out.drew | with_reducible exact runBox HB.out | with_reducible exact runBox (HB.out.put3o hRne _ _ _))
    (first | (go_at_call 41; refine (stateMachine_any t.at' t.r t.m _).mono ?_; rintro e w5 ⟨r1, d1, r2, d2, rfl, hne, ho1, ho2, hgr⟩; have HB := shade (H4.out.drew.grown hgr (by intro e; cases e)); have hl1 := ho1.lt; have hl2 := ho2.lt; simp only [size_drewS] at hl1 hl2; have hd := H2.out.drew.grown hgr (by intro e; cases e); have zi := H2.out.inside; have y0 := hd.look 0; have y1 := hd.look 1; have y2 := hd.look 2; have t0 := hd.free 0; have t1 := hd.free 1; have t2 := hd.free 2; simp at y0 y1 y2; have hP := ((hd.put 0 (.int .i64 t.at')).put 1 (.slice (some ⟨r1, 0, none⟩) 4 d1)).put 2 (.slice (some ⟨r2, 0, none⟩) 8 d2); simp at hP; have HP := shade hP; have h3d := grown_same (grown_same H3.out (grown_drew1 W2)) hgr; have HGF := shade (grown_put (r := w.heap.size + 1) (grown_put (r := w.heap.size + 1) (grown_put (r := w.heap.size + 1) h3d (by omega) 0 (.int .i64 t.at')) (by omega) 1 (.slice (some ⟨r1, 0, none⟩) 4 d1)) (by omega) 2 (.slice (some ⟨r2, 0, none⟩) 8 d2)); have M1 := shade ((((Own.lower (B' := w.heap.size) ho1 (by simp only [size_drewS]; omega)).far (r := w.heap.size + 1) (by omega) 0 (.int .i64 t.at')).far (r := w.heap.size + 1) (by omega) 1 (.slice (some ⟨r1, 0, none⟩) 4 d1)).far (r := w.heap.size + 1) (by omega) 2 (.slice (some ⟨r2, 0, none⟩) 8 d2)); have M2 := shade ((((Own.lower (B' := w.heap.size) ho2 (by simp only [size_drewS]; omega)).far (r := w.heap.size + 1) (by omega) 0 (.int .i64 t.at')).far (r := w.heap.size + 1) (by omega) 1 (.slice (some ⟨r1, 0, none⟩) 4 d1)).far (r := w.heap.size + 1) (by omega) 2 (.slice (some ⟨r2, 0, none⟩) 8 d2)); have HN := shade hne; clear ho1 ho2 hgr hne hd hP h3d hl1 hl2 zi))
  all_goals (go_wp2_with fail; have hP := HP.out; have q0 := hP.look 0; have q1 := hP.look 1; have q2 := hP.look 2; simp at q0 q1 q2; refine bodyPost_ret (v := .tuple #[MV t.at' (some ⟨r1, 0, none⟩) 4 d1 (some ⟨r2, 0, none⟩) 8 d2, .int .i64 k, .bool d]) (by simp [results, Tryd.results20, go_sem, q0, q1, q2]) rfl ⟨_, d1, _, d2, rfl, .inr ⟨r1, r2, rfl, rfl, HN.out, M1.out, M2.out⟩, HGF.out⟩)

end Go.Proofs.YtbdlbooooiinkaaDoor
