/- The drawn program and machine for a step. StepMachine answers as its model for the drawn program and machine; a step keeps a machine valid and leads to what may come next. -/
import Derived.Test.YtbdlbooooiinkaaDoorG130
import Derived.RegionTactic
import Derived.ChangeAlike
import Derived.Test.YtbdlbooooiinkaaDoorG426
import Derived.Deep.RegionHeld3
namespace Go.Proofs.YtbdlbooooiinkaaDoor
open Go.RowKit
set_option linter.unusedSimpArgs false
/-- What is drawn: a program and a machine; nothing that was there has changed. -/
def DrwCM (w : World) (e : Ending) (w' : World) : Prop :=
  ∃ (A : Option Addr) (k c : Nat) (f : Nat → Ins) (at' : Int) (A1 : Option Addr) (n1 c1 : Nat) (A2 : Option Addr) (n2 c2 : Nat) (f1 f2 : Nat → Int), e = .returned (.tuple #[.slice A k c, MV at' A1 n1 c1 A2 n2 c2]) ∧ k ≤ 14 ∧ Code w' A k f ∧ Nums w' A1 n1 f1 ∧ Nums w' A2 n2 f2 ∧ (n1 ≤ 8 ∧ n2 ≤ 8) ∧ w.grownBy w' none
set_option maxRecDepth 100000 in
set_option maxHeartbeats 8000000 in
theorem DrawStepMachine_any (A : Option Addr) (n cap : Nat) (zs : List Int) (w : World) (h : Bys w A n cap zs) :
    Calls Tryd.prog 9 #[.slice A n cap] w (DrwCM w) := by
  have hga := World.grownBy_alloc w (.cells #[.int .i64 0, .slice none 0 0, .slice none 0 0] 26) none
  have hb : Bys (w.alloc (.cells #[.int .i64 0, .slice none 0 0, .slice none 0 0] 26)) A n cap zs := h.alloc _
  have HN := shade (newReader_any A n cap zs _ hb)
  have E3 := shade (show Holds5 (w.alloc (.cells #[.int .i64 0, .slice none 0 0, .slice none 0 0] 26)) w.heap.size 26 #[.int .i64 0, .slice none 0 0, .slice none 0 0] from Holds5.fresh w 26 #[.int .i64 0, .slice none 0 0, .slice none 0 0])
  have HG0 := shade hga
  clear hb hga h
  go_enter Tryd.func9, Tryd.ntmps9
  go_wp2_with fail
  refine HN.out.mono ?_
  rintro e w1 ⟨m, rfl, hR, hb1⟩
  rw [World.size_alloc] at hR hb1
  have hgr := grown_of_below (a := w.alloc (.cells #[.int .i64 0, .slice none 0 0, .slice none 0 0] 26)) (b := w1) (by rw [World.size_alloc]; exact hb1)
  have E31 := shade (E3.out.grown hgr (by intro e; cases e))
  have HG1 := shade (grown_same HG0.out hgr)
  have HR1 := shade hR
  clear hgr hb1 hR HN E3 HG0
  go_wp2_with fail
  refine (someCode_rd HR1.out (by omega)).mono ?_
  rintro e w2 ⟨g', k, c, f, rfl, hk, hC, hG, hg', q, hq, hR⟩
  have l1 := HR1.out.blk.inside
  have E32 := shade (E31.out.grown hG (by intro e; injection e; omega))
  have HG2 := shade (grown_row HG1.out hG (fun j e => by injection e; omega))
  have HC2 := shade hC
  have HR2 := shade hR
  have l2 := hG.size
  clear hC hG hR HR1 E31 HG1
  go_wp2_with fail
  refine (someMachine_rd HR2.out (by omega)).mono ?_
  rintro e w3 ⟨at', A1, n1, c1, A2, n2, c2, f1, f2, rfl, hN1, hN2, hn, ⟨hb1, hb2⟩, hG, q2, hq2, hR⟩
  have E33 := shade (E32.out.grown hG (by intro e; injection e; omega))
  have HG3 := shade (grown_row HG2.out hG (fun j e => by injection e; omega))
  have HC3 := shade (HC2.out.grown hG (by intro b off e e'; injection e with e; injection e with e; injection e' with e'; omega))
  have HN13 := shade hN1
  have HN23 := shade hN2
  have HR3 := shade hR
  have l3 := hG.size
  clear hN1 hN2 hG hR HR2 E32 HG2 HC2
  go_upto_region 4 with (fail)
  have hga := World.grownBy_alloc w3 (.cells #[.int .i64 at', .slice A1 n1 c1, .slice A2 n2 c2] 26) none
  have hX : Holds5 (w3.alloc (.cells #[.int .i64 at', .slice A1 n1 c1, .slice A2 n2 c2] 26)) w3.heap.size 26 #[.int .i64 at', .slice A1 n1 c1, .slice A2 n2 c2] := Holds5.fresh w3 26 #[.int .i64 at', .slice A1 n1 c1, .slice A2 n2 c2]
  have E34 := shade (E33.out.grown hga (by intro e; cases e))
  have HG4 := shade (grown_same HG3.out hga)
  have HC4 := shade (HC3.out.on hga)
  have HN14 := shade (HN13.out.on hga)
  have HN24 := shade (HN23.out.on hga)
  have HR4 := shade (HR3.out.on hga)
  obtain ⟨W4, hW⟩ : ∃ W4, w3.alloc (.cells #[.int .i64 at', .slice A1 n1 c1, .slice A2 n2 c2] 26) = W4 := ⟨_, rfl⟩
  have hz4 : W4.heap.size = w3.heap.size + 1 := by rw [← hW, World.size_alloc]
  rw [hW] at hga hX E34 HG4 HC4 HN14 HN24 HR4 ⊢
  have HX4 := shade hX
  have l4 := E33.out.inside
  have lr := HR3.out.blk.inside
  have HZ4 := shade hz4
  clear hga hX hW E33 HG3 HR3 hz4
  go_wp2_with fail
  refine (pick_rel 2 HR4.out (by omega)).mono ?_
  rintro e w5 ⟨v, ⟨v0, v1, -⟩, rfl, hR, hG⟩
  have hzz := HZ4.out
  have E35 := shade (E34.out.grown hG (by intro e; injection e; omega))
  have HX5 := shade (HX4.out.grown hG (by intro e; injection e; omega))
  have HG5 := shade (grown_row HG4.out hG (fun j e => by injection e; omega))
  have HC5 := shade (HC4.out.grown hG (by intro b off e e'; injection e with e; injection e with e; injection e' with e'; omega))
  have HN15 := shade (HN14.out.grown hG (by intro b off e e'; have := hb1 b off e; injection e' with e'; omega))
  have HN25 := shade (HN24.out.grown hG (by intro b off e e'; have := hb2 b off e; injection e' with e'; omega))
  have HR5 := shade hR
  have l5 := hG.size
  clear hG hR hzz HR4 E34 HX4 HG4 HC4 HN14 HN24 v1
  by_cases hv : v = 0
  · subst hv
    have x0 := HX5.out.look 0; have x1 := HX5.out.look 1; have x2 := HX5.out.look 2; have xf := HX5.out.free 0
    simp at x0 x1 x2
    go_wp2_with fail
    refine (pick_rel ((k : Int) + 1) HR5.out (by omega)).mono ?_
    rintro e w6 ⟨y, -, rfl, hR, hG⟩
    have hzz := HZ4.out
    have E36 := shade (E35.out.grown hG (by intro e; injection e; omega))
    have HX6 := shade (HX5.out.grown hG (by intro e; injection e; omega))
    have HG6 := shade (grown_row HG5.out hG (fun j e => by injection e; omega))
    have HC6 := shade (HC5.out.grown hG (by intro b off e e'; injection e with e; injection e with e; injection e' with e'; omega))
    have HN16 := shade (HN15.out.grown hG (by intro b off e e'; have := hb1 b off e; injection e' with e'; omega))
    have HN26 := shade (HN25.out.grown hG (by intro b off e e'; have := hb2 b off e; injection e' with e'; omega))
    have l6 := hG.size
    have hne : w.heap.size ≠ w3.heap.size := by omega
    clear hG hR HR5 x0 x1 x2 xf
    have x0 := HX6.out.look 0; have xf := HX6.out.free 0
    simp at x0
    go_upto_region 6 with (fail)
    have hgs := grown_set (w := w6) w3.heap.size 0 (.int .i64 y)
    have E37 := shade (E36.out.other (p := ⟨w3.heap.size, 0, none⟩) hne (.int .i64 y))
    have hX7 := HX6.out.put 0 (.int .i64 y)
    simp at hX7
    have HX7 := shade hX7
    have HG7 := shade (grown_then HG6.out hgs (by omega))
    have HC7 := shade (show Code (w6.setCell ⟨w3.heap.size, 0, none⟩ (.int .i64 y)) (some ⟨g', 0, none⟩) k f from by
      rcases HC3.out with h0 | ⟨b0, o0, e0, hlt, _⟩
      · exact .inl h0
      · exact HC6.out.grown hgs (by intro b off e e'; rw [e0] at e; injection e with e; injection e with e; injection e' with e'; omega))
    have HN17 := shade (show Nums (w6.setCell ⟨w3.heap.size, 0, none⟩ (.int .i64 y)) A1 n1 f1 from by
      rcases HN13.out with h0 | ⟨b0, o0, e0, hlt, _⟩
      · exact .inl h0
      · exact HN16.out.grown hgs (by intro b off e e'; rw [e0] at e; injection e with e; injection e with e; injection e' with e'; omega))
    have HN27 := shade (show Nums (w6.setCell ⟨w3.heap.size, 0, none⟩ (.int .i64 y)) A2 n2 f2 from by
      rcases HN23.out with h0 | ⟨b0, o0, e0, hlt, _⟩
      · exact .inl h0
      · exact HN26.out.grown hgs (by intro b off e e'; rw [e0] at e; injection e with e; injection e with e; injection e' with e'; omega))
    obtain ⟨W7, hW⟩ : ∃ W7, w6.setCell ⟨w3.heap.size, 0, none⟩ (.int .i64 y) = W7 := ⟨_, rfl⟩
    rw [hW] at E37 HX7 HG7 HC7 HN17 HN27 ⊢
    clear hW hgs hX7 x0 xf E36 HX6 HG6 HC6 HN16 HN26 hzz
    have e5 := E37.out; have e6 := HX7.out
    have y0 := e5.look 0; have y1 := e5.look 1; have y2 := e5.look 2; have t0 := e5.free 0; have t1 := e5.free 1; have t2 := e5.free 2
    have xx0 := e6.look 0; have xx1 := e6.look 1; have xx2 := e6.look 2
    simp at xx0 xx1 xx2 y0 y1 y2
    have hP := ((e5.put 0 (.int .i64 y)).put 1 (.slice A1 n1 c1)).put 2 (.slice A2 n2 c2)
    simp at hP
    have hS := grown_set3 W7 w.heap.size (.int .i64 y) (.slice A1 n1 c1) (.slice A2 n2 c2)
    have F1 := shade hP; have F5 := shade hS
    clear e5 e6 hP hS
    go_region
    all_goals (go_wp2_with fail; have hP := F1.out; have r0 := hP.look 0; have r1 := hP.look 1; have r2 := hP.look 2; simp at r0 r1 r2; refine bodyPost_ret (v := .tuple #[.slice (some ⟨g', 0, none⟩) k c, MV y A1 n1 c1 A2 n2 c2]) (by simp [results, Tryd.results9, go_sem, r0, r1, r2]) rfl ?_; exact ⟨_, k, c, f, y, A1, n1, c1, A2, n2, c2, f1, f2, rfl, hk, (HC7.out.grown F5.out (by intro b off e e'; injection e with e; injection e with e; injection e' with e'; omega)).on (grown_drew1 _), (HN17.out.grown F5.out (by intro b off e e'; have := hb1 b off e; injection e' with e'; omega)).on (grown_drew1 _), (HN27.out.grown F5.out (by intro b off e e'; have := hb2 b off e; injection e' with e'; omega)).on (grown_drew1 _), hn, grown_same (grown_then HG7.out F5.out (Nat.le_refl _)) (grown_drew1 _)⟩)
  · have hvb : (v == 0) = false := beq_eq_false_iff_ne.2 hv
    have hne : w.heap.size ≠ w3.heap.size := by omega
    go_upto_region 6 with (fail)
    have e5 := E35.out; have e6 := HX5.out
    have y0 := e5.look 0; have y1 := e5.look 1; have y2 := e5.look 2; have t0 := e5.free 0; have t1 := e5.free 1; have t2 := e5.free 2
    have xx0 := e6.look 0; have xx1 := e6.look 1; have xx2 := e6.look 2
    simp at xx0 xx1 xx2 y0 y1 y2
    have hP := ((e5.put 0 (.int .i64 at')).put 1 (.slice A1 n1 c1)).put 2 (.slice A2 n2 c2)
    simp at hP
    have hS := grown_set3 w5 w.heap.size (.int .i64 at') (.slice A1 n1 c1) (.slice A2 n2 c2)
    have F1 := shade hP; have F5 := shade hS
    clear e5 e6 hP hS
    go_region
    all_goals (go_wp2_with fail; have hP := F1.out; have r0 := hP.look 0; have r1 := hP.look 1; have r2 := hP.look 2; simp at r0 r1 r2; refine bodyPost_ret (v := .tuple #[.slice (some ⟨g', 0, none⟩) k c, MV at' A1 n1 c1 A2 n2 c2]) (by simp [results, Tryd.results9, go_sem, r0, r1, r2]) rfl ?_; exact ⟨_, k, c, f, at', A1, n1, c1, A2, n2, c2, f1, f2, rfl, hk, (HC5.out.grown F5.out (by intro b off e e'; injection e with e; injection e with e; injection e' with e'; omega)).on (grown_drew1 _), (HN15.out.grown F5.out (by intro b off e e'; have := hb1 b off e; injection e' with e'; omega)).on (grown_drew1 _), (HN25.out.grown F5.out (by intro b off e e'; have := hb2 b off e; injection e' with e'; omega)).on (grown_drew1 _), hn, grown_same (grown_then HG5.out F5.out (Nat.le_refl _)) (grown_drew1 _)⟩)
end Go.Proofs.YtbdlbooooiinkaaDoor

namespace Go.Proofs.YtbdlbooooiinkaaDoor
open Go.RowKit
set_option linter.unusedSimpArgs false
set_option maxHeartbeats 2000000 in
theorem equalMachine_any (at' : Int) (A1 A2 B1 B2 : Option Addr) (n1 n2 c1 c2 d1 d2 : Nat) (f1 f2 : Nat → Int) (w : World) (hn1 : n1 ≤ 9223372036854775807) (hn2 : n2 ≤ 9223372036854775807)
    (h1 : Nums w A1 n1 f1) (h2 : Nums w A2 n2 f2) (k1 : Nums w B1 n1 f1) (k2 : Nums w B2 n2 f2) :
    Calls Tryd.prog 12 #[MV at' A1 n1 c1 A2 n2 c2, MV at' B1 n1 d1 B2 n2 d2] w fun e w' => e = .returned (.bool true) ∧ w.grownBy w' none := by
  have H1 := shade h1
  have H2 := shade h2
  have K1 := shade k1
  have K2 := shade k2
  clear h1 h2 k1 k2
  go_enter Tryd.func12, Tryd.ntmps12
  go_wp2_with fail
  refine (equalInts_any A1 B1 c1 d1 n1 f1 f1 _ hn1 ((H1.out.alloc _).alloc _) ((K1.out.alloc _).alloc _) (fun _ _ => rfl)).mono ?_
  rintro e w1 ⟨rfl, m1, rfl⟩
  go_wp2_with fail
  refine (equalInts_any A2 B2 c2 d2 n2 f2 f2 _ hn2 (((H2.out.alloc _).alloc _).drewN m1) (((K2.out.alloc _).alloc _).drewN m1) (fun _ _ => rfl)).mono ?_
  rintro e w2 ⟨rfl, m2, rfl⟩
  go_wp2_with fail
  go_ret
  exact ⟨rfl, grown_drewN (grown_same (World.grownBy_alloc _ _ _) (World.grownBy_alloc _ _ _)) (m1 + m2)⟩
theorem step_told (n : Nat) (F : Nat → Ins) (at' : Int) (n1 n2 : Nat) (f1 f2 : Nat → Int) (hn : n ≤ 9223372036854775807) (hn1 : n1 ≤ 9223372036854775807) (hn2 : n2 ≤ 9223372036854775807) :
    ∃ (ok : Bool) (at2 : Int) (k1 k2 : Nat) (g1 g2 : Nat → Int), (k1 ≤ 8 ∧ k2 ≤ 8) ∧
      (∀ (A : Option Addr) (c : Nat) (A1 : Option Addr) (c1 : Nat) (A2 : Option Addr) (c2 : Nat) (W : World), Code W A n F → Nums W A1 n1 f1 → Nums W A2 n2 f2 → Calls Tryd.prog 11 #[.slice A n c, MV at' A1 n1 c1 A2 n2 c2] W (StepRes W ok at2 k1 k2 g1 g2)) ∧
      (∀ (A : Option Addr) (c : Nat) (A1 : Option Addr) (c1 : Nat) (A2 : Option Addr) (c2 : Nat) (W : World), WT W → Code W A n F → Nums W A1 n1 f1 → Nums W A2 n2 f2 → Calls Tryd.prog 10 #[.slice A n c, MV at' A1 n1 c1 A2 n2 c2] W (StepRes W ok at2 k1 k2 g1 g2)) ∧
      (ok = true → vmB at2 k1 k2 g1 g2 = true ∧ at2 ∈ nxA n F at') := by
  rcases hs : stepB n F at' n1 n2 f1 f2 with _ | _
  · exact ⟨false, 0, 0, 0, f1, f2, ⟨by omega, by omega⟩, fun A c A1 c1 A2 c2 W hC h1 h2 => (SpecStepMachine_no A n c F at' A1 n1 c1 A2 n2 c2 f1 f2 W hn hC h1 h2 hn1 hn2 hs).mono fun _ _ h => StepRes.no _ _ h,
      fun A c A1 c1 A2 c2 W hg hC h1 h2 => (StepMachine_no A n c F at' A1 n1 c1 A2 n2 c2 f1 f2 W hg hn hC h1 h2 hs).mono fun _ _ h => StepRes.no _ _ h, fun h => by cases h⟩
  · refine ⟨true, stAt F at' f1, 4, 8, stRegs F at' f1 f2, stMem F at' f1 f2, ⟨by omega, by omega⟩, fun A c A1 c1 A2 c2 W hC h1 h2 => (SpecStepMachine_yes A n c F at' A1 n1 c1 A2 n2 c2 f1 f2 W hn hC h1 h2 hn1 hn2 hs).mono fun _ _ h => StepRes.yes h,
      fun A c A1 c1 A2 c2 W hg hC h1 h2 => (StepMachine_yes A n c F at' A1 n1 c1 A2 n2 c2 f1 f2 W hg hn hC h1 h2 hs).mono fun _ _ h => StepRes.yes h, fun _ => ?_⟩
    simp only [stepB, Bool.and_eq_true, Bool.not_eq_true'] at hs
    obtain ⟨⟨hv, hm⟩, hh⟩ := hs
    have hok := okS_of hm
    have hh2 : sHalt n F ⟨at', f1, f2⟩ = false := hh
    have hnx := OkS.next hv hok hh2
    obtain ⟨hlt, -⟩ := halt_parts hh2
    have h0 := hok.lo
    refine ⟨hnx.vmB', ?_⟩
    have hin := sNext_in hv hok hh2
    unfold nxA
    have h0' : 0 ≤ at' := h0
    have hlt' : at'.toNat < n := hlt
    rw [if_pos ⟨hv, h0', by omega⟩]
    exact hin
set_option maxRecDepth 100000 in
set_option maxHeartbeats 16000000 in
theorem fnStepMachine_walk (A : Option Addr) (n cap : Nat) (zs : List Int) (w : World) (hg : WT w) (hB : Bys w A n cap zs) :
    Calls Tryd.prog 3 #[.slice A n cap] w fun e w' => e = .returned (.bool true) ∧ Below w.heap.size w w' := by
  have HG := shade hg
  have HBy := shade hB
  have hcap := hB.fits
  have hbig := hB.big
  unfold maxLen at hbig
  clear hg hB
  by_cases hl : 1048576 < n
  · go_enter Tryd.func3, Tryd.ntmps3
    go_wp2_with fail
    go_ret
    exact ⟨rfl, rfl, rfl, rfl, Nat.le_refl _, fun _ _ => rfl⟩
  · have HD := shade (DrawStepMachine_any A n cap zs w HBy.out)
    go_enter Tryd.func3, Tryd.ntmps3
    go_wp2_with fail
    refine HD.out.mono ?_
    rintro e w1 ⟨Al, k, c, F, at', A1, n1, c1, A2, n2, c2, f1, f2, rfl, hk, hC, hN1, hN2, ⟨hn1, hn2⟩, hgr⟩
    obtain ⟨ok, at2, k1, k2, g1, g2, ⟨hk1, hk2⟩, HSp, HIm, HTo⟩ := step_told k F at' n1 n2 f1 f2 (by omega) (by omega) (by omega)
    have HSP := shade HSp; have HIM := shade HIm; have HTO := shade HTo
    have hga := World.grownBy_alloc w1 (.cells #[.int .i64 at', .slice A1 n1 c1, .slice A2 n2 c2] 26) none
    have hX : Holds5 (w1.alloc (.cells #[.int .i64 at', .slice A1 n1 c1, .slice A2 n2 c2] 26)) w1.heap.size 26 #[.int .i64 at', .slice A1 n1 c1, .slice A2 n2 c2] := Holds5.fresh w1 26 #[.int .i64 at', .slice A1 n1 c1, .slice A2 n2 c2]
    have HC := shade (hC.on hga); have HN1 := shade (hN1.on hga); have HN2 := shade (hN2.on hga); have HL := shade (grown_same hgr hga)
    clear HSp HIm HTo hC hN1 hN2 hgr HD
    go_upto_region 4 with (fail)
    obtain ⟨W1, hW⟩ : ∃ W1, w1.alloc (.cells #[.int .i64 at', .slice A1 n1 c1, .slice A2 n2 c2] 26) = W1 := ⟨_, rfl⟩
    rw [hW] at HC HN1 HN2 HL hX ⊢
    have x0 := hX.look 0; have x1 := hX.look 1; have x2 := hX.look 2
    simp at x0 x1 x2
    have HX := shade hX
    clear hX hga hW
    go_wp2_with fail
    refine (HIM.out _ _ _ _ _ _ _ (HG.out.below (below_of_grown HL.out) (wt_lt HG.out)) HC.out HN1.out HN2.out).mono ?_
    rintro e w2 ⟨B1, d1, B2, d2, rfl, hRM, hgr⟩
    have hga := grown_same hgr (World.grownBy_alloc w2 (.cells #[.int .i64 at2, .slice B1 k1 d1, .slice B2 k2 d2] 26) none)
    have hY : Holds5 (w2.alloc (.cells #[.int .i64 at2, .slice B1 k1 d1, .slice B2 k2 d2] 26)) w2.heap.size 26 #[.int .i64 at2, .slice B1 k1 d1, .slice B2 k2 d2] := Holds5.fresh w2 26 #[.int .i64 at2, .slice B1 k1 d1, .slice B2 k2 d2]
    have HX2 := shade (HX.out.grown hga (by intro e; cases e)); have HC2 := shade (HC.out.on hga); have HN12 := shade (HN1.out.on hga); have HN22 := shade (HN2.out.on hga); have HL2 := shade (grown_same HL.out hga)
    have HO1 := shade (hRM.nums.1.on (World.grownBy_alloc w2 (.cells #[.int .i64 at2, .slice B1 k1 d1, .slice B2 k2 d2] 26) none)); have HO2 := shade (hRM.nums.2.on (World.grownBy_alloc w2 (.cells #[.int .i64 at2, .slice B1 k1 d1, .slice B2 k2 d2] 26) none))
    clear x0 x1 x2 hRM hgr HX HC HN1 HN2 HL
    go_upto_region 5 with (fail)
    obtain ⟨W2, hW⟩ : ∃ W2, w2.alloc (.cells #[.int .i64 at2, .slice B1 k1 d1, .slice B2 k2 d2] 26) = W2 := ⟨_, rfl⟩
    rw [hW] at HX2 HC2 HN12 HN22 HL2 HO1 HO2 hY ⊢
    have x0 := HX2.out.look 0; have x1 := HX2.out.look 1; have x2 := HX2.out.look 2
    simp at x0 x1 x2
    have HY2 := shade hY
    clear hY hga hW
    go_wp2_with fail
    refine (HSP.out _ _ _ _ _ _ _ HC2.out HN12.out HN22.out).mono ?_
    rintro e w3 ⟨C1, e1, C2, e2, rfl, hRM, hgr⟩
    have hga := grown_same hgr (World.grownBy_alloc w3 (.cells #[.int .i64 at2, .slice C1 k1 e1, .slice C2 k2 e2] 26) none)
    have hZ : Holds5 (w3.alloc (.cells #[.int .i64 at2, .slice C1 k1 e1, .slice C2 k2 e2] 26)) w3.heap.size 26 #[.int .i64 at2, .slice C1 k1 e1, .slice C2 k2 e2] := Holds5.fresh w3 26 #[.int .i64 at2, .slice C1 k1 e1, .slice C2 k2 e2]
    have HX3 := shade (HX2.out.grown hga (by intro e; cases e)); have HY3 := shade (HY2.out.grown hga (by intro e; cases e)); have HC3 := shade (HC2.out.on hga); have HL3 := shade (grown_same HL2.out hga); have HO13 := shade (HO1.out.on hga); have HO23 := shade (HO2.out.on hga)
    have HS1 := shade (hRM.nums.1.on (World.grownBy_alloc w3 (.cells #[.int .i64 at2, .slice C1 k1 e1, .slice C2 k2 e2] 26) none)); have HS2 := shade (hRM.nums.2.on (World.grownBy_alloc w3 (.cells #[.int .i64 at2, .slice C1 k1 e1, .slice C2 k2 e2] 26) none))
    clear x0 x1 x2 hRM hgr HX2 HY2 HC2 HN12 HN22 HL2 HO1 HO2
    go_upto_region 6 with (fail)
    obtain ⟨W3, hW⟩ : ∃ W3, w3.alloc (.cells #[.int .i64 at2, .slice C1 k1 e1, .slice C2 k2 e2] 26) = W3 := ⟨_, rfl⟩
    rw [hW] at HX3 HY3 HC3 HL3 HO13 HO23 HS1 HS2 hZ ⊢
    have y0 := HY3.out.look 0; have y1 := HY3.out.look 1; have y2 := HY3.out.look 2
    have z0 := hZ.look 0; have z1 := hZ.look 1; have z2 := hZ.look 2
    simp at y0 y1 y2 z0 z1 z2
    have HZ3 := shade hZ
    clear hZ hga hW HSP HIM
    have HEQ := shade (fun W (h1 : Nums W B1 k1 g1) (h2 : Nums W B2 k2 g2) (h3 : Nums W C1 k1 g1) (h4 : Nums W C2 k2 g2) => equalMachine_any at2 B1 B2 C1 C2 k1 k2 d1 d2 e1 e2 g1 g2 W (by omega) (by omega) h1 h2 h3 h4)
    rcases ok with _ | _
    · go_wp2_with fail
      refine (HEQ.out _ HO13.out HO23.out HS1.out HS2.out).mono ?_
      rintro e w4 ⟨rfl, hgr⟩
      have HY4 := shade (HY3.out.grown hgr (by intro e; cases e)); have HZ4 := shade (HZ3.out.grown hgr (by intro e; cases e)); have HL4 := shade (grown_same HL3.out hgr)
      have h1 := HO13.out.on hgr; have h2 := HO23.out.on hgr; have h3 := HS1.out.on hgr; have h4 := HS2.out.on hgr
      have HE4 := shade (HEQ.out _ h1 h2 h3 h4)
      clear y0 y1 y2 z0 z1 z2 hgr h1 h2 h3 h4
      have y0 := HY4.out.look 0; have y1 := HY4.out.look 1; have y2 := HY4.out.look 2
      have z0 := HZ4.out.look 0; have z1 := HZ4.out.look 1; have z2 := HZ4.out.look 2
      simp at y0 y1 y2 z0 z1 z2
      go_wp2_with fail
      refine HE4.out.mono ?_
      rintro e w5 ⟨rfl, hgr⟩
      have HL5 := shade (grown_same HL4.out hgr)
      clear hgr y0 y1 y2 z0 z1 z2
      go_wp2_with fail
      go_ret
      exact ⟨rfl, below_of_grown HL5.out⟩
    · obtain ⟨hvm, hin⟩ := HTO.out rfl
      have HVM := shade hvm
      have HIN := shade (show isInB (fun i => (nxA k F at').getD i 0) (nxA k F at').length at2 = true from by
        obtain ⟨i, hi, e⟩ := List.getElem_of_mem hin
        exact isInB_hit _ _ _ i hi (by
          show (nxA k F at').getD i 0 = _
          rw [List.getD_eq_getElem?_getD, List.getElem?_eq_getElem hi, e]
          rfl))
      have HNX := shade (fun W (hW : WT W) (hc : Code W Al k F) => (INextOf_any Al k c F at' W hW (by omega) hc).mono fun _ _ h => h.num)
      have HLE := shade (nxA_le k F at')
      obtain ⟨l1, hl1⟩ : ∃ l1, nxA k F at' = l1 := ⟨_, rfl⟩
      rw [hl1] at HIN HNX HLE
      clear hvm hin hl1
      go_wp2_with fail
      refine (HEQ.out _ HO13.out HO23.out HS1.out HS2.out).mono ?_
      rintro e w4 ⟨rfl, hgr⟩
      have HX4 := shade (HX3.out.grown hgr (by intro e; cases e)); have HY4 := shade (HY3.out.grown hgr (by intro e; cases e)); have HC4 := shade (HC3.out.on hgr); have HL4 := shade (grown_same HL3.out hgr); have HO14 := shade (HO13.out.on hgr); have HO24 := shade (HO23.out.on hgr)
      clear y0 y1 y2 z0 z1 z2 hgr HX3 HY3 HC3 HL3 HO13 HO23 HS1 HS2 HEQ HZ3
      have HCELL := shade (fun W (hW : w4.grownBy W none) => show (W.cell? ⟨w2.heap.size, 0, none⟩ = some (.int .i64 at2) ∧ W.cell? ⟨w2.heap.size, 1, none⟩ = some (.slice B1 k1 d1) ∧ W.cell? ⟨w2.heap.size, 2, none⟩ = some (.slice B2 k2 d2)) ∧ W.cell? ⟨w1.heap.size, 0, none⟩ = some (.int .i64 at') from by
        have a := HY4.out.grown hW (by intro e; cases e)
        have b := HX4.out.grown hW (by intro e; cases e)
        exact ⟨⟨(a.look 0).trans rfl, (a.look 1).trans rfl, (a.look 2).trans rfl⟩, (b.look 0).trans rfl⟩)
      go_upto_region 8 with (fail)
      have HA := shade (grown_drew1 w4)
      go_region_held3 (fun w' => (w'.cell? ⟨w2.heap.size, 0, none⟩ = some (.int .i64 at2) ∧ w'.cell? ⟨w2.heap.size, 1, none⟩ = some (.slice B1 k1 d1) ∧ w'.cell? ⟨w2.heap.size, 2, none⟩ = some (.slice B2 k2 d2)) ∧ w'.cell? ⟨w1.heap.size, 0, none⟩ = some (.int .i64 at'))
        (first | with_reducible exact HCELL.out _ HA.out | with_reducible exact HCELL.out _ HB.out | with_reducible exact HCELL.out _ HD.out)
        (first
          | (go_at_call 13; refine (ValidMachine_any at2 B1 B2 k1 k2 d1 d2 g1 g2 _ (HO14.out.on HA.out) (HO24.out.on HA.out)).mono ?_; rw [HVM.out]; rintro e w5 ⟨rfl, hg5⟩; have HB := shade (grown_same HA.out hg5); clear hg5)
          | (go_at_call 15; refine (HNX.out _ (HG.out.below (below_of_grown (grown_same HL4.out HB.out)) (wt_lt HG.out)) (HC4.out.on HB.out)).mono ?_; rintro e w7 h7; obtain ⟨A7, c7, rfl, hN7, -, hg7⟩ := h7.num; have HD := shade (grown_same HB.out hg7); have HN7 := shade hN7; clear hN7 hg7 h7)
          | (go_at_call 14; refine (isIn_any _ _ _ _ _ _ (by have := HLE.out; omega) HN7.out).mono ?_; rw [HIN.out]; rintro e w8 ⟨rfl, rfl⟩))
      all_goals
        go_wp2_with fail
        go_ret
        exact ⟨rfl, below_of_grown (grown_same HL4.out HD.out)⟩
end Go.Proofs.YtbdlbooooiinkaaDoor
