/- StepsOf's exact law, walked. -/
import Derived.Test.YtcfnoihjpiklhaaDoorG605
import Derived.Test.YtcfnoihjpiklhaaDoorY16
import Derived.Test.YtcfnoihjpiklhaaDoorY17
import Derived.Deep.DeepCutAuto
namespace Go.Proofs.YtcfnoihjpiklhaaDoor
open Go.ChangeShapes Go.WideShapes Go.ChangeAt Go.WideMaps Go.WideElems Go.RowKit
theorem StpRes.row {k : Nat} {f : Nat → Ins} {g : Nat → Bool} {w w' : World} {e : Ending} (h : StpRes k f g w e w') : ∃ v1 v2, e = .returned (.tuple #[v1, v2]) ∧ RowC w' w.heap.size w'.heap.size v1 k f ∧ RowO w' w.heap.size w'.heap.size 4 v2 k (bolL k g) ∧ w.grownBy w' none := by
  obtain ⟨v1, v2, he, h1, h2, hg⟩ := h
  exact ⟨v1, v2, he, ⟨h1, fun i hi => (World.ownsRow.lt h1 i hi).2⟩, ⟨h2, fun i hi => (World.ownsRow.lt h2 i hi).2⟩, hg⟩
section
variable {w w' wr w2 : World} {lo hi : Nat} {v : Value} {K : Nat} {f : Nat → Ins}
theorem RowC.byBol {xs : List Value} {u : Value} {B n : Nat} (h : RowC wr lo hi v K f) (h' : wr.ownsRow B 4 1 u n xs) (hg : wr.grownBy w2 u.ownBlock) : RowC w2 lo hi v K f := ⟨kept_ty h' h.own (by decide) hg, h.hib⟩
theorem RowO.byIns {xs : List Value} {u : Value} {B n : Nat} {ys : List Value} (h : RowO wr lo hi 4 v K xs) (h' : wr.ownsRow B 37 5 u n ys) (hg : wr.grownBy w2 u.ownBlock) : RowO w2 lo hi 4 v K xs := ⟨kept_ty h' h.own (by decide) hg, h.hib⟩
theorem RowC.butO {Q1 Q2 : Option Addr} {lo' hi' : Nat} (h : RowC wr lo hi v K f) (hg : ButO wr w2 Q1 Q2) (hq : Within lo' hi' Q1 Q2) (hl : hi ≤ lo' ∨ hi' ≤ lo) : RowC w2 lo hi v K f := by
  refine ⟨⟨h.own.1, ?_⟩, h.hib⟩
  rcases h.own.2 with h' | ⟨g', cap', cur, e', hB, hg', rest⟩
  · exact .inl h'
  · have hr := h.rng (i := g') (by rw [e']; rfl)
    have hlt := (World.ownsRow.lt h.own g' (by rw [e']; rfl)).2
    refine .inr ⟨g', cap', cur, e', hB, ?_, rest⟩
    rw [hg.block g' hlt (hq.ne (by omega)).1 (hq.ne (by omega)).2]
    exact hg'
end
set_option maxRecDepth 100000 in
set_option maxHeartbeats 8000000 in
theorem exactStepsOf_walk (A : Option Addr) (n c : Nat) (F : Nat → Ins) (at' : Int) (A1 : Option Addr) (n1 c1 : Nat) (A2 : Option Addr) (n2 c2 : Nat) (f1 f2 : Nat → Int) (fuel : Int) (w : World) (hg : WT w) (h : Code w A n F) (hn : n ≤ 9223372036854775807) (hs : ∀ j, j < n → (F j).op.size ≤ 9223372036854775807)
    (h1 : Nums w A1 n1 f1) (h2 : Nums w A2 n2 f2) (hn1 : n1 ≤ 9223372036854775807) (hn2 : n2 ≤ 9223372036854775807) :
    Calls Tryd.prog 4 #[.slice A n c, MV at' A1 n1 c1 A2 n2 c2, .int .i64 fuel] w fun e w' => e = .returned (.bool true) ∧ Below w.heap.size w w' := by
  have HE0 := shade (show SX w (w.alloc (.cells #[.int .i64 at', .slice A1 n1 c1, .slice A2 n2 c2] 40)) w.heap.size A n F at' A1 n1 c1 A2 n2 c2 f1 f2 from
    ⟨hg.below (below_of_grown (World.grownBy_alloc _ _ none)) (wt_lt hg), h.on (World.grownBy_alloc _ _ none), ⟨Holds5.fresh _ _ _, h1.alloc _, h2.alloc _, World.grownBy_alloc _ _ _⟩, ⟨rfl, rfl, rfl, Nat.le_refl _, fun _ _ _ => rfl⟩⟩)
  have HSZ := shade (fun W (hW : Code W A n F) => szInstrS_any A n c F 1048576 W (by omega) (by omega) hn hs hW)
  clear hg h hs h1 h2
  go_enter Tryd.func4, Tryd.ntmps4
  go_wp2_with fail
  refine (HSZ.out _ HE0.out.code).mono ?_
  rintro e w1 ⟨r, rfl, hr, hgr⟩
  have HE1 := shade (HE0.out.grown hgr)
  clear hgr HSZ HE0
  rcases hr with hr | ⟨hr0, hr1⟩
  · go_wp2_with fail
    go_ret
    exact ⟨rfl, below_of_grown HE1.out.mach.low⟩
  · have hnb : n ≤ 1048576 := by omega
    have hr3 : r ≤ 1048576 := by omega
    have q0 := HE1.out.mach.box.look 0; have q1 := HE1.out.mach.box.look 1; have q2 := HE1.out.mach.box.look 2
    simp at q0 q1 q2
    have HSZ := shade (fun W => szMachine_any at' A1 n1 c1 A2 n2 c2 r W hr0 hr3 hn1 hn2)
    by_cases hbig : r - n1 < 0 ∨ r - n1 - n2 < 0
    · obtain ⟨x, hx, hx0⟩ : ∃ x : Int, (if r - n1 < 0 then -1 else if r - n1 - n2 < 0 then -1 else r - n1 - n2) = x ∧ x < 0 := ⟨_, rfl, by
        split
        · omega
        · split <;> omega⟩
      rw [hx] at HSZ
      clear hx hbig
      go_wp2_with fail
      refine (HSZ.out _).mono ?_
      rintro e w2 ⟨rfl, hgr⟩
      have HE2 := shade (HE1.out.grown hgr)
      clear hgr
      go_wp2_with fail
      go_ret
      exact ⟨rfl, below_of_grown HE2.out.mach.low⟩
    · obtain ⟨x, hx, hx0⟩ : ∃ x : Int, (if r - n1 < 0 then -1 else if r - n1 - n2 < 0 then -1 else r - n1 - n2) = x ∧ 0 ≤ x := ⟨_, rfl, by
        split
        · omega
        · split <;> omega⟩
      rw [hx] at HSZ
      have m1 : n1 ≤ 1048576 := by omega
      have m2 : n2 ≤ 1048576 := by omega
      clear hx hbig
      go_wp2_with fail
      refine (HSZ.out _).mono ?_
      rintro e w2 ⟨rfl, hgr⟩
      have HE2 := shade (HE1.out.grown hgr)
      clear hgr HE1 HSZ q0 q1 q2
      obtain ⟨K, f, f2', hK, HSpec, HImpl⟩ := steps_both n F at' n1 n2 f1 f2 fuel hn hn1 hn2
      have HSp := shade HSpec
      have HIm := shade HImpl
      clear HSpec HImpl
      go_upto_region 8 with (fail)
      go_cut [8, 9] (fun s8 s9 wx => RowC wx (w.heap.size + 1) wx.heap.size s8 K f ∧ RowO wx (w.heap.size + 1) wx.heap.size 4 s9 K (bolL K f2') ∧ SX w wx w.heap.size A n F at' A1 n1 c1 A2 n2 c2 f1 f2)
      case first =>
        have HA := shade (HE2.out.grown (grown_drew1 w2))
        go_region_held3 (fun w' => w'.cell? ⟨w.heap.size, 0, none⟩ = some (.int .i64 at') ∧ w'.cell? ⟨w.heap.size, 1, none⟩ = some (.slice A1 n1 c1) ∧ w'.cell? ⟨w.heap.size, 2, none⟩ = some (.slice A2 n2 c2))
          (first | with_reducible exact HA.out.box3 | with_reducible exact HB.out.box3 | with_reducible exact HC.out.box3 | with_reducible exact HD.out.box3)
          (first
            | (go_at_call 14; refine (toInstrS_any A n c F _ hnb HA.out.code).mono ?_; rintro e w3 ⟨rfl, hc3, hgr⟩; have HB := shade (HA.out.grown hgr); have HBC := shade hc3.code; clear hgr hc3)
            | (go_at_call 15; refine (toMachine_any at' A1 A2 n1 n2 c1 c2 f1 f2 _ m1 m2 HB.out.mach.N1 HB.out.mach.N2).mono ?_; rintro e w4 ⟨g1, k1, g2, k2, rfl, hne, ho1, ho2, hgr⟩; have HC := shade (HB.out.grown hgr); have HCC := shade (HBC.out.on hgr); have HO1 := shade ho1.nums; have HO2 := shade ho2.nums; clear hgr ho1 ho2)
            | (go_at_call 7; refine (HSp.out _ _ _ _ _ _ _ HCC.out HO1.out HO2.out).mono ?_; rintro e w5 h5; obtain ⟨v0, u0, rfl, hR, hR2, hgr⟩ := StpRes.row h5; have HD := shade (HC.out.grown hgr); have HR := shade (show RowC w5 (w.heap.size + 1) w5.heap.size v0 K f from ⟨World.ownsRow.mono hR.own (by have := HC.out.lt; omega), hR.hib⟩); have HR2 := shade (show RowO w5 (w.heap.size + 1) w5.heap.size 4 u0 K (bolL K f2') from ⟨World.ownsRow.mono hR2.own (by have := HC.out.lt; omega), hR2.hib⟩); clear hgr hR hR2 h5))
        all_goals (go_wp2_with fail; go_meet; exact ⟨HR.out, HR2.out, HD.out⟩)
      case rest =>
        clear HE2
        obtain ⟨hP, hQ, hS⟩ := hcut
        have HP2 := shade hP
        have HQ2 := shade hQ
        have HS2 := shade hS
        have lw := hS.lt
        clear hP hQ hS
        go_wp2_with fail
        refine (toInstrS_any A n c F _ hnb HS2.out.code).mono ?_
        rintro e w3 ⟨rfl, hc3, hgr⟩
        have l3 := (OwnC_lt hc3).2
        have l2 := hgr.size
        have HS3 := shade (HS2.out.grown hgr)
        have HP3 := shade (HP2.out.grown hgr)
        have HQ3 := shade (HQ2.out.grown hgr)
        have HX3 := shade (hc3)
        clear hgr hc3 HS2 HP2 HQ2
        have q0 := HS3.out.mach.box.look 0; have q1 := HS3.out.mach.box.look 1; have q2 := HS3.out.mach.box.look 2
        simp at q0 q1 q2
        go_wp2_with fail
        refine (toMachine_any at' A1 A2 n1 n2 c1 c2 f1 f2 _ m1 m2 HS3.out.mach.N1 HS3.out.mach.N2).mono ?_
        rintro e w4 ⟨g1, k1, g2, k2, rfl, hne, ho1, ho2, hgr⟩
        have hga := World.grownBy_alloc w4 (.cells #[.int .i64 at', .slice (some ⟨g1, 0, none⟩) n1 k1, .slice (some ⟨g2, 0, none⟩) n2 k2] 26) none
        have l4 := hgr.size
        have HS4 := shade (HS3.out.grown (grown_same hgr hga))
        have HP4 := shade (HP3.out.grown (grown_same hgr hga))
        have HQ4 := shade (HQ3.out.grown (grown_same hgr hga))
        have HX4 := shade (OwnC_on HX3.out (grown_same hgr hga))
        have HY4 := shade (show Boxed (w4.alloc (.cells #[.int .i64 at', .slice (some ⟨g1, 0, none⟩) n1 k1, .slice (some ⟨g2, 0, none⟩) n2 k2] 26)) w4.heap.size w3.heap.size w4.heap.size at' (some ⟨g1, 0, none⟩) n1 k1 (some ⟨g2, 0, none⟩) n2 k2 f1 f2 from boxed_new hne ho1 ho2)
        clear hgr hga HX3 q0 q1 q2 ho1 ho2 HS3 HP3 HQ3
        go_wp2_with fail
        refine (HIm.out _ _ _ _ _ _ _ HS4.out.wt HX4.out.code HY4.out.mem.nums.1 HY4.out.mem.nums.2).mono ?_
        rintro e w5 h5
        obtain ⟨v1, u1, rfl, hR, hR2, hgr⟩ := StpRes.row h5
        have l5 := hgr.size
        rw [World.size_alloc] at hR hR2 l5
        have HS5 := shade (HS4.out.grown hgr)
        have HP5 := shade (HP4.out.grown hgr)
        have HQ5 := shade (HQ4.out.grown hgr)
        have HX5 := shade (OwnC_on HX4.out hgr)
        have HY5 := shade (HY4.out.grown hgr)
        have HG5 := shade (hR)
        have HH5 := shade (hR2)
        clear hgr hR hR2 h5 HS4 HP4 HQ4 HX4 HY4
        go_wp2_with fail
        refine (eqInstrS_row _ _ _ _ K _ _ f _ hK HG5.out HP5.out).mono ?_
        rintro e w6 ⟨rfl, hgr⟩
        have l6 := hgr.size
        have HS6 := shade (HS5.out.grown hgr)
        have HP6 := shade (HP5.out.grown hgr)
        have HQ6 := shade (HQ5.out.grown hgr)
        have HX6 := shade (OwnC_on HX5.out hgr)
        have HY6 := shade (HY5.out.grown hgr)
        have HG6 := shade (HG5.out.grown hgr)
        have HH6 := shade (HH5.out.grown hgr)
        clear hgr HS5 HP5 HQ5 HX5 HY5 HG5 HH5
        go_wp2_with fail
        refine (eqBoolS_row _ _ _ _ K _ _ f2' _ hK HH6.out HQ6.out).mono ?_
        rintro e w7 ⟨rfl, hgr⟩
        have l7 := hgr.size
        have HS7 := shade (HS6.out.grown hgr)
        have HP7 := shade (HP6.out.grown hgr)
        have HQ7 := shade (HQ6.out.grown hgr)
        have HX7 := shade (OwnC_on HX6.out hgr)
        have HY7 := shade (HY6.out.grown hgr)
        have HG7 := shade (HG6.out.grown hgr)
        have HH7 := shade (HH6.out.grown hgr)
        clear hgr HS6 HP6 HQ6 HX6 HY6 HG6 HH6
        go_wp2_with fail
        refine (toInstrS_any A n c F _ hnb HS7.out.code).mono ?_
        rintro e w8 ⟨rfl, hc7, hgr⟩
        have l8 := hgr.size
        have HS8 := shade (HS7.out.grown hgr)
        have HP8 := shade (HP7.out.grown hgr)
        have HQ8 := shade (HQ7.out.grown hgr)
        have HX8 := shade (OwnC_on HX7.out hgr)
        have HY8 := shade (HY7.out.grown hgr)
        have HG8 := shade (HG7.out.grown hgr)
        have HH8 := shade (HH7.out.grown hgr)
        have HC8 := shade (hc7.code)
        clear hgr hc7 HS7 HP7 HQ7 HX7 HY7 HG7 HH7
        go_wp2_with fail
        refine (eqInstrS_any _ _ n n n F _ hn HX8.out.code HC8.out).mono ?_
        rintro e w9 ⟨rfl, hgr⟩
        have l9 := hgr.size
        have HS9 := shade (HS8.out.grown hgr)
        have HP9 := shade (HP8.out.grown hgr)
        have HQ9 := shade (HQ8.out.grown hgr)
        have HX9 := shade (OwnC_on HX8.out hgr)
        have HY9 := shade (HY8.out.grown hgr)
        have HG9 := shade (HG8.out.grown hgr)
        have HH9 := shade (HH8.out.grown hgr)
        clear hgr HC8 HS8 HP8 HQ8 HX8 HY8 HG8 HH8
        go_upto_region 16 with (fail)
        have hgr := grown_drew1 w9
        have HS10 := shade (HS9.out.grown hgr)
        have HP10 := shade (HP9.out.grown hgr)
        have HQ10 := shade (HQ9.out.grown hgr)
        have HX10 := shade (OwnC_on HX9.out hgr)
        have HY10 := shade (HY9.out.grown hgr)
        have HG10 := shade (HG9.out.grown hgr)
        have HH10 := shade (HH9.out.grown hgr)
        clear hgr HS9 HP9 HQ9 HX9 HY9 HG9 HH9
        go_region_held3 (fun w' => (w'.cell? ⟨w.heap.size, 0, none⟩ = some (.int .i64 at') ∧ w'.cell? ⟨w.heap.size, 1, none⟩ = some (.slice A1 n1 c1) ∧ w'.cell? ⟨w.heap.size, 2, none⟩ = some (.slice A2 n2 c2)) ∧ (w'.cell? ⟨w4.heap.size, 0, none⟩ = some (.int .i64 at') ∧ w'.cell? ⟨w4.heap.size, 1, none⟩ = some (.slice (some ⟨g1, 0, none⟩) n1 k1) ∧ w'.cell? ⟨w4.heap.size, 2, none⟩ = some (.slice (some ⟨g2, 0, none⟩) n2 k2)))
          (first | with_reducible exact ⟨HS10.out.box3, HY10.out.box3⟩ | with_reducible exact ⟨HS11.out.box3, HY11.out.box3⟩ | with_reducible exact ⟨HS12.out.box3, HY12.out.box3⟩)
          (first
            | (go_at_call 15; refine (toMachine_any at' A1 A2 n1 n2 c1 c2 f1 f2 _ m1 m2 HS10.out.mach.N1 HS10.out.mach.N2).mono ?_; rintro e w11 ⟨v1, t1, v2, t2, rfl, _, ho1, ho2, hgr⟩; have l11 := hgr.size; have HS11 := shade (HS10.out.grown hgr); have HP11 := shade (HP10.out.grown hgr); have HQ11 := shade (HQ10.out.grown hgr); have HX11 := shade (OwnC_on HX10.out hgr); have HY11 := shade (HY10.out.grown hgr); have HG11 := shade (HG10.out.grown hgr); have HH11 := shade (HH10.out.grown hgr); have HO1 := shade ho1.nums; have HO2 := shade ho2.nums; clear hgr ho1 ho2)
            | (go_at_call 18; refine (eqMachine_any at' _ _ _ _ n1 n2 _ _ _ _ f1 f2 _ hn1 hn2 HY11.out.mem.nums.1 HY11.out.mem.nums.2 HO1.out HO2.out).mono ?_; rintro e w12 ⟨rfl, hgr⟩; have l12 := hgr.size; have HS12 := shade (HS11.out.grown hgr); have HP12 := shade (HP11.out.grown hgr); have HQ12 := shade (HQ11.out.grown hgr); have HX12 := shade (OwnC_on HX11.out hgr); have HY12 := shade (HY11.out.grown hgr); have HG12 := shade (HG11.out.grown hgr); have HH12 := shade (HH11.out.grown hgr); clear hgr))
        rename_i hHeld
        clear hHeld HO1 HO2 HS10 HP10 HQ10 HX10 HY10 HG10 HH10 HS11 HP11 HQ11 HX11 HY11 HG11 HH11
        go_wp2_with fail
        refine (markInstrS_at _ wc.heap.size n n F 1 _ hnb (by omega) (by omega) HX12.out).mono ?_
        rintro e w13 ⟨rfl, _, hgr⟩
        have l13 := hgr.size
        have HS13 := shade (HS12.out.but1 hgr lw)
        have HP13 := shade (HP12.out.row hgr (fun b e => by injection e with e; omega))
        have HQ13 := shade (HQ12.out.row hgr (fun b e => by injection e with e; omega))
        have HY13 := shade (HY12.out.but1 hgr (by omega) (by omega))
        have HG13 := shade (HG12.out.row hgr (fun b e => by injection e with e; omega))
        have HH13 := shade (HH12.out.row hgr (fun b e => by injection e with e; omega))
        clear hgr HS12 HP12 HQ12 HX12 HY12 HG12 HH12
        have y0 := HY13.out.box.look 0; have y1 := HY13.out.box.look 1; have y2 := HY13.out.box.look 2
        simp at y0 y1 y2
        go_wp2_with fail
        refine (markMachine_res at' w3.heap.size _ n1 k1 _ n2 k2 f1 f2 (1 + 5 * (n : Int)) _ (by omega) (by omega) (by omega) (by omega) HY13.out.mem).mono ?_
        rintro e w14 ⟨rfl, _, hgr⟩
        have l14 := hgr.size
        have HS14 := shade (HS13.out.butO hgr HY13.out.within (by omega))
        have HP14 := shade (HP13.out.butO hgr HY13.out.within (by omega))
        have HQ14 := shade (HQ13.out.butO hgr HY13.out.within (by omega))
        have HG14 := shade (HG13.out.butO hgr HY13.out.within (by omega))
        have HH14 := shade (HH13.out.butO hgr HY13.out.within (by omega))
        clear hgr y0 y1 y2 HY13 HS13 HP13 HQ13 HG13 HH13
        go_wp2_with fail
        refine (eqInstrS_row _ _ _ _ K _ _ f _ hK HG14.out HP14.out).mono ?_
        rintro e w15 ⟨rfl, hgr⟩
        have l15 := hgr.size
        have HS15 := shade (HS14.out.grown hgr)
        have HP15 := shade (HP14.out.grown hgr)
        have HQ15 := shade (HQ14.out.grown hgr)
        have HG15 := shade (HG14.out.grown hgr)
        have HH15 := shade (HH14.out.grown hgr)
        clear hgr HS14 HP14 HQ14 HG14 HH14
        go_wp2_with fail
        refine (eqBoolS_row _ _ _ _ K _ _ f2' _ hK HH15.out HQ15.out).mono ?_
        rintro e w16 ⟨rfl, hgr⟩
        have l16 := hgr.size
        have HS16 := shade (HS15.out.grown hgr)
        have HP16 := shade (HP15.out.grown hgr)
        have HQ16 := shade (HQ15.out.grown hgr)
        have HG16 := shade (HG15.out.grown hgr)
        have HH16 := shade (HH15.out.grown hgr)
        clear hgr HS15 HP15 HQ15 HG15 HH15
        go_wp2_with fail
        refine (markInsS_row _ _ K _ f _ hK HG16.out).mono ?_
        rintro e w17 ⟨rfl, hm, hgr⟩
        have l17 := hgr.size
        obtain ⟨M, hM⟩ : ∃ M : Int, 1 + 5 * (K : Int) = M := ⟨_, rfl⟩
        have hM0 : 0 ≤ M := by omega
        have hM1 : M ≤ 2000 := by omega
        have HM := shade hM
        rw [hM]
        clear hM
        have HS17 := shade (HS16.out.row hgr (fun b e => by have := (HG16.out.rng e).1; omega))
        have HP17 := shade (HP16.out.row hgr (fun b e => by have := (HG16.out.rng e).1; omega))
        have HQ17 := shade (HQ16.out.row hgr (fun b e => by have := (HG16.out.rng e).1; omega))
        have HG17 := shade (hm)
        have HH17 := shade (HH16.out.byIns HG16.out.own hgr)
        clear hgr hm HS16 HP16 HQ16 HG16 HH16
        go_wp2_with fail
        refine (markBoolS_row _ _ K _ f2' M _ (by omega) (by omega) HH17.out).mono ?_
        rintro e w18 ⟨rfl, hm, hgr⟩
        have l18 := hgr.size
        have HS18 := shade (HS17.out.row hgr (fun b e => by have := (HH17.out.rng e).1; omega))
        have HP18 := shade (HP17.out.row hgr (fun b e => by have := (HH17.out.rng e).1; omega))
        have HQ18 := shade (HQ17.out.row hgr (fun b e => by have := (HH17.out.rng e).1; omega))
        have HG18 := shade (HG17.out.byBol HH17.out.own hgr)
        have HH18 := shade (hm)
        clear hgr hm HS17 HP17 HQ17 HG17 HH17
        go_wp2_with fail
        refine (heldInsS_row _ _ K _ _ hK HG18.out).mono ?_
        rintro e w19 ⟨rfl, hgr⟩
        have l19 := hgr.size
        rw [HM.out]
        have HS19 := shade (HS18.out.grown hgr)
        have HP19 := shade (HP18.out.grown hgr)
        have HQ19 := shade (HQ18.out.grown hgr)
        have HG19 := shade (HG18.out.grown hgr)
        have HH19 := shade (HH18.out.grown hgr)
        clear hgr HS18 HP18 HQ18 HG18 HH18
        go_wp2_with fail
        refine (heldBoolS_row _ _ K _ M _ (by omega) (by omega) HH19.out).mono ?_
        rintro e w20 ⟨rfl, rfl⟩
        go_upto_region 35 with (fail)
        go_cut [17, 18] (fun s17 s18 wx => RowC wx w19.heap.size wx.heap.size s17 K f ∧ RowO wx w19.heap.size wx.heap.size 4 s18 K (bolL K f2') ∧ w19.grownBy wx none)
        case first =>
          have HA := shade (HS19.out.grown (grown_drew1 w19))
          have HZA := shade (grown_drew1 w19)
          go_region_held3 (fun w' => w'.cell? ⟨w.heap.size, 0, none⟩ = some (.int .i64 at') ∧ w'.cell? ⟨w.heap.size, 1, none⟩ = some (.slice A1 n1 c1) ∧ w'.cell? ⟨w.heap.size, 2, none⟩ = some (.slice A2 n2 c2))
            (first | with_reducible exact HA.out.box3 | with_reducible exact HB.out.box3 | with_reducible exact HC.out.box3 | with_reducible exact HD.out.box3)
            (first
              | (go_at_call 14; refine (toInstrS_any A n c F _ hnb HA.out.code).mono ?_; rintro e w21 ⟨rfl, hc3, hgr⟩; have HB := shade (HA.out.grown hgr); have HZB := shade (grown_same HZA.out hgr); have HBC := shade hc3.code; clear hgr hc3)
              | (go_at_call 15; refine (toMachine_any at' A1 A2 n1 n2 c1 c2 f1 f2 _ m1 m2 HB.out.mach.N1 HB.out.mach.N2).mono ?_; rintro e w22 ⟨x1, k3, x2, k4, rfl, hne3, ho1, ho2, hgr⟩; have HC := shade (HB.out.grown hgr); have HZC := shade (grown_same HZB.out hgr); have HCC := shade (HBC.out.on hgr); have HO1 := shade ho1.nums; have HO2 := shade ho2.nums; clear hgr ho1 ho2)
              | (go_at_call 6; refine (HIm.out _ _ _ _ _ _ _ HC.out.wt HCC.out HO1.out HO2.out).mono ?_; rintro e w23 h5; obtain ⟨v2, u2, rfl, hR, hR2, hgr⟩ := StpRes.row h5; have HD := shade (HC.out.grown hgr); have HZD := shade (grown_same HZC.out hgr); have HR := shade (show RowC w23 w19.heap.size w23.heap.size v2 K f from ⟨World.ownsRow.mono hR.own HZC.out.size, hR.hib⟩); have HR2 := shade (show RowO w23 w19.heap.size w23.heap.size 4 u2 K (bolL K f2') from ⟨World.ownsRow.mono hR2.own HZC.out.size, hR2.hib⟩); clear hgr hR hR2 h5))
          all_goals (go_wp2_with fail; go_meet; exact ⟨HR.out, HR2.out, HZD.out⟩)
        case rest =>
          obtain ⟨hV, hV2, hgr⟩ := hcut
          have HS21 := shade (HS19.out.grown hgr)
          have HP21 := shade (HP19.out.grown hgr)
          have HQ21 := shade (HQ19.out.grown hgr)
          have HG21 := shade (HG19.out.grown hgr)
          have HH21 := shade (HH19.out.grown hgr)
          have HV21 := shade hV
          have HW21 := shade hV2
          clear hgr hV hV2 HS19 HP19 HQ19 HG19 HH19
          go_wp2_with fail
          refine (eqInstrS_row _ _ _ _ K _ _ f _ hK HV21.out HP21.out).mono ?_
          rintro e w22 ⟨rfl, hgr⟩
          have l22 := hgr.size
          have HS22 := shade (HS21.out.grown hgr)
          have HP22 := shade (HP21.out.grown hgr)
          have HQ22 := shade (HQ21.out.grown hgr)
          have HG22 := shade (HG21.out.grown hgr)
          have HH22 := shade (HH21.out.grown hgr)
          have HV22 := shade (HV21.out.grown hgr)
          have HW22 := shade (HW21.out.grown hgr)
          clear hgr HS21 HP21 HQ21 HG21 HH21 HV21 HW21
          go_wp2_with fail
          refine (eqBoolS_row _ _ _ _ K _ _ f2' _ hK HW22.out HQ22.out).mono ?_
          rintro e w23 ⟨rfl, hgr⟩
          have l23 := hgr.size
          have HS23 := shade (HS22.out.grown hgr)
          have HP23 := shade (HP22.out.grown hgr)
          have HQ23 := shade (HQ22.out.grown hgr)
          have HG23 := shade (HG22.out.grown hgr)
          have HH23 := shade (HH22.out.grown hgr)
          have HV23 := shade (HV22.out.grown hgr)
          have HW23 := shade (HW22.out.grown hgr)
          clear hgr HS22 HP22 HQ22 HG22 HH22 HV22 HW22
          go_wp2_with fail
          refine (heldInsS_row _ _ K _ _ hK HG23.out).mono ?_
          rintro e w24 ⟨rfl, hgr⟩
          have l24 := hgr.size
          rw [HM.out]
          have HS24 := shade (HS23.out.grown hgr)
          have HG24 := shade (HG23.out.grown hgr)
          have HH24 := shade (HH23.out.grown hgr)
          clear hgr HS23 HG23 HH23
          go_wp2_with fail
          refine (heldBoolS_row _ _ K _ M _ (by omega) (by omega) HH24.out).mono ?_
          rintro e w25 ⟨rfl, rfl⟩
          go_wp2_with fail
          go_ret
          exact ⟨rfl, below_of_grown HS24.out.mach.low⟩
end Go.Proofs.YtcfnoihjpiklhaaDoor
