/- RunMachine's exact law, walked. -/
import Derived.Test.YtbcncifadklkgaaDoorG120
import Derived.Deep.DeepCutAuto
namespace Go.Proofs.YtbcncifadklkgaaDoor
open Go.ChangeShapes Go.WideShapes Go.ChangeAt Go.WideMaps Go.WideElems Go.RowKit
set_option maxRecDepth 100000 in
set_option maxHeartbeats 4000000 in
theorem exactRunMachine_walk (A : Option Addr) (n c : Nat) (F : Nat → Ins) (at' : Int) (A1 : Option Addr) (n1 c1 : Nat) (A2 : Option Addr) (n2 c2 : Nat) (f1 f2 : Nat → Int) (fuel : Int) (w : World) (hg : WT w) (h : Code w A n F) (hn : n ≤ 9223372036854775807) (hs : ∀ j, j < n → (F j).op.size ≤ 9223372036854775807)
    (h1 : Nums w A1 n1 f1) (h2 : Nums w A2 n2 f2) (hn1 : n1 ≤ 9223372036854775807) (hn2 : n2 ≤ 9223372036854775807) :
    Calls Tryd.prog 8 #[.slice A n c, MV at' A1 n1 c1 A2 n2 c2, .int .i64 fuel] w fun e w' => e = .returned (.bool true) ∧ Below w.heap.size w w' := by
  have HE0 := shade (show SX w (w.alloc (.cells #[.int .i64 at', .slice A1 n1 c1, .slice A2 n2 c2] 49)) w.heap.size A n F at' A1 n1 c1 A2 n2 c2 f1 f2 from
    ⟨hg.below (below_of_grown (World.grownBy_alloc _ _ none)) (wt_lt hg), h.on (World.grownBy_alloc _ _ none), ⟨Holds5.fresh _ _ _, h1.alloc _, h2.alloc _, World.grownBy_alloc _ _ _⟩, ⟨rfl, rfl, rfl, Nat.le_refl _, fun _ _ _ => rfl⟩⟩)
  have HSZ := shade (fun W (hW : Code W A n F) => szInstrS_any A n c F 1048576 W (by omega) (by omega) hn hs hW)
  clear hg h hs h1 h2
  go_enter Tryd.func8, Tryd.ntmps8
  go_wp2_with fail
  refine (HSZ.out _ HE0.out.code).mono ?_
  rintro e w1 ⟨r, rfl, hr, hgr⟩
  have HE1 := shade (HE0.out.grown hgr)
  clear hgr HSZ HE0
  rcases hr with hr | ⟨hr0, hr1⟩
  · go_wp2_with fail
    go_ret
    exact ⟨rfl, below_of_grown HE1.out.mach.low⟩
  · have hnb : n ≤ 1048576 := by omega
    have hr3 : r ≤ 1048576 := by omega
    have q0 := HE1.out.mach.box.look 0; have q1 := HE1.out.mach.box.look 1; have q2 := HE1.out.mach.box.look 2
    simp at q0 q1 q2
    have HSZ := shade (fun W => szMachine_any at' A1 n1 c1 A2 n2 c2 r W hr0 hr3 hn1 hn2)
    by_cases hbig : r - n1 < 0 ∨ r - n1 - n2 < 0
    · obtain ⟨x, hx, hx0⟩ : ∃ x : Int, (if r - n1 < 0 then -1 else if r - n1 - n2 < 0 then -1 else r - n1 - n2) = x ∧ x < 0 := ⟨_, rfl, by
        split
        · omega
        · split <;> omega⟩
      rw [hx] at HSZ
      clear hx hbig
      go_wp2_with fail
      refine (HSZ.out _).mono ?_
      rintro e w2 ⟨rfl, hgr⟩
      have HE2 := shade (HE1.out.grown hgr)
      clear hgr
      go_wp2_with fail
      go_ret
      exact ⟨rfl, below_of_grown HE2.out.mach.low⟩
    · obtain ⟨x, hx, hx0⟩ : ∃ x : Int, (if r - n1 < 0 then -1 else if r - n1 - n2 < 0 then -1 else r - n1 - n2) = x ∧ 0 ≤ x := ⟨_, rfl, by
        split
        · omega
        · split <;> omega⟩
      rw [hx] at HSZ
      have m1 : n1 ≤ 1048576 := by omega
      have m2 : n2 ≤ 1048576 := by omega
      clear hx hbig
      go_wp2_with fail
      refine (HSZ.out _).mono ?_
      rintro e w2 ⟨rfl, hgr⟩
      have HE2 := shade (HE1.out.grown hgr)
      clear hgr HE1 HSZ q0 q1 q2
      obtain ⟨at2, j1, j2, u1, u2, N, d, hj, hNb, HSpec, HImpl, -⟩ := runm_told n F at' n1 n2 f1 f2 fuel hn hn1 hn2
      have HSp := shade HSpec
      have HIm := shade HImpl
      clear HSpec HImpl
      go_upto_region 8 with (fail)
      go_cut [8, 9, 10] (fun s6 s7 s8 wx => ∃ (b : Nat) (R1 : Option Addr) (d1 : Nat) (R2 : Option Addr) (d2 : Nat), s6 = .pointer (some ⟨b, 0, none⟩) ∧ s7 = .int .i64 N ∧ s8 = .bool d ∧ Holds5 wx b 31 #[.int .i64 at2, .slice R1 j1 d1, .slice R2 j2 d2] ∧ RM wx w.heap.size R1 j1 d1 R2 j2 d2 u1 u2 ∧ (w.heap.size < b ∧ R1.map (·.block) ≠ some b ∧ R2.map (·.block) ≠ some b) ∧ SX w wx w.heap.size A n F at' A1 n1 c1 A2 n2 c2 f1 f2)
      case first =>
        have HA := shade (HE2.out.grown (grown_drew1 w2))
        have HAA := shade ((HE2.out.grown (World.grownBy_alloc w2 (.cells #[.int .i64 0, .slice none 0 0, .slice none 0 0] 31) none)).grown (grown_drew1 (w2.alloc (.cells #[.int .i64 0, .slice none 0 0, .slice none 0 0] 31))))
        have HAP := shade ((Holds5.fresh w2 31 #[.int .i64 0, .slice none 0 0, .slice none 0 0]).drew)
        go_region_held3 (fun w' => w'.cell? ⟨w.heap.size, 0, none⟩ = some (.int .i64 at') ∧ w'.cell? ⟨w.heap.size, 1, none⟩ = some (.slice A1 n1 c1) ∧ w'.cell? ⟨w.heap.size, 2, none⟩ = some (.slice A2 n2 c2))
          (first | with_reducible exact HA.out.box3 | with_reducible exact HAA.out.box3 | with_reducible exact (HE2.out.grown (World.grownBy_alloc _ _ none)).box3 | with_reducible exact HB.out.box3 | with_reducible exact (HB.out.grown (World.grownBy_alloc _ _ none)).box3 | with_reducible exact HC.out.box3 | with_reducible exact (HC.out.grown (World.grownBy_alloc _ _ none)).box3 | with_reducible exact HD.out.box3 | with_reducible exact (HD.out.grown (World.grownBy_alloc _ _ none)).box3 | with_reducible exact (HD.out.put3 HC.out.lt _ _ _).box3 | with_reducible exact (HD.out.put3 HB.out.lt _ _ _).box3 | with_reducible exact (HD.out.put3 HE2.out.lt _ _ _).box3 | with_reducible exact (HD.out.put3 HA.out.lt _ _ _).box3)
          (first
            | (go_at_call 35; refine (toInstrS_any A n c F _ hnb (by first | with_reducible exact HA.out.code | with_reducible exact HAA.out.code)).mono ?_; rintro e w3 ⟨rfl, hc3, hgr⟩; have HB : Hid (SX w w3 w.heap.size A n F at' A1 n1 c1 A2 n2 c2 f1 f2) := shade (by first | with_reducible exact HA.out.grown hgr | with_reducible exact HAA.out.grown hgr); have hco := hc3.code; (try simp only [size_drewS] at hco); (try simp only [World.size_alloc] at hco); have HBC := shade hco; clear hco; (first | with_reducible have HBP := shade (Holds5_on HAP.out hgr) | skip); clear hgr hc3)
            | (go_at_call 36; refine (toMachine_any at' A1 A2 n1 n2 c1 c2 f1 f2 _ m1 m2 (by first | with_reducible exact HB.out.mach.N1 | with_reducible exact (HB.out.grown (World.grownBy_alloc _ _ none)).mach.N1) (by first | with_reducible exact HB.out.mach.N2 | with_reducible exact (HB.out.grown (World.grownBy_alloc _ _ none)).mach.N2)).mono ?_; rintro e w4 ⟨g1, k1, g2, k2, rfl, hne, ho1, ho2, hgr⟩; have HC : Hid (SX w w4 w.heap.size A n F at' A1 n1 c1 A2 n2 c2 f1 f2) := shade (by first | with_reducible exact HB.out.grown hgr | with_reducible exact (HB.out.grown (World.grownBy_alloc _ _ none)).grown hgr); have HCC := shade (show Code w4 _ n F by first | with_reducible exact HBC.out.on hgr | with_reducible exact (HBC.out.on (World.grownBy_alloc _ _ none)).on hgr); have HO1 := shade ho1.nums; have HO2 := shade ho2.nums; (first | with_reducible have HCP := shade (Holds5_on HBP.out hgr) | with_reducible have HCP := shade (Holds5_on (Holds5.fresh _ 31 #[.int .i64 0, .slice none 0 0, .slice none 0 0]) hgr) | skip); clear hgr ho1 ho2)
            | (go_at_call 22; refine (HSp.out _ _ _ _ _ _ _ (by first | with_reducible exact HCC.out | with_reducible exact HCC.out.on (World.grownBy_alloc _ _ none)) (by first | with_reducible exact HO1.out | with_reducible exact HO1.out.alloc _) (by first | with_reducible exact HO2.out | with_reducible exact HO2.out.alloc _)).mono ?_; rintro e w5 ⟨R1, d1, R2, d2, rfl, hR, hgr⟩; have HD : Hid (SX w w5 w.heap.size A n F at' A1 n1 c1 A2 n2 c2 f1 f2) := shade (by first | with_reducible exact HC.out.grown hgr | with_reducible exact (HC.out.grown (World.grownBy_alloc _ _ none)).grown hgr); have HR := shade hR; (first | have HDI := shade HCP.out.inside | skip); (first | with_reducible have HDP := shade (Holds5_on HCP.out hgr) | with_reducible have HDP := shade (Holds5_on (Holds5.fresh _ 31 #[.int .i64 0, .slice none 0 0, .slice none 0 0]) hgr) | skip); (try (have z0 := HDP.out.look 0; have z1 := HDP.out.look 1; have z2 := HDP.out.look 2; simp at z0 z1 z2; have y0 := HDP.out.free 0; have y1 := HDP.out.free 1; have y2 := HDP.out.free 2)); clear hgr hR))
        all_goals (go_wp2_with fail; go_meet; (first | exact ⟨_, _, _, _, _, rfl, rfl, rfl, made_put HDP.out HD.out (by first | exact HC.out.lt | exact HB.out.lt | exact HE2.out.lt) HR.out (by first | exact HDI.out | (rw [World.size_alloc]; omega))⟩ | exact ⟨_, _, _, _, _, rfl, rfl, rfl, made_new HD.out HR.out (Nat.le_of_lt HC.out.lt)⟩))
      case rest =>
        clear HE2
        obtain ⟨b, R1, d1, R2, d2, rfl, rfl, rfl, hP, hR, ⟨hb0, hb1, hb2⟩, hS⟩ := hcut
        have HP := shade (show Boxed wc b w.heap.size wc.heap.size at2 R1 j1 d1 R2 j2 d2 u1 u2 from ⟨hP, hR, hR.low, ⟨hb1, hb2⟩⟩)
        have HS := shade hS
        have lw := hS.lt
        have hbl := hP.inside
        clear hP hR hS hb1 hb2
        go_wp2_with fail
        refine (toInstrS_any A n c F _ hnb HS.out.code).mono ?_
        rintro e w3 ⟨rfl, hc3, hgr⟩
        have HS3 := shade (HS.out.grown hgr)
        have HP3 := shade (HP.out.grown hgr)
        have HX3 := shade hc3
        have l3 := (OwnC_lt hc3).2
        clear hgr hc3 HS HP
        have q0 := HS3.out.mach.box.look 0; have q1 := HS3.out.mach.box.look 1; have q2 := HS3.out.mach.box.look 2
        simp at q0 q1 q2
        go_wp2_with fail
        refine (toMachine_any at' A1 A2 n1 n2 c1 c2 f1 f2 _ m1 m2 HS3.out.mach.N1 HS3.out.mach.N2).mono ?_
        rintro e w4 ⟨g1, k1, g2, k2, rfl, hne, ho1, ho2, hgr⟩
        have hga := World.grownBy_alloc w4 (.cells #[.int .i64 at', .slice (some ⟨g1, 0, none⟩) n1 k1, .slice (some ⟨g2, 0, none⟩) n2 k2] 31) none
        have HS4 := shade (HS3.out.grown (grown_same hgr hga))
        have HP4 := shade (HP3.out.grown (grown_same hgr hga))
        have HX4 := shade (OwnC_on HX3.out (grown_same hgr hga))
        have HY4 := shade (show Boxed (w4.alloc (.cells #[.int .i64 at', .slice (some ⟨g1, 0, none⟩) n1 k1, .slice (some ⟨g2, 0, none⟩) n2 k2] 31)) w4.heap.size w3.heap.size w4.heap.size at' (some ⟨g1, 0, none⟩) n1 k1 (some ⟨g2, 0, none⟩) n2 k2 f1 f2 from boxed_new hne ho1 ho2)
        have l4 := hgr.size
        clear hgr hga HS3 HP3 HX3 q0 q1 q2 ho1 ho2
        go_wp2_with fail
        refine (HIm.out _ _ _ _ _ _ _ HS4.out.wt HX4.out.code HY4.out.mem.nums.1 HY4.out.mem.nums.2).mono ?_
        rintro e w5 ⟨G1, e1, G2, e2, rfl, hR, hgr⟩
        have hga := World.grownBy_alloc w5 (.cells #[.int .i64 at2, .slice G1 j1 e1, .slice G2 j2 e2] 31) none
        have l5 := hgr.size
        rw [World.size_alloc] at hR l5
        have HS5 := shade (HS4.out.grown (grown_same hgr hga))
        have HP5 := shade (HP4.out.grown (grown_same hgr hga))
        have HX5 := shade (OwnC_on HX4.out (grown_same hgr hga))
        have HY5 := shade (HY4.out.grown (grown_same hgr hga))
        have HG5 := shade (show Boxed (w5.alloc (.cells #[.int .i64 at2, .slice G1 j1 e1, .slice G2 j2 e2] 31)) w5.heap.size (w4.heap.size + 1) w5.heap.size at2 G1 j1 e1 G2 j2 e2 u1 u2 from boxed_ret hR)
        have p0 := ((HP4.out.grown hgr).box.look 0); have p1 := ((HP4.out.grown hgr).box.look 1); have p2 := ((HP4.out.grown hgr).box.look 2)
        have y0 := ((HY4.out.grown hgr).box.look 0); have y1 := ((HY4.out.grown hgr).box.look 1); have y2 := ((HY4.out.grown hgr).box.look 2)
        simp at p0 p1 p2 y0 y1 y2
        have z := (HP4.out.grown hgr).box.inside
        clear hgr hga HS4 HP4 HX4 HY4 hR
        go_wp2_with fail
        refine (eqMachine_any at2 _ _ _ _ j1 j2 _ _ _ _ u1 u2 _ (by omega) (by omega) HG5.out.mem.nums.1 HG5.out.mem.nums.2 HP5.out.mem.nums.1 HP5.out.mem.nums.2).mono ?_
        rintro e w6 ⟨rfl, hgr⟩
        have l6 := hgr.size
        rw [World.size_alloc] at l6
        have HS6 := shade (HS5.out.grown hgr)
        have HP6 := shade (HP5.out.grown hgr)
        have HX6 := shade (OwnC_on HX5.out hgr)
        have HY6 := shade (HY5.out.grown hgr)
        have HG6 := shade (HG5.out.grown hgr)
        clear hgr HS5 HP5 HX5 HY5 HG5 p0 p1 p2 y0 y1 y2 z
        go_wp2_with fail
        refine (toInstrS_any A n c F _ hnb HS6.out.code).mono ?_
        rintro e w7 ⟨rfl, hc7, hgr⟩
        have l7 := hgr.size
        have HS7 := shade (HS6.out.grown hgr)
        have HP7 := shade (HP6.out.grown hgr)
        have HX7 := shade (OwnC_on HX6.out hgr)
        have HY7 := shade (HY6.out.grown hgr)
        have HG7 := shade (HG6.out.grown hgr)
        have HC7 := shade hc7.code
        clear hgr HS6 HP6 HX6 HY6 HG6 hc7
        go_wp2_with fail
        refine (eqInstrS_any _ _ n n n F _ hn HX7.out.code HC7.out).mono ?_
        rintro e w8 ⟨rfl, hgr⟩
        have l8 := hgr.size
        have HS8 := shade (HS7.out.grown hgr)
        have HP8 := shade (HP7.out.grown hgr)
        have HX8 := shade (OwnC_on HX7.out hgr)
        have HY8 := shade (HY7.out.grown hgr)
        have HG8 := shade (HG7.out.grown hgr)
        clear hgr HS7 HP7 HX7 HY7 HG7 HC7
        go_upto_region 16 with (fail)
        have hgd := grown_drew1 w8
        have HS9 := shade (HS8.out.grown hgd)
        have HP9 := shade (HP8.out.grown hgd)
        have HX9 := shade (OwnC_on HX8.out hgd)
        have HY9 := shade (HY8.out.grown hgd)
        have HG9 := shade (HG8.out.grown hgd)
        clear hgd HS8 HP8 HX8 HY8 HG8
        go_region_held3 (fun w' => (w'.cell? ⟨w.heap.size, 0, none⟩ = some (.int .i64 at') ∧ w'.cell? ⟨w.heap.size, 1, none⟩ = some (.slice A1 n1 c1) ∧ w'.cell? ⟨w.heap.size, 2, none⟩ = some (.slice A2 n2 c2)) ∧ (w'.cell? ⟨w4.heap.size, 0, none⟩ = some (.int .i64 at') ∧ w'.cell? ⟨w4.heap.size, 1, none⟩ = some (.slice (some ⟨g1, 0, none⟩) n1 k1) ∧ w'.cell? ⟨w4.heap.size, 2, none⟩ = some (.slice (some ⟨g2, 0, none⟩) n2 k2)))
          (first | with_reducible exact ⟨HS9.out.box3, HY9.out.box3⟩ | with_reducible exact ⟨HS10.out.box3, HY10.out.box3⟩ | with_reducible exact ⟨HS11.out.box3, HY11.out.box3⟩)
          (first
            | (go_at_call 36; refine (toMachine_any at' A1 A2 n1 n2 c1 c2 f1 f2 _ m1 m2 HS9.out.mach.N1 HS9.out.mach.N2).mono ?_; rintro e w10 ⟨v1, t1, v2, t2, rfl, _, ho1, ho2, hgr⟩; have l10 := hgr.size; have HS10 := shade (HS9.out.grown hgr); have HP10 := shade (HP9.out.grown hgr); have HX10 := shade (OwnC_on HX9.out hgr); have HY10 := shade (HY9.out.grown hgr); have HG10 := shade (HG9.out.grown hgr); have HO1 := shade ho1.nums; have HO2 := shade ho2.nums; clear hgr ho1 ho2)
            | (go_at_call 37; refine (eqMachine_any at' _ _ _ _ n1 n2 _ _ _ _ f1 f2 _ hn1 hn2 HY10.out.mem.nums.1 HY10.out.mem.nums.2 HO1.out HO2.out).mono ?_; rintro e w11 ⟨rfl, hgr⟩; have l11 := hgr.size; have HS11 := shade (HS10.out.grown hgr); have HP11 := shade (HP10.out.grown hgr); have HX11 := shade (OwnC_on HX10.out hgr); have HY11 := shade (HY10.out.grown hgr); have HG11 := shade (HG10.out.grown hgr); clear hgr))
        rename_i hHeld
        clear hHeld HS9 HP9 HX9 HY9 HG9 HS10 HP10 HX10 HY10 HG10 HO1 HO2
        go_wp2_with fail
        refine (markInstrS_at _ wc.heap.size n n F 1 _ hnb (by omega) (by omega) HX11.out).mono ?_
        rintro e w12 ⟨rfl, _, hgr⟩
        have l12 := hgr.size
        have HS12 := shade (HS11.out.but1 hgr lw)
        have HP12 := shade (HP11.out.but1 hgr (by omega) (by omega))
        have HY12 := shade (HY11.out.but1 hgr (by omega) (by omega))
        have HG12 := shade (HG11.out.but1 hgr (by omega) (by omega))
        clear hgr HS11 HP11 HX11 HY11 HG11
        have y0 := HY12.out.box.look 0; have y1 := HY12.out.box.look 1; have y2 := HY12.out.box.look 2
        simp at y0 y1 y2
        go_wp2_with fail
        refine (markMachine_res at' w3.heap.size _ n1 k1 _ n2 k2 f1 f2 (1 + 5 * (n : Int)) _ (by omega) (by omega) (by omega) (by omega) HY12.out.mem).mono ?_
        rintro e w13 ⟨rfl, _, hb⟩
        have l13 := hb.size
        have HS13 := shade (HS12.out.butO hb HY12.out.within (by omega))
        have HP13 := shade (HP12.out.butO hb HY12.out.within (by omega) (by omega))
        have HG13 := shade (HG12.out.butO hb HY12.out.within (by omega) (by omega))
        clear hb HS12 HP12 HY12 HG12 y0 y1 y2
        have p0 := HP13.out.box.look 0; have p1 := HP13.out.box.look 1; have p2 := HP13.out.box.look 2
        have y0 := HG13.out.box.look 0; have y1 := HG13.out.box.look 1; have y2 := HG13.out.box.look 2
        simp at p0 p1 p2 y0 y1 y2
        go_wp2_with fail
        refine (eqMachine_any at2 _ _ _ _ j1 j2 _ _ _ _ u1 u2 _ (by omega) (by omega) HG13.out.mem.nums.1 HG13.out.mem.nums.2 HP13.out.mem.nums.1 HP13.out.mem.nums.2).mono ?_
        rintro e w14 ⟨rfl, hgr⟩
        have l14 := hgr.size
        have HS14 := shade (HS13.out.grown hgr)
        have HP14 := shade (HP13.out.grown hgr)
        have HG14 := shade (HG13.out.grown hgr)
        clear hgr HS13 HP13 HG13 p0 p1 p2 y0 y1 y2
        have y0 := HG14.out.box.look 0; have y1 := HG14.out.box.look 1; have y2 := HG14.out.box.look 2
        simp at y0 y1 y2
        go_wp2_with fail
        refine (markMachine_res at2 (w4.heap.size + 1) _ j1 e1 _ j2 e2 u1 u2 1 _ (by omega) (by omega) (by omega) (by omega) HG14.out.mem).mono ?_
        rintro e w15 ⟨rfl, hm, hb⟩
        have l15 := hb.size
        have HS15 := shade (HS14.out.butO hb HG14.out.within (by omega))
        have HP15 := shade (HP14.out.butO hb HG14.out.within (by omega) (by omega))
        have HG15 := shade (HG14.out.marked hb hm)
        clear hb hm HS14 HP14 HG14 y0 y1 y2
        have y0 := HG15.out.box.look 0; have y1 := HG15.out.box.look 1; have y2 := HG15.out.box.look 2
        simp at y0 y1 y2
        go_wp2_with fail
        refine (heldMachine_any at2 _ _ j1 j2 _ _ 1 _ (by omega) (by omega) HG15.out.mem.nums.1 HG15.out.mem.nums.2).mono ?_
        rintro e w16 ⟨rfl, hgr⟩
        have l16 := hgr.size
        have HS16 := shade (HS15.out.grown hgr)
        have HP16 := shade (HP15.out.grown hgr)
        have HG16 := shade (HG15.out.grown hgr)
        clear hgr HS15 HP15 HG15 y0 y1 y2
        go_upto_region 31 with (fail)
        go_cut [19, 20, 21] (fun s6 s7 s8 wx => ∃ (b : Nat) (R1 : Option Addr) (d1 : Nat) (R2 : Option Addr) (d2 : Nat), s6 = .pointer (some ⟨b, 0, none⟩) ∧ s7 = .int .i64 N ∧ s8 = .bool d ∧ w16.grownBy wx none ∧ Holds5 wx b 31 #[.int .i64 at2, .slice R1 j1 d1, .slice R2 j2 d2] ∧ RM wx w16.heap.size R1 j1 d1 R2 j2 d2 u1 u2)
        case first =>
          have HA := shade (HS16.out.grown (grown_drew1 w16))
          have HAA := shade ((HS16.out.grown (World.grownBy_alloc w16 (.cells #[.int .i64 0, .slice none 0 0, .slice none 0 0] 31) none)).grown (grown_drew1 (w16.alloc (.cells #[.int .i64 0, .slice none 0 0, .slice none 0 0] 31))))
          have HZA := shade (grown_drew1 w16)
          have HZAA := shade (grown_same (World.grownBy_alloc w16 (.cells #[.int .i64 0, .slice none 0 0, .slice none 0 0] 31) none) (grown_drew1 (w16.alloc (.cells #[.int .i64 0, .slice none 0 0, .slice none 0 0] 31))))
          have HAP := shade ((Holds5.fresh w16 31 #[.int .i64 0, .slice none 0 0, .slice none 0 0]).drew)
          go_region_held3 (fun w' => w'.cell? ⟨w.heap.size, 0, none⟩ = some (.int .i64 at') ∧ w'.cell? ⟨w.heap.size, 1, none⟩ = some (.slice A1 n1 c1) ∧ w'.cell? ⟨w.heap.size, 2, none⟩ = some (.slice A2 n2 c2))
            (first | with_reducible exact HA.out.box3 | with_reducible exact HAA.out.box3 | with_reducible exact (HS16.out.grown (World.grownBy_alloc _ _ none)).box3 | with_reducible exact HB.out.box3 | with_reducible exact (HB.out.grown (World.grownBy_alloc _ _ none)).box3 | with_reducible exact HC.out.box3 | with_reducible exact (HC.out.grown (World.grownBy_alloc _ _ none)).box3 | with_reducible exact HD.out.box3 | with_reducible exact (HD.out.grown (World.grownBy_alloc _ _ none)).box3 | with_reducible exact (HD.out.put3 HC.out.lt _ _ _).box3 | with_reducible exact (HD.out.put3 HB.out.lt _ _ _).box3 | with_reducible exact (HD.out.put3 HS16.out.lt _ _ _).box3 | with_reducible exact (HD.out.put3 HA.out.lt _ _ _).box3)
            (first
              | (go_at_call 35; refine (toInstrS_any A n c F _ hnb (by first | with_reducible exact HA.out.code | with_reducible exact HAA.out.code)).mono ?_; rintro e w17 ⟨rfl, hc3, hgr⟩; have HZB : Hid (w16.grownBy w17 none) := shade (by first | with_reducible exact grown_same HZA.out hgr | with_reducible exact grown_same HZAA.out hgr); have HB : Hid (SX w w17 w.heap.size A n F at' A1 n1 c1 A2 n2 c2 f1 f2) := shade (by first | with_reducible exact HA.out.grown hgr | with_reducible exact HAA.out.grown hgr); have hco := hc3.code; (try simp only [size_drewS] at hco); (try simp only [World.size_alloc] at hco); have HBC := shade hco; clear hco; (first | with_reducible have HBP := shade (Holds5_on HAP.out hgr) | skip); clear hgr hc3)
              | (go_at_call 36; refine (toMachine_any at' A1 A2 n1 n2 c1 c2 f1 f2 _ m1 m2 (by first | with_reducible exact HB.out.mach.N1 | with_reducible exact (HB.out.grown (World.grownBy_alloc _ _ none)).mach.N1) (by first | with_reducible exact HB.out.mach.N2 | with_reducible exact (HB.out.grown (World.grownBy_alloc _ _ none)).mach.N2)).mono ?_; rintro e w18 ⟨v1, t1, v2, t2, rfl, _, ho1, ho2, hgr⟩; have HZC : Hid (w16.grownBy w18 none) := shade (by first | with_reducible exact grown_same HZB.out hgr | with_reducible exact grown_same (grown_same HZB.out (World.grownBy_alloc _ _ none)) hgr); have HC : Hid (SX w w18 w.heap.size A n F at' A1 n1 c1 A2 n2 c2 f1 f2) := shade (by first | with_reducible exact HB.out.grown hgr | with_reducible exact (HB.out.grown (World.grownBy_alloc _ _ none)).grown hgr); have HCC := shade (show Code w18 _ n F by first | with_reducible exact HBC.out.on hgr | with_reducible exact (HBC.out.on (World.grownBy_alloc _ _ none)).on hgr); have HO1 := shade ho1.nums; have HO2 := shade ho2.nums; (first | with_reducible have HCP := shade (Holds5_on HBP.out hgr) | with_reducible have HCP := shade (Holds5_on (Holds5.fresh _ 31 #[.int .i64 0, .slice none 0 0, .slice none 0 0]) hgr) | skip); clear hgr ho1 ho2)
              | (go_at_call 21; refine (HIm.out _ _ _ _ _ _ _ (by first | with_reducible exact HC.out.wt | with_reducible exact (HC.out.grown (World.grownBy_alloc _ _ none)).wt) (by first | with_reducible exact HCC.out | with_reducible exact HCC.out.on (World.grownBy_alloc _ _ none)) (by first | with_reducible exact HO1.out | with_reducible exact HO1.out.alloc _) (by first | with_reducible exact HO2.out | with_reducible exact HO2.out.alloc _)).mono ?_; rintro e w19 ⟨V1, t3, V2, t4, rfl, hR, hgr⟩; have HZD : Hid (w16.grownBy w19 none) := shade (by first | with_reducible exact grown_same HZC.out hgr | with_reducible exact grown_same (grown_same HZC.out (World.grownBy_alloc _ _ none)) hgr); have HD : Hid (SX w w19 w.heap.size A n F at' A1 n1 c1 A2 n2 c2 f1 f2) := shade (by first | with_reducible exact HC.out.grown hgr | with_reducible exact (HC.out.grown (World.grownBy_alloc _ _ none)).grown hgr); have HR := shade hR; (first | have HDI := shade HCP.out.inside | skip); (first | with_reducible have HDP := shade (Holds5_on HCP.out hgr) | with_reducible have HDP := shade (Holds5_on (Holds5.fresh _ 31 #[.int .i64 0, .slice none 0 0, .slice none 0 0]) hgr) | skip); (try (have z0 := HDP.out.look 0; have z1 := HDP.out.look 1; have z2 := HDP.out.look 2; simp at z0 z1 z2; have y0 := HDP.out.free 0; have y1 := HDP.out.free 1; have y2 := HDP.out.free 2)); clear hgr hR))
          all_goals (go_wp2_with fail; go_meet; (first | exact ⟨_, _, _, _, _, rfl, rfl, rfl, made_put2 HDP.out HZD.out (by first | exact HZC.out.size | exact HZB.out.size | exact Nat.le_refl _) HR.out (by first | exact HDI.out | (rw [World.size_alloc]; omega))⟩ | exact ⟨_, _, _, _, _, rfl, rfl, rfl, made_new2 HZD.out HR.out HZC.out.size⟩))
        case rest =>
          obtain ⟨b', V1, t1, V2, t2, rfl, rfl, rfl, hgz, hP, hR⟩ := hcut
          have HS17 := shade (HS16.out.grown hgz)
          have HP17 := shade (HP16.out.grown hgz)
          have HG17 := shade (HG16.out.grown hgz)
          have HV17 := shade hR.nums
          have p0 := HP17.out.box.look 0; have p1 := HP17.out.box.look 1; have p2 := HP17.out.box.look 2
          have y0 := hP.look 0; have y1 := hP.look 1; have y2 := hP.look 2
          simp at p0 p1 p2 y0 y1 y2
          clear hgz HS16 HP16 HG16 hP hR
          go_wp2_with fail
          refine (eqMachine_any at2 _ _ _ _ j1 j2 _ _ _ _ u1 u2 _ (by omega) (by omega) HV17.out.1 HV17.out.2 HP17.out.mem.nums.1 HP17.out.mem.nums.2).mono ?_
          rintro e w18 ⟨rfl, hgr⟩
          have HS18 := shade (HS17.out.grown hgr)
          have HG18 := shade (HG17.out.grown hgr)
          clear hgr HS17 HP17 HG17 HV17 p0 p1 p2 y0 y1 y2
          have y0 := HG18.out.box.look 0; have y1 := HG18.out.box.look 1; have y2 := HG18.out.box.look 2
          simp at y0 y1 y2
          go_wp2_with fail
          refine (heldMachine_any at2 _ _ j1 j2 _ _ 1 _ (by omega) (by omega) HG18.out.mem.nums.1 HG18.out.mem.nums.2).mono ?_
          rintro e w19 ⟨rfl, hgr⟩
          have HS19 := shade (HS18.out.grown hgr)
          clear hgr HS18 HG18 y0 y1 y2
          go_wp2_with fail
          go_ret
          exact ⟨rfl, below_of_grown HS19.out.mach.low⟩
end Go.Proofs.YtbcncifadklkgaaDoor
