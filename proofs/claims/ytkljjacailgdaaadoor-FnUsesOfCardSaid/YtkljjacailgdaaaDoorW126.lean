/- RunMachine answers as its model for the drawn program, machine and fuel, and runs go on. -/
import Derived.Test.YtkljjacailgdaaaDoorG130
import Derived.Test.YtkljjacailgdaaaDoorG120
namespace Go.Proofs.YtkljjacailgdaaaDoor
open Go.RowKit
set_option linter.unusedSimpArgs false
/-- A machine in a box, whose numbers can be read. -/
structure BoxM (wr : World) (b : Nat) (at2 : Int) (R1 : Option Addr) (k1 d1 : Nat) (R2 : Option Addr) (k2 d2 : Nat) (g1 g2 : Nat → Int) : Prop where
  box : Holds5 wr b 31 #[.int .i64 at2, .slice R1 k1 d1, .slice R2 k2 d2]
  n1 : Nums wr R1 k1 g1
  n2 : Nums wr R2 k2 g2
/-- What stands all along: the table, the program; nothing that was there has changed. -/
structure KB (w0 wr : World) (A : Option Addr) (n : Nat) (F : Nat → Ins) : Prop where
  wt : WT wr
  code : Code wr A n F
  low : w0.grownBy wr none
section
variable {w0 wr w2 : World} {b B : Nat} {at2 : Int} {R1 R2 : Option Addr} {k1 d1 k2 d2 : Nat} {g1 g2 : Nat → Int} {A : Option Addr} {n : Nat} {F : Nat → Ins}
theorem BoxM.on (h : BoxM wr b at2 R1 k1 d1 R2 k2 d2 g1 g2) (hg : wr.grownBy w2 none) : BoxM w2 b at2 R1 k1 d1 R2 k2 d2 g1 g2 := ⟨h.box.grown hg (by intro e; cases e), h.n1.on hg, h.n2.on hg⟩
theorem KB.on (h : KB w0 wr A n F) (hg : wr.grownBy w2 none) : KB w0 w2 A n F := ⟨h.wt.below (below_of_grown hg) (wt_lt h.wt), h.code.on hg, grown_same h.low hg⟩
theorem RM.boxm (h : RM wr B R1 k1 d1 R2 k2 d2 g1 g2) : BoxM (wr.alloc (.cells #[.int .i64 at2, .slice R1 k1 d1, .slice R2 k2 d2] 31)) wr.heap.size at2 R1 k1 d1 R2 k2 d2 g1 g2 :=
  ⟨Holds5.fresh _ _ _, h.nums.1.alloc _, h.nums.2.alloc _⟩
end
/-- A step of a machine, told ahead. -/
theorem step_told (n : Nat) (F : Nat → Ins) (at' : Int) (n1 n2 : Nat) (f1 f2 : Nat → Int) (ok : Bool) (hn : n ≤ 9223372036854775807) (hs : stepB n F at' n1 n2 f1 f2 = ok) :
    ∃ (at2 : Int) (k1 k2 : Nat) (g1 g2 : Nat → Int), ∀ (A : Option Addr) (cap : Nat) (A1 : Option Addr) (c1 : Nat) (A2 : Option Addr) (c2 : Nat) (W : World), WT W → Code W A n F → Nums W A1 n1 f1 → Nums W A2 n2 f2 → Calls Tryd.prog 18 #[.slice A n cap, MV at' A1 n1 c1 A2 n2 c2] W (StepRes W ok at2 k1 k2 g1 g2) := by
  cases ok with
  | false => exact ⟨0, 0, 0, f1, f2, fun A c A1 c1 A2 c2 W hg hC h1 h2 => (StepMachine_no A n c F at' A1 n1 c1 A2 n2 c2 f1 f2 W hg hn hC h1 h2 hs).mono fun _ _ h => StepRes.no _ _ h⟩
  | true => exact ⟨_, 4, 8, _, _, fun A c A1 c1 A2 c2 W hg hC h1 h2 => (StepMachine_yes A n c F at' A1 n1 c1 A2 n2 c2 f1 f2 W hg hn hC h1 h2 hs).mono fun _ _ h => StepRes.yes h⟩
set_option maxRecDepth 100000 in
set_option maxHeartbeats 16000000 in
theorem fnRunMachine_walk (A : Option Addr) (n cap : Nat) (zs : List Int) (w : World) (hg : WT w) (hB : Bys w A n cap zs) :
    Calls Tryd.prog 4 #[.slice A n cap] w fun e w' => e = .returned (.bool true) ∧ Below w.heap.size w w' := by
  have HG := shade hg
  have HBy := shade hB
  have hcap := hB.fits
  have hbig := hB.big
  unfold maxLen at hbig
  clear hg hB
  by_cases hl : 1048576 < n
  · go_enter Tryd.func4, Tryd.ntmps4
    go_wp2_with fail
    go_ret
    exact ⟨rfl, rfl, rfl, rfl, Nat.le_refl _, fun _ _ => rfl⟩
  · have HD := shade (DrawRunMachine_any A n cap zs w HBy.out)
    go_enter Tryd.func4, Tryd.ntmps4
    go_wp2_with fail
    refine HD.out.mono ?_
    rintro e w1 ⟨Al, k, c, F, at', A1, n1, c1, A2, n2, c2, f1, f2, fu, rfl, hk, hC, hN1, hN2, ⟨hn1, hn2⟩, ⟨hfu0, hfu1⟩, hgr⟩
    obtain ⟨at2, j1, j2, u1, u2, N, d, ⟨hj1, hj2⟩, ⟨hNa, hNb⟩, HSp, HIm, hcase⟩ := runm_told k F at' n1 n2 f1 f2 fu (by omega) (by omega) (by omega)
    have HSP := shade HSp; have HIM := shade HIm; have HCASE := shade hcase
    have hga := World.grownBy_alloc w1 (.cells #[.int .i64 at', .slice A1 n1 c1, .slice A2 n2 c2] 31) none
    have hgt := grown_same hgr hga
    have k0 : KB w (w1.alloc (.cells #[.int .i64 at', .slice A1 n1 c1, .slice A2 n2 c2] 31)) Al k F := ⟨HG.out.below (below_of_grown hgt) (wt_lt HG.out), hC.on hga, hgt⟩
    have m0 : BoxM (w1.alloc (.cells #[.int .i64 at', .slice A1 n1 c1, .slice A2 n2 c2] 31)) w1.heap.size at' A1 n1 c1 A2 n2 c2 f1 f2 := ⟨Holds5.fresh _ _ _, hN1.on hga, hN2.on hga⟩
    clear HSp HIm hcase hC hN1 hN2 hgr hga hgt HD HG
    go_upto_region 4 with (fail)
    obtain ⟨W1, hW⟩ : ∃ W1, w1.alloc (.cells #[.int .i64 at', .slice A1 n1 c1, .slice A2 n2 c2] 31) = W1 := ⟨_, rfl⟩
    obtain ⟨b0, hb⟩ : ∃ b0, w1.heap.size = b0 := ⟨_, rfl⟩
    rw [hb] at m0 ⊢
    rw [hW] at k0 m0 ⊢
    have K0 := shade k0; have M0 := shade m0
    clear k0 m0 hW hb
    have x0 := M0.out.box.look 0; have x1 := M0.out.box.look 1; have x2 := M0.out.box.look 2
    simp at x0 x1 x2
    go_wp2_with fail
    refine (HIM.out _ _ _ _ _ _ _ K0.out.wt K0.out.code M0.out.n1 M0.out.n2).mono ?_
    rintro e w2 ⟨R1, d1, R2, d2, rfl, hR, hgr⟩
    have hga := World.grownBy_alloc w2 (.cells #[.int .i64 at2, .slice R1 j1 d1, .slice R2 j2 d2] 31) none
    have k1 := K0.out.on (grown_same hgr hga)
    have m1 := M0.out.on (grown_same hgr hga)
    have o1 := RM.boxm (at2 := at2) hR
    clear K0 M0 hgr hga hR x0 x1 x2
    go_upto_region 5 with (fail)
    obtain ⟨W2, hW⟩ : ∃ W2, w2.alloc (.cells #[.int .i64 at2, .slice R1 j1 d1, .slice R2 j2 d2] 31) = W2 := ⟨_, rfl⟩
    obtain ⟨b1, hb⟩ : ∃ b1, w2.heap.size = b1 := ⟨_, rfl⟩
    rw [hb] at o1 ⊢
    rw [hW] at k1 m1 o1 ⊢
    have K1 := shade k1; have M1 := shade m1; have O1 := shade o1
    clear k1 m1 o1 hW hb
    have x0 := M1.out.box.look 0; have x1 := M1.out.box.look 1; have x2 := M1.out.box.look 2
    simp at x0 x1 x2
    go_wp2_with fail
    refine (HSP.out _ _ _ _ _ _ _ K1.out.code M1.out.n1 M1.out.n2).mono ?_
    rintro e w3 ⟨S1, d3, S2, d4, rfl, hR, hgr⟩
    have hga := World.grownBy_alloc w3 (.cells #[.int .i64 at2, .slice S1 j1 d3, .slice S2 j2 d4] 31) none
    have k2 := K1.out.on (grown_same hgr hga)
    have m2 := M1.out.on (grown_same hgr hga)
    have o2 := O1.out.on (grown_same hgr hga)
    have p2 := RM.boxm (at2 := at2) hR
    clear K1 M1 O1 hgr hga hR x0 x1 x2
    go_upto_region 6 with (fail)
    obtain ⟨W3, hW⟩ : ∃ W3, w3.alloc (.cells #[.int .i64 at2, .slice S1 j1 d3, .slice S2 j2 d4] 31) = W3 := ⟨_, rfl⟩
    obtain ⟨b2, hb⟩ : ∃ b2, w3.heap.size = b2 := ⟨_, rfl⟩
    rw [hb] at p2 ⊢
    rw [hW] at k2 m2 o2 p2 ⊢
    have K2 := shade k2; have M2 := shade m2; have O2 := shade o2; have P2 := shade p2
    clear k2 m2 o2 p2 hW hb
    have y0 := O2.out.box.look 0; have y1 := O2.out.box.look 1; have y2 := O2.out.box.look 2
    simp at y0 y1 y2
    have z0 := P2.out.box.look 0; have z1 := P2.out.box.look 1; have z2 := P2.out.box.look 2
    simp at z0 z1 z2
    go_wp2_with fail
    refine (equalMachine_any at2 _ _ _ _ j1 j2 _ _ _ _ u1 u2 _ (by omega) (by omega) O2.out.n1 O2.out.n2 P2.out.n1 P2.out.n2).mono ?_
    rintro e w4 ⟨rfl, hgr⟩
    have K3 := shade (K2.out.on hgr); have M3 := shade (M2.out.on hgr); have O3 := shade (O2.out.on hgr); have P3 := shade (P2.out.on hgr)
    clear hgr K2 M2 O2 P2 y0 y1 y2 z0 z1 z2
    by_cases hN0 : N < 0
    · clear HCASE HIM HSP
      have y0 := O3.out.box.look 0; have y1 := O3.out.box.look 1; have y2 := O3.out.box.look 2
      simp at y0 y1 y2
      have z0 := P3.out.box.look 0; have z1 := P3.out.box.look 1; have z2 := P3.out.box.look 2
      simp at z0 z1 z2
      go_wp2_with fail
      refine (equalMachine_any at2 _ _ _ _ j1 j2 _ _ _ _ u1 u2 _ (by omega) (by omega) O3.out.n1 O3.out.n2 P3.out.n1 P3.out.n2).mono ?_
      rintro e w5 ⟨rfl, hgr⟩
      have K4 := shade (K3.out.on hgr)
      clear hgr
      go_wp2_with fail
      go_ret
      exact ⟨rfl, below_of_grown K4.out.low⟩
    · obtain ⟨hrun, rfl, rfl, Kk, hKE, hNK, ha2, rfl, rfl, hu1, hu2, hd⟩ := HCASE.out.resolve_left (fun h => hN0 (by have := h.2; omega))
      obtain ⟨hv, hm, hf0, hf1⟩ := runB_parts hrun
      have hok := okS_of hm
      obtain ⟨K1, hK1⟩ := runEnd_ex k F ⟨at', f1, f2⟩ (fu / 2).toNat
      have hok1 := hok.run hv K1 hK1.go
      have hokK := hok.run hv Kk hKE.go
      have hhalf := runm_yes k F ⟨at', f1, f2⟩ (fu / 2) K1 (by omega) hv hok (by omega) (by omega) hK1
      obtain ⟨t1, ht1⟩ : ∃ t1, sN F ⟨at', f1, f2⟩ K1 = t1 := ⟨_, rfl⟩
      rw [ht1] at hok1 hhalf
      obtain ⟨K2', hK2⟩ := runEnd_ex k F t1 (fu - fu / 2).toNat
      have hrest := runm_yes k F t1 (fu - fu / 2) K2' (by omega) hv hok1 (by omega) (by omega) hK2
      have hK2b := hK2
      rw [← ht1] at hK2b
      have htr := hK1.trans hK2b
      rw [show (fu / 2).toNat + (fu - fu / 2).toNat = fu.toNat by omega] at htr
      have hsum : K1 + K2' = Kk := htr.uniq hKE
      have hst : sN F t1 K2' = sN F ⟨at', f1, f2⟩ Kk := by rw [← ht1, sN_add, hsum]
      rw [hst, ← ha2, ← hu1, ← hu2, ← hd] at hrest
      have hsb : stepB k F at2 4 8 u1 u2 = !d := by
        have hvm := hokK.vmB
        rw [← ha2, ← hu1, ← hu2] at hvm
        rw [hd]
        unfold stepB sHalt
        rw [hv, hvm, ← ha2]
        rfl
      obtain ⟨at3, k3, k4, g3, g4, hstep⟩ := step_told k F at2 4 8 u1 u2 (!d) (by omega) hsb
      have hKle := hKE.le
      have hq : ((K1 : Int) + (K2' : Int) == N) = true := by rw [beq_iff_eq]; omega
      have hle : N ≤ fu := by omega
      have hN1 : 0 ≤ N := by omega
      have hK1b := hK1.le
      have hK2c := hK2.le
      have hk1i : (K1 : Int) ≤ 300 := by omega
      have hk2i : (K2' : Int) ≤ 300 := by omega
      have HHALF := shade hhalf; have HREST := shade hrest; have HSTEP := shade hstep; have HQ := shade hq
      clear hrun hKE hNK ha2 hu1 hu2 hd hv hm hok hK1 hok1 hokK hhalf ht1 hK2 hrest hK2b htr hsum hst hsb hstep hKle HCASE HIM HSP P3 hN0 hq hK1b hK2c hNa
      have x0 := M3.out.box.look 0; have x1 := M3.out.box.look 1; have x2 := M3.out.box.look 2
      simp at x0 x1 x2
      go_wp2_with fail
      refine (HHALF.out _ _ _ _ _ _ _ K3.out.wt K3.out.code M3.out.n1 M3.out.n2).mono ?_
      rintro e w5 ⟨T1, d5, T2, d6, rfl, hR, hgr⟩
      have hga := World.grownBy_alloc w5 (.cells #[.int .i64 t1.at', .slice T1 4 d5, .slice T2 8 d6] 31) none
      have k4' := K3.out.on (grown_same hgr hga)
      have o4 := O3.out.on (grown_same hgr hga)
      have q4 := RM.boxm (at2 := t1.at') hR
      clear K3 M3 O3 hgr hga hR x0 x1 x2 HHALF
      go_upto_region 9 with (fail)
      obtain ⟨W5, hW⟩ : ∃ W5, w5.alloc (.cells #[.int .i64 t1.at', .slice T1 4 d5, .slice T2 8 d6] 31) = W5 := ⟨_, rfl⟩
      obtain ⟨b5, hb⟩ : ∃ b5, w5.heap.size = b5 := ⟨_, rfl⟩
      rw [hb] at q4 ⊢
      rw [hW] at k4' o4 q4 ⊢
      have K4 := shade k4'; have O4 := shade o4; have Q4 := shade q4
      clear k4' o4 q4 hW hb
      have x0 := Q4.out.box.look 0; have x1 := Q4.out.box.look 1; have x2 := Q4.out.box.look 2
      simp at x0 x1 x2
      go_wp2_with fail
      refine (HREST.out _ _ _ _ _ _ _ K4.out.wt K4.out.code Q4.out.n1 Q4.out.n2).mono ?_
      rintro e w6 ⟨U1, d7, U2, d8, rfl, hR, hgr⟩
      have hga := World.grownBy_alloc w6 (.cells #[.int .i64 at2, .slice U1 4 d7, .slice U2 8 d8] 31) none
      have k5 := K4.out.on (grown_same hgr hga)
      have o5 := O4.out.on (grown_same hgr hga)
      have r5 := RM.boxm (at2 := at2) hR
      clear K4 Q4 O4 hgr hga hR x0 x1 x2 HREST
      go_upto_region 10 with (fail)
      obtain ⟨W6, hW⟩ : ∃ W6, w6.alloc (.cells #[.int .i64 at2, .slice U1 4 d7, .slice U2 8 d8] 31) = W6 := ⟨_, rfl⟩
      obtain ⟨b6, hb⟩ : ∃ b6, w6.heap.size = b6 := ⟨_, rfl⟩
      rw [hb] at r5 ⊢
      rw [hW] at k5 o5 r5 ⊢
      have K5 := shade k5; have O5 := shade o5; have R5 := shade r5
      clear k5 o5 r5 hW hb
      have y0 := O5.out.box.look 0; have y1 := O5.out.box.look 1; have y2 := O5.out.box.look 2
      simp at y0 y1 y2
      go_wp2_with fail
      refine (HSTEP.out _ _ _ _ _ _ _ K5.out.wt K5.out.code O5.out.n1 O5.out.n2).mono ?_
      rintro e w7 ⟨V1, d9, V2, d10, rfl, -, hgr⟩
      have hga := World.grownBy_alloc w7 (.cells #[.int .i64 at3, .slice V1 k3 d9, .slice V2 k4 d10] 31) none
      have k6 := K5.out.on (grown_same hgr hga)
      have o6 := O5.out.on (grown_same hgr hga)
      have r6 := R5.out.on (grown_same hgr hga)
      clear K5 O5 R5 hgr hga y0 y1 y2 HSTEP
      go_upto_region 11 with (fail)
      obtain ⟨W7, hW⟩ : ∃ W7, w7.alloc (.cells #[.int .i64 at3, .slice V1 k3 d9, .slice V2 k4 d10] 31) = W7 := ⟨_, rfl⟩
      rw [hW] at k6 o6 r6 ⊢
      have K6 := shade k6; have O6 := shade o6; have R6 := shade r6
      clear k6 o6 r6 hW
      have y0 := O6.out.box.look 0; have y1 := O6.out.box.look 1; have y2 := O6.out.box.look 2
      simp at y0 y1 y2
      have z0 := R6.out.box.look 0; have z1 := R6.out.box.look 1; have z2 := R6.out.box.look 2
      simp at z0 z1 z2
      go_wp2_with fail
      refine (equalMachine_any at2 _ _ _ _ 4 8 _ _ _ _ u1 u2 _ (by omega) (by omega) R6.out.n1 R6.out.n2 O6.out.n1 O6.out.n2).mono ?_
      rintro e w8 ⟨rfl, hgr⟩
      have K7 := shade (K6.out.on hgr)
      have hq := HQ.out
      clear hgr K6 O6 R6 y0 y1 y2 z0 z1 z2 HQ
      go_wp2_with fail
      go_ret
      exact ⟨rfl, below_of_grown K7.out.low⟩

end Go.Proofs.YtkljjacailgdaaaDoor
