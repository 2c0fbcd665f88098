/- How long one instruction waits for another, by the program. -/
import Derived.Test.YtblnchcgeepemaaDoorW952
namespace Go.Proofs.YtblnchcgeepemaaDoor
open Go.RowKit
set_option linter.unusedSimpArgs false
set_option maxRecDepth 100000 in
set_option maxHeartbeats 4000000 in
theorem meets_any (opa : ByteArray) (da aa ba ka : Int) (opb : ByteArray) (db ab bb kb : Int) (w : World) (hg : WT w) :
    Calls Tryd.prog 46 #[IV opa da aa ba ka, IV opb db ab bb kb] w fun e w' => e = .returned (.bool (memB opa.toList opb.toList)) ∧ w.grownBy w' none := by
  have HG := shade hg
  have h5 := word5 opa.toList
  have h6 := word6 opa.toList
  have g5 := word5 opb.toList
  have g6 := word6 opb.toList
  have HW := shade (fun op W (hW : WT W) => wordOf_any op W hW)
  have hx : (opa.toList == [108, 100]) = true → (opa.toList == [115, 116]) = false := fun h => by rw [beq_iff_eq.1 h]; rfl
  unfold memB
  generalize (opa.toList == [108, 100]) = x5 at *
  generalize (opa.toList == [115, 116]) = x6 at *
  generalize (opb.toList == [108, 100]) = y5 at *
  generalize (opb.toList == [115, 116]) = y6 at *
  clear hg
  have hc : (w.alloc (.cells #[.string opa, .int .i64 da, .int .i64 aa, .int .i64 ba, .int .i64 ka] 32)).grownBy ((w.alloc (.cells #[.string opa, .int .i64 da, .int .i64 aa, .int .i64 ba, .int .i64 ka] 32)).alloc (.cells #[.string opb, .int .i64 db, .int .i64 ab, .int .i64 bb, .int .i64 kb] 32)) none := World.grownBy_alloc _ _ none
  have HR := shade (grown_same (World.grownBy_alloc w (.cells #[.string opa, .int .i64 da, .int .i64 aa, .int .i64 ba, .int .i64 ka] 32) none) hc)
  clear hc
  rcases x5 with _ | _
  · rcases x6 with _ | _
    · clear hx g5 g6
      go_enter Tryd.func46, Tryd.ntmps46
      go_wp2_with fail
      refine (HW.out opa _ ((HG.out.alloc _).alloc _)).mono ?_
      rintro e w2 ⟨rfl, rfl⟩
      go_wp2_with fail
      go_ret
      exact ⟨rfl, HR.out⟩
    · clear hx
      rcases y6 with _ | _
      · rcases y5 with _ | _
        all_goals
          go_enter Tryd.func46, Tryd.ntmps46
          go_wp2_with fail
          refine (HW.out opa _ ((HG.out.alloc _).alloc _)).mono ?_
          rintro e w2 ⟨rfl, rfl⟩
          go_wp2_with fail
          refine (HW.out opb _ ((HG.out.alloc _).alloc _)).mono ?_
          rintro e w2 ⟨rfl, rfl⟩
          go_wp2_with fail
          refine (HW.out opb _ ((HG.out.alloc _).alloc _)).mono ?_
          rintro e w2 ⟨rfl, rfl⟩
          go_wp2_with fail
          go_ret
          exact ⟨rfl, HR.out⟩
      · clear g5
        go_enter Tryd.func46, Tryd.ntmps46
        go_wp2_with fail
        refine (HW.out opa _ ((HG.out.alloc _).alloc _)).mono ?_
        rintro e w2 ⟨rfl, rfl⟩
        go_wp2_with fail
        refine (HW.out opb _ ((HG.out.alloc _).alloc _)).mono ?_
        rintro e w2 ⟨rfl, rfl⟩
        go_wp2_with fail
        go_ret
        exact ⟨rfl, HR.out⟩
  · obtain rfl : x6 = false := hx rfl
    clear hx
    rcases y6 with _ | _
    all_goals
      go_enter Tryd.func46, Tryd.ntmps46
      go_wp2_with fail
      refine (HW.out opa _ ((HG.out.alloc _).alloc _)).mono ?_
      rintro e w2 ⟨rfl, rfl⟩
      go_wp2_with fail
      refine (HW.out opb _ ((HG.out.alloc _).alloc _)).mono ?_
      rintro e w2 ⟨rfl, rfl⟩
      go_wp2_with fail
      go_ret
      exact ⟨rfl, HR.out⟩

theorem ten_grown {w w' : World} {g h : Nat} {x0 x1 x2 x3 x4 y0 y1 y2 y3 y4 : Value} (hg : w.grownBy w' none) (H : w.cell? ⟨g, 0, none⟩ = some x0 ∧ w.cell? ⟨g, 1, none⟩ = some x1 ∧ w.cell? ⟨g, 2, none⟩ = some x2 ∧ w.cell? ⟨g, 3, none⟩ = some x3 ∧ w.cell? ⟨g, 4, none⟩ = some x4 ∧ w.cell? ⟨h, 0, none⟩ = some y0 ∧ w.cell? ⟨h, 1, none⟩ = some y1 ∧ w.cell? ⟨h, 2, none⟩ = some y2 ∧ w.cell? ⟨h, 3, none⟩ = some y3 ∧ w.cell? ⟨h, 4, none⟩ = some y4) : w'.cell? ⟨g, 0, none⟩ = some x0 ∧ w'.cell? ⟨g, 1, none⟩ = some x1 ∧ w'.cell? ⟨g, 2, none⟩ = some x2 ∧ w'.cell? ⟨g, 3, none⟩ = some x3 ∧ w'.cell? ⟨g, 4, none⟩ = some x4 ∧ w'.cell? ⟨h, 0, none⟩ = some y0 ∧ w'.cell? ⟨h, 1, none⟩ = some y1 ∧ w'.cell? ⟨h, 2, none⟩ = some y2 ∧ w'.cell? ⟨h, 3, none⟩ = some y3 ∧ w'.cell? ⟨h, 4, none⟩ = some y4 := by
  obtain ⟨h0, h1, h2, h3, h4, h5, h6, h7, h8, h9⟩ := H
  exact ⟨hg.cell h0 (by intro e; cases e), hg.cell h1 (by intro e; cases e), hg.cell h2 (by intro e; cases e), hg.cell h3 (by intro e; cases e), hg.cell h4 (by intro e; cases e), hg.cell h5 (by intro e; cases e), hg.cell h6 (by intro e; cases e), hg.cell h7 (by intro e; cases e), hg.cell h8 (by intro e; cases e), hg.cell h9 (by intro e; cases e)⟩

set_option maxRecDepth 100000 in
set_option maxHeartbeats 8000000 in
theorem waitOf_any (ca cb : Ins) (ha : vI ca = true) (hb : vI cb = true) (w : World) (hg : WT w) :
    Calls Tryd.prog 36 #[IV cb.op cb.d cb.a cb.b cb.k, IV ca.op ca.d ca.a ca.b ca.k] w fun e w' => e = .returned (.int .i64 (wtI ca cb)) ∧ w.grownBy w' none := by
  obtain ⟨opa, da, aa, ba, ka⟩ := ca
  obtain ⟨opb, db, ab, bb, kb⟩ := cb
  have HG := shade hg
  have HUA := shade (fun W (hW : WT W) => uses_impl _ ha W hW)
  have HUB := shade (fun W (hW : WT W) => uses_impl _ hb W hW)
  have HTA := shade (fun W (hW : WT W) => ITicksOf_any opa da aa ba ka W hW)
  have HTB := shade (fun W (hW : WT W) => ITicksOf_any opb db ab bb kb W hW)
  have HMM := shade (fun W (hW : WT W) => meets_any opb db ab bb kb opa da aa ba ka W hW)
  have ea : tkI ⟨opa, da, aa, ba, ka⟩ = lat opa.toList := if_pos ha
  have eb : tkI ⟨opb, db, ab, bb, kb⟩ = lat opb.toList := if_pos hb
  rw [ea] at HTA
  rw [eb] at HTB
  have q1 := lat_is opa.toList
  have q2 := lat_is opb.toList
  dsimp only at HUA HUB
  rw [memB_comm] at HMM
  obtain ⟨v, hv⟩ : ∃ v, wtI ⟨opa, da, aa, ba, ka⟩ ⟨opb, db, ab, bb, kb⟩ = v := ⟨_, rfl⟩
  have G1 := shade (fun h => hv.symm.trans (wt_1 (a := ⟨opa, da, aa, ba, ka⟩) (b := ⟨opb, db, ab, bb, kb⟩) h))
  have G2 := shade (fun h h' => hv.symm.trans (wt_2 (a := ⟨opa, da, aa, ba, ka⟩) (b := ⟨opb, db, ab, bb, kb⟩) h h'))
  have G3 := shade (fun h h' h'' => hv.symm.trans (wt_3 (a := ⟨opa, da, aa, ba, ka⟩) (b := ⟨opb, db, ab, bb, kb⟩) h h' h''))
  have G4 := shade (fun h h' h'' => hv.symm.trans (wt_4 (a := ⟨opa, da, aa, ba, ka⟩) (b := ⟨opb, db, ab, bb, kb⟩) h h' h''))
  dsimp only at G1 G2 G3 G4
  rw [hv]
  rw [and_comm_i] at G1 G2 G3 G4
  rw [and_comm_i (wrI ⟨opa, da, aa, ba, ka⟩) (wrI ⟨opb, db, ab, bb, kb⟩)] at G2 G3 G4
  rw [and_comm_i (rdI ⟨opa, da, aa, ba, ka⟩) (wrI ⟨opb, db, ab, bb, kb⟩)] at G3 G4
  clear hv ha hb hg
  generalize memB opa.toList opb.toList = mm at *
  generalize rdI ⟨opa, da, aa, ba, ka⟩ = ra at *
  generalize wrI ⟨opa, da, aa, ba, ka⟩ = wa at *
  generalize rdI ⟨opb, db, ab, bb, kb⟩ = rb at *
  generalize wrI ⟨opb, db, ab, bb, kb⟩ = wb at *
  generalize lat opa.toList = la at *
  generalize lat opb.toList = lb at *
  go_enter Tryd.func36, Tryd.ntmps36
  go_wp2_with fail
  refine (HUB.out _ ((HG.out.alloc _).alloc _)).mono ?_
  rintro e w1 ⟨rfl, hb1⟩
  have hb0 := (((Holds5.fresh w 32 #[.string opb, .int .i64 db, .int .i64 ab, .int .i64 bb, .int .i64 kb]).alloc (.cells #[.string opa, .int .i64 da, .int .i64 aa, .int .i64 ba, .int .i64 ka] 32)).below hb1 (by simp; omega))
  have ha0 := ((Holds5.fresh (w.alloc (.cells #[.string opb, .int .i64 db, .int .i64 ab, .int .i64 bb, .int .i64 kb] 32)) 32 #[.string opa, .int .i64 da, .int .i64 aa, .int .i64 ba, .int .i64 ka]).below hb1 (by simp))
  have HR1 := shade (grown_same (grown_same (World.grownBy_alloc w (.cells #[.string opb, .int .i64 db, .int .i64 ab, .int .i64 bb, .int .i64 kb] 32) none) (World.grownBy_alloc _ (.cells #[.string opa, .int .i64 da, .int .i64 aa, .int .i64 ba, .int .i64 ka] 32) none)) (grown_of_below hb1))
  rw [World.size_alloc] at ha0
  have HA1 := shade ha0; have HB1 := shade hb0
  clear hb0 hb1
  have p0 := ha0.look 0; have p1 := ha0.look 1; have p2 := ha0.look 2; have p3 := ha0.look 3; have p4 := ha0.look 4
  simp at p0 p1 p2 p3 p4
  clear ha0
  go_wp2_with fail
  refine (HUA.out _ (HG.out.below (below_of_grown HR1.out) (wt_lt HG.out))).mono ?_
  rintro e w2 ⟨rfl, hb2⟩
  have ha2 := HA1.out.below hb2 HA1.out.inside
  have hb2' := HB1.out.below hb2 HB1.out.inside
  have HR2 := shade (grown_same HR1.out (grown_of_below hb2))
  have HW2 := shade (HG.out.below (below_of_grown HR2.out) (wt_lt HG.out))
  clear hb2 p0 p1 p2 p3 p4 HR1 HA1 HB1 HUA HUB
  have p0 := ha2.look 0; have p1 := ha2.look 1; have p2 := ha2.look 2; have p3 := ha2.look 3; have p4 := ha2.look 4
  simp at p0 p1 p2 p3 p4
  have r0 := hb2'.look 0; have r1 := hb2'.look 1; have r2 := hb2'.look 2; have r3 := hb2'.look 3; have r4 := hb2'.look 4
  simp at r0 r1 r2 r3 r4
  clear ha2 hb2'
  rcases c1 : (bits .and .i64 rb wa != 0) with _ | _
  · rcases c2 : (bits .and .i64 wb wa != 0) with _ | _
    · have E3 := shade (fun h => G3.out c1 c2 h)
      have E4 := shade (fun h => G4.out c1 c2 h)
      clear HTA HTB G1 G2 G3 G4
      rcases c3 : (bits .and .i64 wb ra != 0) with _ | _
      · rw [c3] at E3 E4
        rcases mm with _ | _
        · have HV := shade (E4.out rfl)
          clear E3 E4
          go_wp2_with fail
          refine (HMM.out _ HW2.out).mono ?_
          rintro e w3 ⟨rfl, hg3⟩
          have HR3 := shade (grown_same HR2.out hg3)
          clear hg3
          go_wp2_with fail
          go_ret
          exact ⟨(by rw [HV.out]; rfl), HR3.out⟩
        · have HV := shade (E3.out rfl)
          clear E3 E4
          go_wp2_with fail
          refine (HMM.out _ HW2.out).mono ?_
          rintro e w3 ⟨rfl, hg3⟩
          have HR3 := shade (grown_same HR2.out hg3)
          clear hg3
          go_wp2_with fail
          go_ret
          exact ⟨(by rw [HV.out]; rfl), HR3.out⟩
      · rw [c3, Bool.true_or] at E3
        have HV := shade (E3.out rfl)
        clear E3 E4 HMM
        go_wp2_with fail
        go_ret
        exact ⟨(by rw [HV.out]; rfl), HR2.out⟩
    · have HV := shade (G2.out c1 c2)
      clear G1 G2 G3 G4 HMM
      have HT := shade (fun op d a b k W (hW : WT W) => ITicksOf_any op d a b k W hW)
      have HC := shade (ten_grown (grown_drew1 w2) ⟨r0, r1, r2, r3, r4, p0, p1, p2, p3, p4⟩)
      have HR := shade (grown_same HR2.out (grown_drew1 w2))
      have HWc := shade (HW2.out.drew)
      have EA := shade ea; have EB := shade eb
      clear HTA HTB p0 p1 p2 p3 p4 r0 r1 r2 r3 r4 ea eb
      rcases q1 with rfl | rfl | rfl
      all_goals rcases q2 with rfl | rfl | rfl
      all_goals
        go_upto_region 6 with (fail)
        go_region_held3 (fun w' => w'.cell? ⟨w.heap.size, 0, none⟩ = some (.string opb) ∧ w'.cell? ⟨w.heap.size, 1, none⟩ = some (.int .i64 db) ∧ w'.cell? ⟨w.heap.size, 2, none⟩ = some (.int .i64 ab) ∧ w'.cell? ⟨w.heap.size, 3, none⟩ = some (.int .i64 bb) ∧ w'.cell? ⟨w.heap.size, 4, none⟩ = some (.int .i64 kb) ∧ w'.cell? ⟨w.heap.size + 1, 0, none⟩ = some (.string opa) ∧ w'.cell? ⟨w.heap.size + 1, 1, none⟩ = some (.int .i64 da) ∧ w'.cell? ⟨w.heap.size + 1, 2, none⟩ = some (.int .i64 aa) ∧ w'.cell? ⟨w.heap.size + 1, 3, none⟩ = some (.int .i64 ba) ∧ w'.cell? ⟨w.heap.size + 1, 4, none⟩ = some (.int .i64 ka))
          (exact HC.out)
          ((go_at_call 10; refine (HT.out _ _ _ _ _ _ HWc.out).mono ?_; rintro e w3 ⟨he, hg3⟩; (first | rw [EA.out] at he | rw [EB.out] at he); subst he; have HR := shade (grown_same HR.out hg3); have HWc := shade (HG.out.below (below_of_grown HR.out) (wt_lt HG.out)); have HC := shade (ten_grown hg3 HC.out); clear hg3))
      all_goals
        go_wp2_with fail
        go_ret
        exact ⟨(by rw [HV.out]; rfl), HR.out⟩
  · have HV := shade (G1.out c1)
    clear G1 G2 G3 G4 HMM HTB
    go_wp2_with fail
    refine (HTA.out _ HW2.out).mono ?_
    rintro e w3 ⟨rfl, hg3⟩
    have HR3 := shade (grown_same HR2.out hg3)
    clear hg3
    go_wp2_with fail
    go_ret
    exact ⟨(by rw [HV.out]; rfl), HR3.out⟩

end Go.Proofs.YtblnchcgeepemaaDoor
