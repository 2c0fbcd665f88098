/- How long one instruction waits for another, by the model and by the program. -/
import Derived.Test.YtblnchcgeepemaaDoorG950
import Derived.Deep.RegionHeld3
namespace Go.Proofs.YtblnchcgeepemaaDoor
open Go.RowKit
set_option linter.unusedSimpArgs false
theorem uses_spec (c : Ins) (hc : vI c = true) (w : World) :
    Calls Tryd.prog 48 #[IV c.op c.d c.a c.b c.k] w fun e w' => e = .returned (.tuple #[.int .i64 (rdI c), .int .i64 (wrI c)]) ∧ Below w.heap.size w w' := by
  have h := vI_word hc
  exact specUsesOf_any c.op c.d c.a c.b c.k hc (wordN c.op.toList).toNat (by omega) (by omega) w
theorem uses_impl (c : Ins) (hc : vI c = true) (w : World) (hg : WT w) :
    Calls Tryd.prog 45 #[IV c.op c.d c.a c.b c.k] w fun e w' => e = .returned (.tuple #[.int .i64 (rdI c), .int .i64 (wrI c)]) ∧ Below w.heap.size w w' := by
  have h := vI_word hc
  exact UsesOf_yes c.op c.d c.a c.b c.k w hg hc (wordN c.op.toList).toNat (by omega) (by omega)
theorem wt_1 {a b : Ins} (h : (bits .and .i64 (wrI a) (rdI b) != 0) = true) : wtI a b = lat a.op.toList := if_pos h
theorem wt_2 {a b : Ins} (h : (bits .and .i64 (wrI a) (rdI b) != 0) = false) (h2 : (bits .and .i64 (wrI a) (wrI b) != 0) = true) : wtI a b = max 1 (lat a.op.toList - lat b.op.toList + 1) := by
  unfold wtI
  rw [if_neg (by rw [h]; simp), if_pos h2]
theorem wt_3 {a b : Ins} (h : (bits .and .i64 (wrI a) (rdI b) != 0) = false) (h2 : (bits .and .i64 (wrI a) (wrI b) != 0) = false) (h3 : ((bits .and .i64 (rdI a) (wrI b) != 0) || memB a.op.toList b.op.toList) = true) : wtI a b = 1 := by
  unfold wtI
  rw [if_neg (by rw [h]; simp), if_neg (by rw [h2]; simp), if_pos h3]
theorem wt_4 {a b : Ins} (h : (bits .and .i64 (wrI a) (rdI b) != 0) = false) (h2 : (bits .and .i64 (wrI a) (wrI b) != 0) = false) (h3 : ((bits .and .i64 (rdI a) (wrI b) != 0) || memB a.op.toList b.op.toList) = false) : wtI a b = 0 := by
  unfold wtI
  rw [if_neg (by rw [h]; simp), if_neg (by rw [h2]; simp), if_neg (by rw [h3]; simp)]

set_option maxRecDepth 100000 in
set_option maxHeartbeats 4000000 in
theorem waits_any (ca cb : Ins) (ha : vI ca = true) (hb : vI cb = true) (w : World) :
    Calls Tryd.prog 40 #[IV ca.op ca.d ca.a ca.b ca.k, IV cb.op cb.d cb.a cb.b cb.k] w fun e w' => e = .returned (.int .i64 (wtI ca cb)) ∧ w.grownBy w' none := by
  obtain ⟨opa, da, aa, ba, ka⟩ := ca
  obtain ⟨opb, db, ab, bb, kb⟩ := cb
  have HUA := shade (fun W => uses_spec _ ha W)
  have HUB := shade (fun W => uses_spec _ hb W)
  have HLA := shade (fun W => latency_any opa W)
  have HLB := shade (fun W => latency_any opb W)
  have q1 := lat_is opa.toList
  have q2 := lat_is opb.toList
  dsimp only at HUA HUB
  obtain ⟨v, hv⟩ : ∃ v, wtI ⟨opa, da, aa, ba, ka⟩ ⟨opb, db, ab, bb, kb⟩ = v := ⟨_, rfl⟩
  have G1 := shade (fun h => hv.symm.trans (wt_1 (a := ⟨opa, da, aa, ba, ka⟩) (b := ⟨opb, db, ab, bb, kb⟩) h))
  have G2 := shade (fun h h' => hv.symm.trans (wt_2 (a := ⟨opa, da, aa, ba, ka⟩) (b := ⟨opb, db, ab, bb, kb⟩) h h'))
  have G3 := shade (fun h h' h'' => hv.symm.trans (wt_3 (a := ⟨opa, da, aa, ba, ka⟩) (b := ⟨opb, db, ab, bb, kb⟩) h h' h''))
  have G4 := shade (fun h h' h'' => hv.symm.trans (wt_4 (a := ⟨opa, da, aa, ba, ka⟩) (b := ⟨opb, db, ab, bb, kb⟩) h h' h''))
  dsimp only at G1 G2 G3 G4
  rw [hv]
  clear hv ha hb
  generalize rdI ⟨opa, da, aa, ba, ka⟩ = ra at *
  generalize wrI ⟨opa, da, aa, ba, ka⟩ = wa at *
  generalize rdI ⟨opb, db, ab, bb, kb⟩ = rb at *
  generalize wrI ⟨opb, db, ab, bb, kb⟩ = wb at *
  generalize lat opa.toList = la at *
  generalize lat opb.toList = lb at *
  go_enter Tryd.func40, Tryd.ntmps40
  go_wp2_with fail
  refine (HUA.out _).mono ?_
  rintro e w1 ⟨rfl, hb1⟩
  have ha1 := (((Holds5.fresh w 32 #[.string opa, .int .i64 da, .int .i64 aa, .int .i64 ba, .int .i64 ka]).alloc (.cells #[.string opb, .int .i64 db, .int .i64 ab, .int .i64 bb, .int .i64 kb] 32)).below hb1 (by simp; omega))
  have hb1' := ((Holds5.fresh (w.alloc (.cells #[.string opa, .int .i64 da, .int .i64 aa, .int .i64 ba, .int .i64 ka] 32)) 32 #[.string opb, .int .i64 db, .int .i64 ab, .int .i64 bb, .int .i64 kb]).below hb1 (by simp))
  have HR1 := shade (grown_same (grown_same (World.grownBy_alloc w (.cells #[.string opa, .int .i64 da, .int .i64 aa, .int .i64 ba, .int .i64 ka] 32) none) (World.grownBy_alloc _ (.cells #[.string opb, .int .i64 db, .int .i64 ab, .int .i64 bb, .int .i64 kb] 32) none)) (grown_of_below hb1))
  rw [World.size_alloc] at hb1'
  have HA1 := shade ha1; have HB1 := shade hb1'
  clear ha1 hb1
  have p0 := hb1'.look 0; have p1 := hb1'.look 1; have p2 := hb1'.look 2; have p3 := hb1'.look 3; have p4 := hb1'.look 4
  simp at p0 p1 p2 p3 p4
  clear hb1'
  go_wp2_with fail
  refine (HUB.out _).mono ?_
  rintro e w2 ⟨rfl, hb2⟩
  have ha2 := HA1.out.below hb2 HA1.out.inside
  have hb2' := HB1.out.below hb2 HB1.out.inside
  have HR2 := shade (grown_same HR1.out (grown_of_below hb2))
  clear hb2 p0 p1 p2 p3 p4 HR1 HA1 HB1
  have p0 := ha2.look 0; have r0 := hb2'.look 0
  simp at p0 r0
  clear ha2 hb2'
  rcases c1 : (bits .and .i64 wa rb != 0) with _ | _
  · rcases c2 : (bits .and .i64 wa wb != 0) with _ | _
    · have E3 := shade (fun h => G3.out c1 c2 h)
      have E4 := shade (fun h => G4.out c1 c2 h)
      clear HLA HLB G1 G2 G3 G4
      unfold memB at E3 E4
      rcases e1 : (opa.toList == [115, 116]) with _ | _
      all_goals rcases e2 : (opb.toList == [115, 116]) with _ | _
      all_goals rcases e3 : (opa.toList == [108, 100]) with _ | _
      all_goals rcases e4 : (opb.toList == [108, 100]) with _ | _
      all_goals rcases c3 : (bits .and .i64 ra wb != 0) with _ | _
      all_goals
        first
          | (have HV := shade (E3.out (by rw [c3, e1, e2, e3, e4]; rfl)))
          | (have HV := shade (E4.out (by rw [c3, e1, e2, e3, e4]; rfl)))
        clear E3 E4
        go_wp2_with fail
        go_ret
        exact ⟨(by rw [HV.out]; rfl), (by first | exact HR2.out | exact grown_same HR2.out (grown_drew1 _))⟩
    · have HV := shade (G2.out c1 c2)
      clear G1 G2 G3 G4
      have HR3 := shade (fun (W : World) (h : w2.grownBy W none) => grown_same HR2.out h)
      rcases q1 with rfl | rfl | rfl
      all_goals rcases q2 with rfl | rfl | rfl
      all_goals
        go_upto_region 6 with (fail)
        go_region_held3 (fun w' => w'.cell? ⟨w.heap.size, 0, none⟩ = some (.string opa) ∧ w'.cell? ⟨w.heap.size + 1, 0, none⟩ = some (.string opb))
          (exact ⟨p0, r0⟩)
          (first | (go_at_call 39; refine (HLA.out _).mono ?_; rintro e w3 ⟨rfl, rfl⟩) | (go_at_call 39; refine (HLB.out _).mono ?_; rintro e w3 ⟨rfl, rfl⟩))
      all_goals
        go_wp2_with fail
        go_ret
        exact ⟨(by rw [HV.out]; rfl), (by first | exact HR2.out | exact grown_same HR2.out (grown_drew1 _))⟩
  · have HV := shade (G1.out c1)
    clear G1 G2 G3 G4
    go_wp2_with fail
    refine (HLA.out _).mono ?_
    rintro e w3 ⟨rfl, rfl⟩
    go_wp2_with fail
    go_ret
    exact ⟨(by rw [HV.out]; rfl), (by first | exact HR2.out | exact grown_same HR2.out (grown_drew1 _))⟩

end Go.Proofs.YtblnchcgeepemaaDoor
