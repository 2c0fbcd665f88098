/- PlacesOf answers as its model for the drawn program, machine and fuel, and its answers are told by the trace. -/
import Derived.Test.YtbcncifadklkgaaDoorG130
import Derived.Test.YtbcncifadklkgaaDoorG100
import Derived.Test.YtbcncifadklkgaaDoorG96
namespace Go.Proofs.YtbcncifadklkgaaDoor
open Go.RowKit
set_option linter.unusedSimpArgs false
theorem places_told (n : Nat) (F : Nat → Ins) (at' : Int) (n1 n2 : Nat) (f1 f2 : Nat → Int) (fuel : Int) (hn : n ≤ 9223372036854775807) (hn1 : n1 ≤ 9223372036854775807) (hn2 : n2 ≤ 9223372036854775807) :
    ∃ (K : Nat) (g : Nat → Sta), K ≤ 300 ∧ (∀ i, i < K → vcB n F = true ∧ OkS (g i) ∧ sHalt n F (g i) = false) ∧ (∀ (A : Option Addr) (cap : Nat) (A1 : Option Addr) (c1 : Nat) (A2 : Option Addr) (c2 : Nat) (W : World), Code W A n F → Nums W A1 n1 f1 → Nums W A2 n2 f2 → Calls Tryd.prog 31 #[.slice A n cap, MV at' A1 n1 c1 A2 n2 c2, .int .i64 fuel] W (NumRes (plL F g K).length (fun j => (plL F g K).getD j 0) W)) ∧
      (∀ (A : Option Addr) (cap : Nat) (A1 : Option Addr) (c1 : Nat) (A2 : Option Addr) (c2 : Nat) (W : World), WT W → Code W A n F → Nums W A1 n1 f1 → Nums W A2 n2 f2 → Calls Tryd.prog 30 #[.slice A n cap, MV at' A1 n1 c1 A2 n2 c2, .int .i64 fuel] W (NumRes (plL F g K).length (fun j => (plL F g K).getD j 0) W)) ∧
      (∀ (A : Option Addr) (cap : Nat) (A1 : Option Addr) (c1 : Nat) (A2 : Option Addr) (c2 : Nat) (W : World), WT W → Code W A n F → Nums W A1 n1 f1 → Nums W A2 n2 f2 → Calls Tryd.prog 28 #[.slice A n cap, MV at' A1 n1 c1 A2 n2 c2, .int .i64 fuel] W (NumRes K (fun j => (g j).at') W)) := by
  obtain ⟨K, g, hK, hRun, hcase⟩ := run_told n F at' n1 n2 f1 f2 fuel hn
  have hst : ∀ i, i < K → vcB n F = true ∧ OkS (g i) ∧ sHalt n F (g i) = false := fun i hi => by
    rcases hcase with ⟨hr, rfl⟩ | ⟨hr, rfl, rfl, rfl, hre⟩
    · omega
    · obtain ⟨hv, hm, hf0, hf1⟩ := runB_parts hr
      exact ⟨hv, (okS_of hm).run hv i (fun j hj => hre.go j (by omega)), hre.go i hi⟩
  refine ⟨K, g, hK, hst, fun A cap A1 c1 A2 c2 W hC h1 h2 => ?_, fun A cap A1 c1 A2 c2 W hg hC h1 h2 => ?_, fun A cap A1 c1 A2 c2 W hg hC h1 h2 => ?_⟩
  · rcases hcase with ⟨hr, rfl⟩ | ⟨hr, rfl, rfl, rfl, hre⟩
    · exact SpecPlacesOf_no A n cap F at' A1 n1 c1 A2 n2 c2 f1 f2 fuel W hn hC h1 h2 hn1 hn2 hr _
    · obtain ⟨hv, hm, hf0, hf1⟩ := runB_parts hr
      obtain ⟨fu, rfl⟩ := Int.eq_ofNat_of_zero_le hf0
      rw [Int.toNat_natCast] at hre
      obtain ⟨b1, o1, rfl, _⟩ := h1.resolve_left (by omega)
      obtain ⟨b2, o2, rfl, _⟩ := h2.resolve_left (by omega)
      refine (SpecPlacesOf_yes A n cap F ⟨at', f1, f2⟩ b1 o1 c1 b2 o2 c2 fu W hn hC h1 h2 hv hm (by omega)).mono ?_
      rintro e w' ⟨k, hk, h⟩
      obtain rfl := hk.uniq hre
      exact h
  · exact PlacesOf_res A n cap at' A1 n1 c1 A2 n2 c2 fuel F K g W hg hC hK hst fun W' hW => hRun A cap A1 c1 A2 c2 W' (hg.below (below_of_grown hW) (wt_lt hg)) (hC.on hW) (h1.on hW) (h2.on hW)
  · exact TraceOf_res A n cap at' A1 n1 c1 A2 n2 c2 fuel K g W hK fun W' hW => hRun A cap A1 c1 A2 c2 W' (hg.below (below_of_grown hW) (wt_lt hg)) (hC.on hW) (h1.on hW) (h2.on hW)
theorem plL_mono (F : Nat → Ins) (g : Nat → Sta) (i : Nat) : ∀ K, i ≤ K → ∃ l, plL F g K = plL F g i ++ l := by
  intro K
  induction K with
  | zero =>
    intro h
    obtain rfl : i = 0 := by omega
    exact ⟨[], (List.append_nil _).symm⟩
  | succ K ih =>
    intro h
    by_cases e : i = K + 1
    · rw [e]
      exact ⟨[], (List.append_nil _).symm⟩
    · obtain ⟨l, hl⟩ := ih (by omega)
      refine ⟨l ++ plOpt F (g K), ?_⟩
      show plL F g K ++ plOpt F (g K) = _
      rw [hl, List.append_assoc]
theorem plL_at (F : Nat → Ins) (g : Nat → Sta) (i K : Nat) (x : Int) (hi : i < K) (hx : plOpt F (g i) = [x]) : (plL F g i).length < (plL F g K).length ∧ (plL F g K).getD (plL F g i).length 0 = x ∧ (plL F g (i + 1)).length = (plL F g i).length + 1 := by
  obtain ⟨l, hl⟩ := plL_mono F g (i + 1) K (by omega)
  have h1 : plL F g (i + 1) = plL F g i ++ [x] := by
    show plL F g i ++ plOpt F (g i) = _
    rw [hx]
  rw [h1] at hl
  refine ⟨?_, ?_, ?_⟩
  · rw [hl, List.length_append, List.length_append]
    simp only [List.length_singleton]
    omega
  · rw [hl]
    simp
  · rw [h1]
    simp
theorem equalInts_row (lo1 hi1 lo2 hi2 K : Nat) (v1 v2 : Value) (f : Nat → Int) (w : World) (hK : K ≤ 300) (h1 : RowO w lo1 hi1 3 v1 K (numL K f)) (h2 : RowO w lo2 hi2 3 v2 K (numL K f)) :
    Calls Tryd.prog 19 #[v1, v2] w fun e w' => e = .returned (.bool true) ∧ w.grownBy w' none := by
  obtain ⟨A1, c1, rfl, hn1⟩ := h1.nums
  obtain ⟨A2, c2, rfl, hn2⟩ := h2.nums
  refine (equalInts_any A1 A2 c1 c2 K f f w (by omega) hn1 hn2 (fun _ _ => rfl)).mono ?_
  rintro e w' ⟨rfl, m, rfl⟩
  exact ⟨rfl, grown_drewN (grown_refl _ _) _⟩
set_option maxRecDepth 100000 in
set_option maxHeartbeats 16000000 in
theorem fnPlacesOf_walk (A : Option Addr) (n cap : Nat) (zs : List Int) (w : World) (hg : WT w) (hB : Bys w A n cap zs) :
    Calls Tryd.prog 6 #[.slice A n cap] w fun e w' => e = .returned (.bool true) ∧ Below w.heap.size w w' := by
  have HG := shade hg
  have HBy := shade hB
  have hcap := hB.fits
  have hbig := hB.big
  unfold maxLen at hbig
  clear hg hB
  by_cases hl : 1048576 < n
  · go_enter Tryd.func6, Tryd.ntmps6
    go_wp2_with fail
    go_ret
    exact ⟨rfl, rfl, rfl, rfl, Nat.le_refl _, fun _ _ => rfl⟩
  · have HD := shade (DrawPlacesOf_any A n cap zs w HBy.out)
    go_enter Tryd.func6, Tryd.ntmps6
    go_wp2_with fail
    refine HD.out.mono ?_
    rintro e w1 ⟨Al, k, c, F, at', A1, n1, c1, A2, n2, c2, f1, f2, fu, rfl, hk, hC, hN1, hN2, ⟨hn1, hn2⟩, hfu, hgr⟩
    obtain ⟨K, g, hK, hst, HSp, HIm, HTr⟩ := places_told k F at' n1 n2 f1 f2 fu (by omega) (by omega) (by omega)
    have HST := shade hst; have HSP := shade HSp; have HIM := shade HIm; have HTR := shade HTr
    have hga := World.grownBy_alloc w1 (.cells #[.int .i64 at', .slice A1 n1 c1, .slice A2 n2 c2] 31) none
    have hX : Holds5 (w1.alloc (.cells #[.int .i64 at', .slice A1 n1 c1, .slice A2 n2 c2] 31)) w1.heap.size 31 #[.int .i64 at', .slice A1 n1 c1, .slice A2 n2 c2] := Holds5.fresh w1 31 #[.int .i64 at', .slice A1 n1 c1, .slice A2 n2 c2]
    have HC := shade (hC.on hga); have HN1 := shade (hN1.on hga); have HN2 := shade (hN2.on hga); have HL := shade (grown_same hgr hga)
    clear hst HSp HIm HTr hC hN1 hN2 hgr HD
    go_upto_region 4 with (fail)
    obtain ⟨W1, hW⟩ : ∃ W1, w1.alloc (.cells #[.int .i64 at', .slice A1 n1 c1, .slice A2 n2 c2] 31) = W1 := ⟨_, rfl⟩
    rw [hW] at HC HN1 HN2 HL hX ⊢
    have x0 := hX.look 0; have x1 := hX.look 1; have x2 := hX.look 2
    simp at x0 x1 x2
    have HX := shade hX
    clear hX hga hW
    go_wp2_with fail
    refine (HIM.out _ _ _ _ _ _ _ (HG.out.below (below_of_grown HL.out) (wt_lt HG.out)) HC.out HN1.out HN2.out).mono ?_
    rintro e w2 h5
    obtain ⟨v0, rfl, hR, hgr⟩ := NumRes.row h5
    have HX2 := shade (HX.out.grown hgr (by intro e; cases e)); have HC2 := shade (HC.out.on hgr); have HN12 := shade (HN1.out.on hgr); have HN22 := shade (HN2.out.on hgr); have HL2 := shade (grown_same HL.out hgr); have HV := shade hR
    obtain ⟨A5, c5, rfl, -⟩ := hR.nums
    clear x0 x1 x2 hgr hR h5 HX HC HN1 HN2 HL
    have x0 := HX2.out.look 0; have x1 := HX2.out.look 1; have x2 := HX2.out.look 2
    simp at x0 x1 x2
    go_wp2_with fail
    refine (HSP.out _ _ _ _ _ _ _ HC2.out HN12.out HN22.out).mono ?_
    rintro e w3 h5
    obtain ⟨v1, rfl, hR, hgr⟩ := NumRes.row h5
    have HX3 := shade (HX2.out.grown hgr (by intro e; cases e)); have HC3 := shade (HC2.out.on hgr); have HN13 := shade (HN12.out.on hgr); have HN23 := shade (HN22.out.on hgr); have HL3 := shade (grown_same HL2.out hgr); have HV3 := shade (HV.out.grown hgr); have HW3 := shade hR
    clear x0 x1 x2 hgr hR h5 HX2 HC2 HN12 HN22 HL2 HV
    have hKL : (plL F g K).length ≤ 300 := Nat.le_trans (plL_le F g K) hK
    go_wp2_with fail
    refine (equalInts_row _ _ _ _ _ _ _ _ _ hKL HV3.out HW3.out).mono ?_
    rintro e w4 ⟨rfl, hgr⟩
    have HX4 := shade (HX3.out.grown hgr (by intro e; cases e)); have HC4 := shade (HC3.out.on hgr); have HN14 := shade (HN13.out.on hgr); have HN24 := shade (HN23.out.on hgr); have HL4 := shade (grown_same HL3.out hgr); have HV4 := shade (HV3.out.grown hgr)
    clear hgr HX3 HC3 HN13 HN23 HL3 HV3 HW3
    have x0 := HX4.out.look 0; have x1 := HX4.out.look 1; have x2 := HX4.out.look 2
    simp at x0 x1 x2
    by_cases h0 : (plL F g K).length = 0
    · have h0b : (((plL F g K).length : Int) == 0) = true := by rw [h0]; rfl
      clear h0
      go_wp2_with fail
      refine (HSP.out _ _ _ _ _ _ _ HC4.out HN14.out HN24.out).mono ?_
      rintro e w5 h5
      obtain ⟨v2, rfl, hR, hgr⟩ := NumRes.row h5
      have HL5 := shade (grown_same HL4.out hgr); have HV5 := shade (HV4.out.grown hgr); have HW5 := shade hR
      clear hgr hR h5
      go_wp2_with fail
      refine (equalInts_row _ _ _ _ _ _ _ _ _ hKL HV5.out HW5.out).mono ?_
      rintro e w6 ⟨rfl, hgr⟩
      have HL6 := shade (grown_same HL5.out hgr)
      clear hgr
      go_wp2_with fail
      go_ret
      exact ⟨rfl, below_of_grown HL6.out⟩
    · have h0b : (((plL F g K).length : Int) == 0) = false := by rw [beq_eq_false_iff_ne]; omega
      go_wp2_with fail
      refine (HTR.out _ _ _ _ _ _ _ (HG.out.below (below_of_grown HL4.out) (wt_lt HG.out)) HC4.out HN14.out HN24.out).mono ?_
      rintro e w5 h5
      obtain ⟨v2, rfl, hR, hgr⟩ := NumRes.row h5
      have HC5 := shade (HC4.out.on hgr); have HL5 := shade (grown_same HL4.out hgr); have HV5 := shade (HV4.out.grown hgr)
      obtain ⟨A6, c6, rfl, hT⟩ := hR.nums
      have HT := shade hT
      have HV5N := shade (show Nums w5 A5 (plL F g K).length (fun j => (plL F g K).getD j 0) from by
        obtain ⟨A8, c8, e8, hn8⟩ := HV5.out.nums
        injection e8 with e8 _ _
        rw [e8]
        exact hn8)
      clear hgr hR h5 hT HX4 HC4 HN14 HN24 HL4 HV4 x0 x1 x2
      go_wp2_with fail
      have hKB : K ≤ 300 := hK
      go_loopw [8, 9] (fun q r wr => ∃ i : Nat, i ≤ K ∧ r = .int .i64 i ∧ q = .int .i64 (plL F g i).length ∧ wr = w5) (fun _ r _ => K - (intOf r).toNat)
      case atStart => exact ⟨0, Nat.zero_le _, rfl, rfl, rfl⟩
      case round =>
        obtain ⟨i, hi, rfl, rfl, rfl⟩ := hrel
        by_cases hiK : i < K
        · obtain ⟨hv, hok, hh⟩ := HST.out i hiK
          obtain ⟨hlt, _⟩ := halt_parts hh
          obtain ⟨h40, ⟨rr1, rr2, rr3⟩, ⟨kk0, kk1⟩, hw, h9, hF⟩ := ins_parts hv hlt
          have hn5 : nOf F (g i).at' = 5 ↔ ((F (g i).at'.toNat).op.toList == [108, 100]) = true := by rw [ld_word]; omega
          have hn6 : nOf F (g i).at' = 6 ↔ ((F (g i).at'.toNat).op.toList == [115, 116]) = true := by rw [st_word]; omega
          obtain ⟨m, hm⟩ := Int.eq_ofNat_of_zero_le hok.lo
          obtain ⟨bt, ot, rfl, -⟩ := HT.out.resolve_left (by omega)
          have y0 := HT.out.cell hiK
          obtain ⟨bc, oc, rfl, -⟩ := HC5.out.resolve_left (by omega)
          rw [hm] at hlt y0 hn5 hn6
          rw [Int.toNat_natCast] at hlt hn5 hn6
          obtain ⟨q0, -, -, -, -⟩ := HC5.out.five hlt
          obtain ⟨op, hop⟩ : ∃ op, (F m).op = op := ⟨_, rfl⟩
          rw [hop] at q0 hn5 hn6
          have hm40 : m < 40 := by omega
          have HN5 := shade hn5
          have HN6 := shade hn6
          have hpl := placeN_lt (g i).r (raOf F (g i).at') (kOf F (g i).at')
          obtain ⟨pl, hpl2⟩ : ∃ pl : Nat, placeN (g i).r (raOf F (g i).at') (kOf F (g i).at') = pl := ⟨_, rfl⟩
          rw [hpl2] at hpl
          have HPL := shade hpl2
          have HM := shade hm
          clear hv hok hh hw h9 hF hn5 hn6 hop rr1 rr2 rr3 kk0 kk1 h40 hm hpl2
          rcases e1 : (op.toList == [108, 100]) with _ | _
          · rcases e2 : (op.toList == [115, 116]) with _ | _
            · have hopt : plOpt F (g i) = [] := by
                unfold plOpt
                rw [if_neg (fun e => by rw [HM.out] at e; rw [HN5.out.1 e] at e1; cases e1), if_neg (fun e => by rw [HM.out] at e; rw [HN6.out.1 e] at e2; cases e2)]
              have hlen : (plL F g (i + 1)).length = (plL F g i).length := by
                show (plL F g i ++ plOpt F (g i)).length = _
                rw [hopt, List.append_nil]
              have HLEN := shade hlen
              clear hopt hlen
              go_wp2
              go_roundw
              case rel => exact ⟨i + 1, by omega, by go_num, by rw [HLEN.out], by trivial⟩
              case measure => simp [intOf]; omega
            · have hopt : plOpt F (g i) = [(pl : Int) + 8] := by
                unfold plOpt
                rw [if_neg (fun e => by rw [HM.out] at e; rw [HN5.out.1 e] at e1; cases e1), if_pos (by rw [HM.out]; exact HN6.out.2 e2), HPL.out]
              obtain ⟨hlt2, hget, hlen⟩ := plL_at F g i K _ hiK hopt
              obtain ⟨bo, oo, rfl, -⟩ := HV5N.out.resolve_left (by omega)
              have z0 := HV5N.out.cell hlt2
              rw [hget] at z0
              obtain ⟨x, hx⟩ : ∃ x : Int, (pl : Int) + 8 = x := ⟨_, rfl⟩
              rw [hx] at z0
              have xa : 8 ≤ x := by omega
              have xb : x < 16 := by omega
              have xc : 0 ≤ x := by omega
              have HLEN := shade hlen
              have z1 : (plL F g i).length ≤ 300 := by omega
              clear hopt hlen hget hx hpl
              go_wp2
              go_roundw
              case rel => exact ⟨i + 1, by omega, by go_num, by rw [HLEN.out]; go_num, by trivial⟩
              case measure => simp [intOf]; omega
          · have e2 : (op.toList == [115, 116]) = false := by
              rw [Bool.eq_false_iff]
              intro e'
              have := HN5.out.2 e1
              have := HN6.out.2 e'
              omega
            have hopt : plOpt F (g i) = [(pl : Int)] := by
              unfold plOpt
              rw [if_pos (by rw [HM.out]; exact HN5.out.2 e1), HPL.out]
            obtain ⟨hlt2, hget, hlen⟩ := plL_at F g i K _ hiK hopt
            obtain ⟨bo, oo, rfl, -⟩ := HV5N.out.resolve_left (by omega)
            have z0 := HV5N.out.cell hlt2
            rw [hget] at z0
            obtain ⟨x, hx⟩ : ∃ x : Int, (pl : Int) = x := ⟨_, rfl⟩
            rw [hx] at z0
            have xa : x < 8 := by omega
            have xb : x < 16 := by omega
            have xc : 0 ≤ x := by omega
            have HLEN := shade hlen
            have z1 : (plL F g i).length ≤ 300 := by omega
            clear hopt hlen hget hx hpl
            go_wp2
            go_roundw
            case rel => exact ⟨i + 1, by omega, by go_num, by rw [HLEN.out]; go_num, by trivial⟩
            case measure => simp [intOf]; omega
        · have hik2 : i = K := by omega
          subst hik2
          go_wp2
          go_ret
          exact ⟨rfl, below_of_grown HL5.out⟩

end Go.Proofs.YtbcncifadklkgaaDoor
