/- JumpsOf answers as its model for the drawn program, machine and fuel, and its answers are told by the trace. -/
import Derived.Test.YtbcncifadklkgaaDoorG130
import Derived.Test.YtbcncifadklkgaaDoorG110
import Derived.Test.YtbcncifadklkgaaDoorG96
import Derived.IntWalk
namespace Go.Proofs.YtbcncifadklkgaaDoor
open Go.RowKit
set_option linter.unusedSimpArgs false
set_option maxHeartbeats 1000000 in
theorem equalBools_zero (A1 A2 : Option Addr) (c1 c2 : Nat) (w : World) :
    Calls Tryd.prog 26 #[.slice A1 0 c1, .slice A2 0 c2] w fun e w' => e = .returned (.bool true) ∧ ∃ m : Nat, w.drewN m = w' := by
  go_enter Tryd.func26, Tryd.ntmps26
  go_wp2
  refine wp_loop_rounds 1 ?_
  rw [rounds_succ]
  go_wp2
  go_ret
  exact ⟨rfl, 0, rfl⟩
set_option maxHeartbeats 1000000 in
theorem equalBools_at (b1 o1 b2 o2 c1 c2 n : Nat) (f g : Nat → Bool) (w : World) (hn : n ≤ 9223372036854775807) (h1 : Bols w (some ⟨b1, o1, none⟩) n f) (h2 : Bols w (some ⟨b2, o2, none⟩) n g) (he : ∀ j, j < n → f j = g j) :
    Calls Tryd.prog 26 #[.slice (some ⟨b1, o1, none⟩) n c1, .slice (some ⟨b2, o2, none⟩) n c2] w fun e w' => e = .returned (.bool true) ∧ ∃ m : Nat, w.drewN m = w' := by
  have H1 := shade h1
  have H2 := shade h2
  have HE := shade he
  clear h1 h2 he
  go_enter Tryd.func26, Tryd.ntmps26
  go_wp2
  go_loopw [5] (fun i wr => ∃ k m : Nat, k ≤ n ∧ i = .int .i64 k ∧ wr = w.drewN m) (fun i _ => n - (intOf i).toNat)
  case atStart => exact ⟨0, 0, Nat.zero_le _, rfl, rfl⟩
  case round =>
    obtain ⟨k, m, hk, rfl, rfl⟩ := hrel
    by_cases hkn : k < n
    · have q1 := H1.out.cell hkn
      have q2 := H2.out.cell hkn
      rw [HE.out k hkn] at q1
      go_wp2
      go_quiet (fail)
      go_wp2
      go_roundw
      case rel => exact ⟨k + 1, _, by omega, by go_num, rfl⟩
      case measure => simp [intOf]; omega
    · have hkn2 : k = n := by omega
      subst hkn2
      go_wp2
      go_ret
      exact ⟨rfl, m, rfl⟩
theorem equalBools_any (A1 A2 : Option Addr) (c1 c2 n : Nat) (f g : Nat → Bool) (w : World) (hn : n ≤ 9223372036854775807) (h1 : Bols w A1 n f) (h2 : Bols w A2 n g) (he : ∀ j, j < n → f j = g j) :
    Calls Tryd.prog 26 #[.slice A1 n c1, .slice A2 n c2] w fun e w' => e = .returned (.bool true) ∧ ∃ m : Nat, w.drewN m = w' := by
  by_cases h0 : n = 0
  · subst h0
    exact equalBools_zero A1 A2 c1 c2 w
  · obtain ⟨b1, o1, rfl, _⟩ := h1.resolve_left h0
    obtain ⟨b2, o2, rfl, _⟩ := h2.resolve_left h0
    exact equalBools_at b1 o1 b2 o2 c1 c2 n f g w hn h1 h2 he
theorem jumps_told (n : Nat) (F : Nat → Ins) (at' : Int) (n1 n2 : Nat) (f1 f2 : Nat → Int) (fuel : Int) (hn : n ≤ 9223372036854775807) (hn1 : n1 ≤ 9223372036854775807) (hn2 : n2 ≤ 9223372036854775807) :
    ∃ (K : Nat) (g : Nat → Sta), K ≤ 300 ∧ (∀ i, i < K → vcB n F = true ∧ OkS (g i) ∧ sHalt n F (g i) = false) ∧ (∀ i, i + 1 < K → (g (i + 1)).at' = stAt F (g i).at' (g i).r) ∧ (∀ (A : Option Addr) (cap : Nat) (A1 : Option Addr) (c1 : Nat) (A2 : Option Addr) (c2 : Nat) (W : World), Code W A n F → Nums W A1 n1 f1 → Nums W A2 n2 f2 → Calls Tryd.prog 27 #[.slice A n cap, MV at' A1 n1 c1 A2 n2 c2, .int .i64 fuel] W (BolRes (jmL F g K).length (fun j => (jmL F g K).getD j false) W)) ∧
      (∀ (A : Option Addr) (cap : Nat) (A1 : Option Addr) (c1 : Nat) (A2 : Option Addr) (c2 : Nat) (W : World), WT W → Code W A n F → Nums W A1 n1 f1 → Nums W A2 n2 f2 → Calls Tryd.prog 25 #[.slice A n cap, MV at' A1 n1 c1 A2 n2 c2, .int .i64 fuel] W (BolRes (jmL F g K).length (fun j => (jmL F g K).getD j false) W)) ∧
      (∀ (A : Option Addr) (cap : Nat) (A1 : Option Addr) (c1 : Nat) (A2 : Option Addr) (c2 : Nat) (W : World), WT W → Code W A n F → Nums W A1 n1 f1 → Nums W A2 n2 f2 → Calls Tryd.prog 28 #[.slice A n cap, MV at' A1 n1 c1 A2 n2 c2, .int .i64 fuel] W (NumRes K (fun j => (g j).at') W)) := by
  obtain ⟨K, g, hK, hRun, hcase⟩ := run_told n F at' n1 n2 f1 f2 fuel hn
  have hst : ∀ i, i < K → vcB n F = true ∧ OkS (g i) ∧ sHalt n F (g i) = false := fun i hi => by
    rcases hcase with ⟨hr, rfl⟩ | ⟨hr, rfl, rfl, rfl, hre⟩
    · omega
    · obtain ⟨hv, hm, hf0, hf1⟩ := runB_parts hr
      exact ⟨hv, (okS_of hm).run hv i (fun j hj => hre.go j (by omega)), hre.go i hi⟩
  refine ⟨K, g, hK, hst, fun i hi => ?_, fun A cap A1 c1 A2 c2 W hC h1 h2 => ?_, fun A cap A1 c1 A2 c2 W hg hC h1 h2 => ?_, fun A cap A1 c1 A2 c2 W hg hC h1 h2 => ?_⟩
  · rcases hcase with ⟨hr, rfl⟩ | ⟨hr, rfl, rfl, rfl, hre⟩
    · omega
    · rfl
  · rcases hcase with ⟨hr, rfl⟩ | ⟨hr, rfl, rfl, rfl, hre⟩
    · exact SpecJumpsOf_no A n cap F at' A1 n1 c1 A2 n2 c2 f1 f2 fuel W hn hC h1 h2 hn1 hn2 hr _
    · obtain ⟨hv, hm, hf0, hf1⟩ := runB_parts hr
      obtain ⟨fu, rfl⟩ := Int.eq_ofNat_of_zero_le hf0
      rw [Int.toNat_natCast] at hre
      obtain ⟨b1, o1, rfl, _⟩ := h1.resolve_left (by omega)
      obtain ⟨b2, o2, rfl, _⟩ := h2.resolve_left (by omega)
      refine (SpecJumpsOf_yes A n cap F ⟨at', f1, f2⟩ b1 o1 c1 b2 o2 c2 fu W hn hC h1 h2 hv hm (by omega)).mono ?_
      rintro e w' ⟨k, hk, h⟩
      obtain rfl := hk.uniq hre
      exact h
  · exact JumpsOf_res A n cap at' A1 n1 c1 A2 n2 c2 fuel F K g W hg hC hK hst fun W' hW => hRun A cap A1 c1 A2 c2 W' (hg.below (below_of_grown hW) (wt_lt hg)) (hC.on hW) (h1.on hW) (h2.on hW)
  · exact TraceOf_res A n cap at' A1 n1 c1 A2 n2 c2 fuel K g W hK fun W' hW => hRun A cap A1 c1 A2 c2 W' (hg.below (below_of_grown hW) (wt_lt hg)) (hC.on hW) (h1.on hW) (h2.on hW)
theorem jmL_mono (F : Nat → Ins) (g : Nat → Sta) (i : Nat) : ∀ K, i ≤ K → ∃ l, jmL F g K = jmL F g i ++ l := by
  intro K
  induction K with
  | zero =>
    intro h
    obtain rfl : i = 0 := by omega
    exact ⟨[], (List.append_nil _).symm⟩
  | succ K ih =>
    intro h
    by_cases e : i = K + 1
    · rw [e]
      exact ⟨[], (List.append_nil _).symm⟩
    · obtain ⟨l, hl⟩ := ih (by omega)
      refine ⟨l ++ jmOpt F (g K), ?_⟩
      show jmL F g K ++ jmOpt F (g K) = _
      rw [hl, List.append_assoc]
theorem jmL_at (F : Nat → Ins) (g : Nat → Sta) (i K : Nat) (x : Bool) (hi : i < K) (hx : jmOpt F (g i) = [x]) : (jmL F g i).length < (jmL F g K).length ∧ (jmL F g K).getD (jmL F g i).length false = x ∧ (jmL F g (i + 1)).length = (jmL F g i).length + 1 := by
  obtain ⟨l, hl⟩ := jmL_mono F g (i + 1) K (by omega)
  have h1 : jmL F g (i + 1) = jmL F g i ++ [x] := by
    show jmL F g i ++ jmOpt F (g i) = _
    rw [hx]
  rw [h1] at hl
  refine ⟨?_, ?_, ?_⟩
  · rw [hl, List.length_append, List.length_append]
    simp only [List.length_singleton]
    omega
  · rw [hl]
    simp
  · rw [h1]
    simp
theorem equalBools_row (lo1 hi1 lo2 hi2 K : Nat) (v1 v2 : Value) (f : Nat → Bool) (w : World) (hK : K ≤ 300) (h1 : RowO w lo1 hi1 4 v1 K (bolL K f)) (h2 : RowO w lo2 hi2 4 v2 K (bolL K f)) :
    Calls Tryd.prog 26 #[v1, v2] w fun e w' => e = .returned (.bool true) ∧ w.grownBy w' none := by
  obtain ⟨A1, c1, rfl, hn1⟩ := h1.bols
  obtain ⟨A2, c2, rfl, hn2⟩ := h2.bols
  refine (equalBools_any A1 A2 c1 c2 K f f w (by omega) hn1 hn2 (fun _ _ => rfl)).mono ?_
  rintro e w' ⟨rfl, m, rfl⟩
  exact ⟨rfl, grown_drewN (grown_refl _ _) _⟩
set_option maxRecDepth 100000 in
set_option maxHeartbeats 16000000 in
theorem fnJumpsOf_walk (A : Option Addr) (n cap : Nat) (zs : List Int) (w : World) (hg : WT w) (hB : Bys w A n cap zs) :
    Calls Tryd.prog 5 #[.slice A n cap] w fun e w' => e = .returned (.bool true) ∧ Below w.heap.size w w' := by
  have HG := shade hg
  have HBy := shade hB
  have hcap := hB.fits
  have hbig := hB.big
  unfold maxLen at hbig
  clear hg hB
  by_cases hl : 1048576 < n
  · go_enter Tryd.func5, Tryd.ntmps5
    go_wp2_with fail
    go_ret
    exact ⟨rfl, rfl, rfl, rfl, Nat.le_refl _, fun _ _ => rfl⟩
  · have HD := shade (DrawJumpsOf_any A n cap zs w HBy.out)
    go_enter Tryd.func5, Tryd.ntmps5
    go_wp2_with fail
    refine HD.out.mono ?_
    rintro e w1 ⟨Al, k, c, F, at', A1, n1, c1, A2, n2, c2, f1, f2, fu, rfl, hk, hC, hN1, hN2, ⟨hn1, hn2⟩, hfu, hgr⟩
    obtain ⟨K, g, hK, hst, hnx, HSp, HIm, HTr⟩ := jumps_told k F at' n1 n2 f1 f2 fu (by omega) (by omega) (by omega)
    have HST := shade hst; have HNX := shade hnx; have HSP := shade HSp; have HIM := shade HIm; have HTR := shade HTr
    have hga := World.grownBy_alloc w1 (.cells #[.int .i64 at', .slice A1 n1 c1, .slice A2 n2 c2] 31) none
    have hX : Holds5 (w1.alloc (.cells #[.int .i64 at', .slice A1 n1 c1, .slice A2 n2 c2] 31)) w1.heap.size 31 #[.int .i64 at', .slice A1 n1 c1, .slice A2 n2 c2] := Holds5.fresh w1 31 #[.int .i64 at', .slice A1 n1 c1, .slice A2 n2 c2]
    have HC := shade (hC.on hga); have HN1 := shade (hN1.on hga); have HN2 := shade (hN2.on hga); have HL := shade (grown_same hgr hga)
    clear hst hnx HSp HIm HTr hC hN1 hN2 hgr HD
    go_upto_region 4 with (fail)
    obtain ⟨W1, hW⟩ : ∃ W1, w1.alloc (.cells #[.int .i64 at', .slice A1 n1 c1, .slice A2 n2 c2] 31) = W1 := ⟨_, rfl⟩
    rw [hW] at HC HN1 HN2 HL hX ⊢
    have x0 := hX.look 0; have x1 := hX.look 1; have x2 := hX.look 2
    simp at x0 x1 x2
    have HX := shade hX
    clear hX hga hW
    go_wp2_with fail
    refine (HIM.out _ _ _ _ _ _ _ (HG.out.below (below_of_grown HL.out) (wt_lt HG.out)) HC.out HN1.out HN2.out).mono ?_
    rintro e w2 h5
    obtain ⟨v0, rfl, hR, hgr⟩ := BolRes.row h5
    have HX2 := shade (HX.out.grown hgr (by intro e; cases e)); have HC2 := shade (HC.out.on hgr); have HN12 := shade (HN1.out.on hgr); have HN22 := shade (HN2.out.on hgr); have HL2 := shade (grown_same HL.out hgr); have HV := shade hR
    obtain ⟨A5, c5, rfl, -⟩ := hR.bols
    clear x0 x1 x2 hgr hR h5 HX HC HN1 HN2 HL
    have x0 := HX2.out.look 0; have x1 := HX2.out.look 1; have x2 := HX2.out.look 2
    simp at x0 x1 x2
    go_wp2_with fail
    refine (HSP.out _ _ _ _ _ _ _ HC2.out HN12.out HN22.out).mono ?_
    rintro e w3 h5
    obtain ⟨v1, rfl, hR, hgr⟩ := BolRes.row h5
    have HX3 := shade (HX2.out.grown hgr (by intro e; cases e)); have HC3 := shade (HC2.out.on hgr); have HN13 := shade (HN12.out.on hgr); have HN23 := shade (HN22.out.on hgr); have HL3 := shade (grown_same HL2.out hgr); have HV3 := shade (HV.out.grown hgr); have HW3 := shade hR
    clear x0 x1 x2 hgr hR h5 HX2 HC2 HN12 HN22 HL2 HV
    have hKL : (jmL F g K).length ≤ 300 := Nat.le_trans (jmL_le F g K) hK
    go_wp2_with fail
    refine (equalBools_row _ _ _ _ _ _ _ _ _ hKL HV3.out HW3.out).mono ?_
    rintro e w4 ⟨rfl, hgr⟩
    have HX4 := shade (HX3.out.grown hgr (by intro e; cases e)); have HC4 := shade (HC3.out.on hgr); have HN14 := shade (HN13.out.on hgr); have HN24 := shade (HN23.out.on hgr); have HL4 := shade (grown_same HL3.out hgr); have HV4 := shade (HV3.out.grown hgr)
    clear hgr HX3 HC3 HN13 HN23 HL3 HV3 HW3
    have x0 := HX4.out.look 0; have x1 := HX4.out.look 1; have x2 := HX4.out.look 2
    simp at x0 x1 x2
    by_cases h0 : (jmL F g K).length = 0
    · have h0b : (((jmL F g K).length : Int) == 0) = true := by rw [h0]; rfl
      clear h0
      go_wp2_with fail
      refine (HSP.out _ _ _ _ _ _ _ HC4.out HN14.out HN24.out).mono ?_
      rintro e w5 h5
      obtain ⟨v2, rfl, hR, hgr⟩ := BolRes.row h5
      have HL5 := shade (grown_same HL4.out hgr); have HV5 := shade (HV4.out.grown hgr); have HW5 := shade hR
      clear hgr hR h5
      go_wp2_with fail
      refine (equalBools_row _ _ _ _ _ _ _ _ _ hKL HV5.out HW5.out).mono ?_
      rintro e w6 ⟨rfl, hgr⟩
      have HL6 := shade (grown_same HL5.out hgr)
      clear hgr
      go_wp2_with fail
      go_ret
      exact ⟨rfl, below_of_grown HL6.out⟩
    · have h0b : (((jmL F g K).length : Int) == 0) = false := by rw [beq_eq_false_iff_ne]; omega
      go_wp2_with fail
      refine (HTR.out _ _ _ _ _ _ _ (HG.out.below (below_of_grown HL4.out) (wt_lt HG.out)) HC4.out HN14.out HN24.out).mono ?_
      rintro e w5 h5
      obtain ⟨v2, rfl, hR, hgr⟩ := NumRes.row h5
      have HC5 := shade (HC4.out.on hgr); have HL5 := shade (grown_same HL4.out hgr); have HV5 := shade (HV4.out.grown hgr)
      obtain ⟨A6, c6, rfl, hT⟩ := hR.nums
      have HT := shade hT
      have HV5N := shade (show Bols w5 A5 (jmL F g K).length (fun j => (jmL F g K).getD j false) from by
        obtain ⟨A8, c8, e8, hn8⟩ := HV5.out.bols
        injection e8 with e8 _ _
        rw [e8]
        exact hn8)
      clear hgr hR h5 hT HX4 HC4 HN14 HN24 HL4 HV4 x0 x1 x2
      go_wp2_with fail
      have hKB : K ≤ 300 := hK
      go_loopw [8, 9] (fun q r wr => ∃ i : Nat, i ≤ K ∧ r = .int .i64 i ∧ q = .int .i64 (jmL F g i).length ∧ w5.grownBy wr none) (fun _ r _ => K - (intOf r).toNat)
      case atStart => exact ⟨0, Nat.zero_le _, rfl, rfl, grown_refl _ _⟩
      case round =>
        obtain ⟨i, hi, rfl, rfl, hgw⟩ := hrel
        have HTr := shade (HT.out.on hgw); have HCr := shade (HC5.out.on hgw); have HVr := shade (HV5N.out.grown hgw (by intro _ _ _ e; cases e)); have HLr := shade (grown_same HL5.out hgw); have HW := shade hgw
        clear hgw HT HC5 HV5N HL5
        by_cases hiK : i < K
        · obtain ⟨hv, hok, hh⟩ := HST.out i hiK
          obtain ⟨hlt, _⟩ := halt_parts hh
          obtain ⟨h40, ⟨rr1, rr2, rr3⟩, ⟨kk0, kk1⟩, hw, h9, hF⟩ := ins_parts hv hlt
          have hn7 : nOf F (g i).at' = 7 ↔ ((F (g i).at'.toNat).op.toList == [98, 122]) = true := by rw [bz_word]; omega
          obtain ⟨m, hm⟩ := Int.eq_ofNat_of_zero_le hok.lo
          obtain ⟨bt, ot, rfl, -⟩ := HTr.out.resolve_left (by omega)
          have y0 := HTr.out.cell hiK
          obtain ⟨bc, oc, rfl, -⟩ := HCr.out.resolve_left (by omega)
          have hat := hm
          rw [hm] at hlt y0 hn7
          rw [Int.toNat_natCast] at hlt hn7
          obtain ⟨q0, q1, q2, q3, q4⟩ := HCr.out.five hlt
          obtain ⟨op, hop⟩ : ∃ op, (F m).op = op := ⟨_, rfl⟩
          rw [hop] at q0 hn7
          have hm40 : m < 40 := by omega
          have hk5 : kOf F (g i).at' = (F m).k := by
            unfold kOf
            rw [hat, Int.toNat_natCast]
          rw [hk5] at kk0 kk1
          obtain ⟨k5, hkk⟩ : ∃ k5, (F m).k = k5 := ⟨_, rfl⟩
          rw [hkk] at q4 kk0 kk1 hk5
          have HN7 := shade hn7
          have HM := shade hm
          have HK5 := shade hk5
          clear hv hok hh hw h9 hF hn7 hop rr1 rr2 rr3 h40 hm hat hk5 hkk
          obtain ⟨di, hdi⟩ : ∃ di, (F m).d = di := ⟨_, rfl⟩
          obtain ⟨ai, hai⟩ : ∃ ai, (F m).a = ai := ⟨_, rfl⟩
          obtain ⟨bi, hbi⟩ : ∃ bi, (F m).b = bi := ⟨_, rfl⟩
          rw [hdi] at q1
          rw [hai] at q2
          rw [hbi] at q3
          clear hdi hai hbi
          go_upto_region 13 with (fail)
          have hga := World.grownBy_alloc wr (.cells #[.string op, .int .i64 di, .int .i64 ai, .int .i64 bi, .int .i64 k5] 24) none
          have hE5 : Holds5 (wr.alloc (.cells #[.string op, .int .i64 di, .int .i64 ai, .int .i64 bi, .int .i64 k5] 24)) wr.heap.size 24 #[.string op, .int .i64 di, .int .i64 ai, .int .i64 bi, .int .i64 k5] := Holds5.fresh _ _ _
          obtain ⟨W5, hW5⟩ : ∃ W5, wr.alloc (.cells #[.string op, .int .i64 di, .int .i64 ai, .int .i64 bi, .int .i64 k5] 24) = W5 := ⟨_, rfl⟩
          obtain ⟨b9, hb9⟩ : ∃ b9, wr.heap.size = b9 := ⟨_, rfl⟩
          rw [hb9] at hE5 ⊢
          rw [hW5] at hga hE5 ⊢
          have HT5 := shade (HTr.out.on hga); have HV5 := shade (HVr.out.grown hga (by intro _ _ _ e; cases e)); have HW5 := shade (grown_same HW.out hga)
          have e0' := hE5.look 0; have e4' := hE5.look 4
          simp at e0' e4'
          clear y0 q0 q1 q2 q3 q4 hga hE5 hW5 hb9 HTr HVr HW
          have y0 := HT5.out.cell hiK
          rw [HM.out] at y0
          rcases e1 : (op.toList == [98, 122]) with _ | _
          · have hopt : jmOpt F (g i) = [] := by
              unfold jmOpt
              rw [if_neg (fun e => by rw [HM.out] at e; rw [HN7.out.1 e] at e1; cases e1)]
            have hlen : (jmL F g (i + 1)).length = (jmL F g i).length := by
              show (jmL F g i ++ jmOpt F (g i)).length = _
              rw [hopt, List.append_nil]
            have HLEN := shade hlen
            clear hopt hlen
            go_wp2
            go_roundw
            case rel => exact ⟨i + 1, by omega, by go_num, by rw [HLEN.out], HW5.out⟩
            case measure => simp [intOf]; omega
          · have h7 : nOf F (g i).at' = 7 := by rw [HM.out]; exact HN7.out.2 e1
            have hopt : jmOpt F (g i) = [((g i).r (raOf F (g i).at') == 0)] := by
              unfold jmOpt
              rw [if_pos h7]
            obtain ⟨hlt2, hget, hlen⟩ := jmL_at F g i K _ hiK hopt
            obtain ⟨bo, oo, rfl, -⟩ := HV5.out.resolve_left (by omega)
            have z0 := HV5.out.cell hlt2
            rw [hget] at z0
            have hst2 : stAt F (g i).at' (g i).r = if (g i).r (raOf F (g i).at') = 0 then k5 else (m : Int) + 1 := by
              unfold stAt stepAt
              rw [if_pos h7, HK5.out, HM.out, Int.toNat_natCast]
            have HS2 := shade hst2
            have HLEN := shade hlen
            have z1 : (jmL F g i).length ≤ 300 := by omega
            obtain ⟨rr, hrr⟩ : ∃ rr, (g i).r (raOf F (g i).at') = rr := ⟨_, rfl⟩
            rw [hrr] at z0 HS2
            clear hopt hlen hget hst2 h7 hrr
            have iw : IntKind.i64.wrap ((i : Int) + 1) = (i : Int) + 1 := IntWalk.i64_in _ (by omega)
            have mw : IntKind.i64.wrap ((m : Int) + 1) = (m : Int) + 1 := IntWalk.i64_in _ (by omega)
            have i0 : (0 : Int) ≤ (i : Int) + 1 := by omega
            have in1 : ((i : Int) + 1).toNat = i + 1 := by omega
            by_cases hiK2 : i + 1 < K
            · have hnx := HNX.out i hiK2
              have y1 := HT5.out.cell hiK2
              rw [hnx, HS2.out] at y1
              have iK2 : (i : Int) + 1 < (K : Int) := by omega
              clear hnx hiK2
              by_cases hkm : k5 = (m : Int) + 1
              · subst hkm
                go_wp2_with fail
                go_quiet (fail)
                go_wp2
                go_roundw
                case rel => exact ⟨i + 1, by omega, by go_num, by rw [HLEN.out]; go_num, grown_drewN HW5.out _⟩
                case measure => simp [intOf]; omega
              · have hb1 : (k5 != (m : Int) + 1) = true := by rw [bne_iff_ne]; exact hkm
                have hb2 : ((m : Int) + 1 == k5) = false := by rw [beq_eq_false_iff_ne]; exact fun e => hkm e.symm
                clear hkm
                by_cases hr0 : rr = 0
                · rw [if_pos hr0] at y1
                  rw [show (rr == 0) = true by rw [beq_iff_eq]; exact hr0] at z0
                  clear hr0
                  go_wp2_with fail
                  go_quiet (fail)
                  go_wp2
                  go_roundw
                  case rel => exact ⟨i + 1, by omega, by go_num, by rw [HLEN.out]; go_num, grown_drewN HW5.out _⟩
                  case measure => simp [intOf]; omega
                · rw [if_neg hr0] at y1
                  rw [show (rr == 0) = false by rw [beq_eq_false_iff_ne]; exact hr0] at z0
                  clear hr0
                  go_wp2_with fail
                  go_quiet (fail)
                  go_wp2
                  go_roundw
                  case rel => exact ⟨i + 1, by omega, by go_num, by rw [HLEN.out]; go_num, grown_drewN HW5.out _⟩
                  case measure => simp [intOf]; omega
            · have iK2 : decide ((i : Int) + 1 < (K : Int)) = false := by rw [decide_eq_false_iff_not]; omega
              clear hiK2
              go_wp2_with fail
              go_quiet (fail)
              go_wp2
              go_roundw
              case rel => exact ⟨i + 1, by omega, by go_num, by rw [HLEN.out]; go_num, grown_drewN HW5.out _⟩
              case measure => simp [intOf]; omega
        · have hik2 : i = K := by omega
          subst hik2
          go_wp2
          go_ret
          exact ⟨rfl, below_of_grown HLr.out⟩
end Go.Proofs.YtbcncifadklkgaaDoor
