/- The program's ReadCode gives a row of its own; ReadCode's exact law, walked. -/
import Derived.Test.YtjbbmnmbcdohiaaDoorW333
import Derived.Test.YtjbbmnmbcdohiaaDoorW340
namespace Go.Proofs.YtjbbmnmbcdohiaaDoor
open Go.RowKit
set_option linter.unusedSimpArgs false
/-- What ReadCode gives, in a row of its own. -/
def RCo (s : List UInt8) (w : World) (e : Ending) (w' : World) : Prop :=
  ∃ (A : Option Addr) (n c : Nat) (f : Nat → Ins) (ok : Bool), e = .returned (.tuple #[.slice A n c, .bool ok]) ∧ (ok = true → RC s n f) ∧ (ok = false → NoC s ∧ n = 0) ∧ w'.ownsRow w.heap.size 24 5 (.slice A n c) n (codeL n f) ∧ n ≤ 40 ∧ w.grownBy w' none
set_option maxRecDepth 100000 in
set_option maxHeartbeats 8000000 in
theorem ReadCode_own (s : List UInt8) (w : World) (hl : s.length ≤ 1048576) (hy : LY w) : Calls Tryd.prog 17 #[.string (tx s)] w (RCo s w) := by
  have HY := shade hy
  have HI := shade (show CB w w (.slice none 0 0) 0 (fun _ => zIns) from ⟨World.ownsRow_nil _ _ _ _, grown_refl _ _⟩)
  clear hy
  go_enter Tryd.func17, Tryd.ntmps17
  go_wp2_with fail
  go_loopw [0, 4] (fun sv v wr => ∃ (r : List UInt8) (k : Nat) (f : Nat → Ins), sv = .string (tx r) ∧ CB w wr v k f ∧ splitC 10 s = linesL k f ++ splitC 10 r ∧ (∀ j, j < k → insB (f j) = true) ∧ k ≤ 40 ∧ r.length ≤ s.length) (fun sv _ _ => lenS sv)
  case atStart => exact ⟨s, 0, fun _ => zIns, rfl, HI.out, rfl, fun _ h => absurd h (by omega), by omega, Nat.le_refl _⟩
  case round =>
    clear HI
    obtain ⟨r, k, f, rfl, hC, hS, hV, hk, hrl⟩ := hrel
    have HCB := shade hC; have HS := shade hS; have HV := shade hV
    have HYR := shade (HY.out.on hC.low)
    clear hC hS hV
    obtain ⟨A0, c0, rfl, hco, hab⟩ := HCB.out.val
    have HCO := shade hco
    have HAB := shade hab
    clear hco hab
    have hz := tx_size r
    by_cases hr : r = []
    · have hE : (tx r).toList.isEmpty = true := by rw [tx_toList, hr]; rfl
      have hcut : splitC 10 s = linesL k f ++ [[]] := by rw [HS.out, hr]; rfl
      have HCUT := shade hcut
      have HVC := shade (ValidCode_any A0 k c0 f wr HYR.out.wt (by omega) HCO.out)
      clear hcut hr HS
      rcases hv : vcB k f with _ | _
      · rw [hv] at HVC
        have HNO := shade (NoC.bad HCUT.out HV.out hv)
        clear hv
        go_wp2_with fail
        refine HVC.out.mono ?_
        rintro e w2 ⟨rfl, hg2⟩
        have HG2 := shade (grown_same HCB.out.low hg2)
        clear hg2
        go_wp2_with fail
        go_ret2
        exact ⟨none, 0, 0, fun _ => zIns, false, rfl, fun e => (by cases e), fun _ => ⟨HNO.out, rfl⟩, World.ownsRow_nil _ _ _ _, by omega, HG2.out⟩
      · rw [hv] at HVC
        have HV1 := shade hv
        clear hv
        go_wp2_with fail
        refine HVC.out.mono ?_
        rintro e w2 ⟨rfl, hg2⟩
        have HG2 := shade (grown_same HCB.out.low hg2)
        have HC2 := shade (HCB.out.on hg2)
        clear hg2
        go_wp2_with fail
        go_ret2
        exact ⟨A0, k, c0, f, true, rfl, fun _ => ⟨HCUT.out, HV.out, HV1.out⟩, fun e => (by cases e), HC2.out.own, hk, HG2.out⟩
    · have hE : (tx r).toList.isEmpty = false := by
        rw [tx_toList]
        simpa using hr
      by_cases h10 : (10 : UInt8) ∈ r
      · obtain ⟨a, l, rfl, ha⟩ := List.eq_append_cons_of_mem h10
        have hsp := splitC_hit 10 a l ha
        have hs := HS.out
        rw [hsp] at hs
        have HS2 := shade hs
        have HCT := shade (fun W hW => cutHit_is a l ha W hW (by omega))
        have hal : a.length + l.length + 1 = (a ++ 10 :: l).length := by simp; omega
        obtain ⟨R, hR⟩ : ∃ R, a ++ 10 :: l = R := ⟨_, rfl⟩
        rw [hR] at hz hE HCT hrl hal ⊢
        have HRI := shade (fun W hW => ReadInstr_is a W (by omega) hW)
        have HAL := shade hal
        clear hal hR hsp hs HS h10 hr ha
        go_wp2_with fail
        refine (HCT.out _ HYR.out.max).mono ?_
        rintro e w2 ⟨rfl, hg2⟩
        have H2 := shade (HCB.out.on hg2)
        have HY2 := shade (HYR.out.on hg2)
        clear hg2 HCB HYR HCT
        go_wp2_with fail
        refine (HRI.out _ HY2.out).mono ?_
        rintro e w3 ⟨op, d, a', b, kk, ok, rfl, hRI, hg3⟩
        have hga := World.grownBy_alloc w3 (.cells #[.string op, .int .i64 d, .int .i64 a', .int .i64 b, .int .i64 kk] 24) none
        have H3 := shade (H2.out.on (grown_same hg3 hga))
        have HB := shade (Holds5.fresh w3 24 #[.string op, .int .i64 d, .int .i64 a', .int .i64 b, .int .i64 kk])
        have HQ := shade hRI
        clear hg3 hga hRI H2 HY2 HRI HCO
        go_upto_region 5 with (fail)
        generalize w3.alloc (.cells #[.string op, .int .i64 d, .int .i64 a', .int .i64 b, .int .i64 kk] 24) = wc at *
        cases ok with
        | false =>
          have HNO := shade (NoC.line HS2.out (splitC_ne 10 l) (HQ.out.no rfl))
          go_wp2_with fail
          go_ret2
          exact ⟨none, 0, 0, fun _ => zIns, false, rfl, fun e => (by cases e), fun _ => ⟨HNO.out, rfl⟩, World.ownsRow_nil _ _ _ _, by omega, H3.out.low⟩
        | true =>
          by_cases hk1 : k = 40
          · have hk2 : ((k : Int) == 40) = true := by simp; omega
            have HNO := shade (NoC.long HS2.out (splitC_ne 10 l) (by rw [linesL_len]; omega))
            go_wp2_with fail
            go_ret2
            exact ⟨none, 0, 0, fun _ => zIns, false, rfl, fun e => (by cases e), fun _ => ⟨HNO.out, rfl⟩, World.ownsRow_nil _ _ _ _, by omega, H3.out.low⟩
          · have hk2 : ((k : Int) == 40) = false := by simp; omega
            have hk3 : k < 40 := by omega
            obtain ⟨hv, hsh⟩ := HQ.out.yes rfl
            have HY := shade hv; have HSH := shade hsh
            have x0 := HB.out.look 0; have x1 := HB.out.look 1; have x2 := HB.out.look 2; have x3 := HB.out.look 3; have x4 := HB.out.look 4
            simp at x0 x1 x2 x3 x4
            have hbi := HB.out.inside
            clear hv hsh hk1
            obtain ⟨i0, hi, hz0, hz1, hz2⟩ := info_parts info24
            go_wp2_with (first
              | (at_builtin; refine wpList_append_own _ rfl _ _ 32 rfl w.heap.size 24 i0 (.agg #[.string ⟨#[]⟩, .int .i64 0, .int .i64 0, .int .i64 0, .int .i64 0]) 5 48 Tryd.underlying32 hi hz0 hz1 hz2 rfl (by decide) _ _ _ rfl (H3.out.on (World.grownBy_alloc _ _ _)).own ⟨wc.heap.size, 0, none⟩ 1 1 [.string op, .int .i64 d, .int .i64 a', .int .i64 b, .int .i64 kk] rfl rfl (cells_new _ _ _ _ _ _ _) (one_cells _ _ _ _ _) (by unfold maxLen; omega) (by omega) (by have := H3.out.low.size; simp; omega) ?_)
              | go_in)
            intro v' w8 hown8 hgr8 hnil8
            rw [codeL_snoc k f ⟨op, d, a', b, kk⟩] at hown8
            have H8 := shade (H3.out.snoc (World.grownBy_alloc _ _ _) hown8 hgr8)
            clear hown8 hgr8 hnil8 hi hz0 hz1 hz2
            have hll : l.length ≤ s.length := by
              have := HAL.out
              omega
            have HLL := shade hll
            clear hll
            go_wp2_with fail
            go_roundw
            case rel => exact ⟨l, k + 1, _, rfl, H8.out, by rw [HS2.out, linesL_more, show insL (⟨op, d, a', b, kk⟩ : Ins) = a from HSH.out]; simp, val_more HV.out HY.out, by omega, HLL.out⟩
            case measure =>
              have h1 := HAL.out
              have h2 := tx_size l
              simp [lenS]
              omega
      · have HNO := shade (NoC.last (s := s) (xs := linesL k f) (r := r) (by rw [HS.out, splitC_miss 10 r h10]) hr)
        have HCT := shade (fun W hW => cutMiss_is r h10 W hW (by omega))
        have HRI := shade (fun W hW => ReadInstr_is r W (by omega) hW)
        clear hr h10 HS
        go_wp2_with fail
        refine (HCT.out _ HYR.out.max).mono ?_
        rintro e w2 ⟨rfl, hg2⟩
        have HG2 := shade (grown_same HCB.out.low hg2)
        have HY2 := shade (HYR.out.on hg2)
        clear hg2 HCB HYR HCT
        go_wp2_with fail
        refine (HRI.out _ HY2.out).mono ?_
        rintro e w3 ⟨op, d, a', b, kk, ok, rfl, hRI, hg3⟩
        have HG3 := shade (grown_same HG2.out (grown_same hg3 (World.grownBy_alloc w3 (.cells #[.string op, .int .i64 d, .int .i64 a', .int .i64 b, .int .i64 kk] 24) none)))
        clear hg3 hRI HY2 HRI HCO HG2
        go_wp2_with fail
        go_ret2
        exact ⟨none, 0, 0, fun _ => zIns, false, rfl, fun e => (by cases e), fun _ => ⟨HNO.out, rfl⟩, World.ownsRow_nil _ _ _ _, by omega, HG3.out⟩
theorem own_code {w : World} {B : Nat} {A : Option Addr} {n c : Nat} {f : Nat → Ins} (h : w.ownsRow B 24 5 (.slice A n c) n (codeL n f)) : Code w A n f := by
  rcases h.2 with ⟨e, h0⟩ | ⟨g', c', cur, e, hb, _⟩
  · exact .inl h0
  · injection e with e1 e2 e3
    subst e1 e3
    exact OwnC.code h
theorem rc_same0 {s : List UInt8} {n n' : Nat} {f f' : Nat → Ins} {ok ok' : Bool} (h : ok = true → RC s n f) (h0 : ok = false → NoC s ∧ n = 0) (h' : ok' = true → RC s n' f') (h0' : ok' = false → NoC s ∧ n' = 0) : ok = ok' ∧ n = n' ∧ ∀ j, j < n → f j = f' j := by
  cases ok with
  | true =>
    cases ok' with
    | true => exact ⟨rfl, (h rfl).det (h' rfl)⟩
    | false => exact absurd (h rfl) ((h0' rfl).1 _ _)
  | false =>
    cases ok' with
    | true => exact absurd (h' rfl) ((h0 rfl).1 _ _)
    | false =>
      have e1 := (h0 rfl).2
      have e2 := (h0' rfl).2
      subst e1 e2
      exact ⟨rfl, rfl, fun j hj => absurd hj (by omega)⟩
set_option maxRecDepth 100000 in
set_option maxHeartbeats 8000000 in
theorem exactReadCode_walk (s : List UInt8) (w : World) (hy : LY w) (hs : (tx s).size ≤ 9223372036854775807) :
    Calls Tryd.prog 8 #[.string (tx s)] w fun e w' => e = .returned (.bool true) ∧ Below w.heap.size w w' := by
  have hz := tx_size s
  have HY := shade hy
  clear hy
  by_cases hbig : 1048576 < s.length
  · have hb1 : (1048576 : Int) < (s.length : Int) := by omega
    clear hbig
    go_enter Tryd.func8, Tryd.ntmps8
    go_wp2_with fail
    go_ret
    exact ⟨rfl, below_of_grown (grown_refl _ _)⟩
  have hb1 : ¬ (1048576 : Int) < (s.length : Int) := by omega
  have HS := shade (fun W => SpecReadCode_is s W (by omega))
  have HI := shade (fun W hW => ReadCode_own s W (by omega) hW)
  clear hbig
  go_enter Tryd.func8, Tryd.ntmps8
  go_wp2_with fail
  refine (HS.out _).mono ?_
  rintro e w1 ⟨A0, n, c0, f, ok, rfl, hR, hN, hC, hn, hg1, -⟩
  have HR := shade hR; have HN := shade hN; have HC := shade hC
  have HG1 := shade hg1
  have HY1 := shade (HY.out.on hg1)
  clear hR hN hC hg1 HS
  go_wp2_with fail
  refine (HI.out _ HY1.out).mono ?_
  rintro e w2 ⟨A1, n', c1, f', ok', rfl, hR', hN', ho, hn', hg2⟩
  obtain ⟨rfl, rfl, hff⟩ := rc_same0 HR.out HN.out hR' hN'
  have HO := shade (show w2.ownsRow w1.heap.size 24 5 (.slice A1 n c1) n (codeL n f) from by rw [codeL_congr n f f' hff]; exact ho)
  have HC2 := shade (HC.out.on hg2)
  have HG2 := shade (grown_same HG1.out hg2)
  clear hR' hN' ho hg2 hff HY1
  go_wp2_with fail
  refine (eqInstrS_any A1 A0 c1 c0 n f _ (by omega) (own_code HO.out) HC2.out).mono ?_
  rintro e w3 ⟨rfl, hg3⟩
  have HO3 := shade (World.ownsRow.kept HO.out hg3 (Classical.em _))
  have HC3 := shade (HC2.out.on hg3)
  have HG3 := shade (grown_same HG2.out hg3)
  clear hg3 HO HC2 HG2
  go_wp2_with fail
  refine (markI_1 A1 w1.heap.size n c1 f _ (by omega) HO3.out).mono ?_
  rintro e w4 ⟨rfl, ho4, hg4⟩
  have HO4 := shade ho4
  have HC4 := shade (show Code w4 A0 n f from by
    rcases HC.out with h | ⟨b', off', hA', hb', _⟩
    · exact .inl h
    · refine HC3.out.grown hg4 (fun b off hA e => ?_)
      rw [hA] at hA'
      injection hA' with hA'
      injection hA' with h1 h2
      have := (World.ownsRow.lt HO3.out b e.symm).1
      omega)
  have HG4 := shade (grown_rowS HG3.out hg4 (fun j e => Nat.le_trans HG1.out.size (World.ownsRow.lt HO3.out j e).1))
  have HY4 := shade (HY.out.on HG4.out)
  clear ho4 hg4 HO3 HC3 HG3 HC
  obtain ⟨M, hM⟩ : ∃ M : Int, 1 + 5 * (n : Int) = M := ⟨_, rfl⟩
  have hM0 : 0 ≤ M := by omega
  have HM := shade hM
  rw [hM]
  clear hM
  go_wp2_with fail
  refine (heldI_1 A1 w1.heap.size n c1 _ (by omega) HO4.out).mono ?_
  rintro e w5 ⟨rfl, hg5⟩
  rw [HM.out]
  have HO5 := shade (World.ownsRow.kept HO4.out hg5 (Classical.em _))
  have HC5 := shade (HC4.out.on hg5)
  have HG5 := shade (grown_same HG4.out hg5)
  have HY5 := shade (HY4.out.on hg5)
  clear hg5 HO4 HC4 HG4 HY4
  go_wp2_with fail
  refine (HI.out _ HY5.out).mono ?_
  rintro e w6 ⟨A2, n', c2, f', ok', rfl, hR', hN', ho, hn', hg6⟩
  obtain ⟨rfl, rfl, hff⟩ := rc_same0 HR.out HN.out hR' hN'
  have HX := shade (show w6.ownsRow w5.heap.size 24 5 (.slice A2 n c2) n (codeL n f) from by rw [codeL_congr n f f' hff]; exact ho)
  have HO6 := shade (World.ownsRow.kept HO5.out hg6 (Classical.em _))
  have HC6 := shade (HC5.out.on hg6)
  have HG6 := shade (grown_same HG5.out hg6)
  clear hR' hN' ho hg6 hff HY5 HO5 HC5 HG5
  go_wp2_with fail
  refine (eqInstrS_any A2 A0 c2 c0 n f _ (by omega) (own_code HX.out) HC6.out).mono ?_
  rintro e w7 ⟨rfl, hg7⟩
  have HO7 := shade (World.ownsRow.kept HO6.out hg7 (Classical.em _))
  have HG7 := shade (grown_same HG6.out hg7)
  clear hg7 HO6 HC6 HG6 HX
  go_wp2_with fail
  refine (heldI_1 A1 w1.heap.size n c1 _ (by omega) HO7.out).mono ?_
  rintro e w8 ⟨rfl, hg8⟩
  rw [HM.out]
  have HG8 := shade (grown_same HG7.out hg8)
  clear hg8 HO7 HG7
  go_wp2_with fail
  go_ret
  exact ⟨rfl, below_of_grown HG8.out⟩
end Go.Proofs.YtjbbmnmbcdohiaaDoor
