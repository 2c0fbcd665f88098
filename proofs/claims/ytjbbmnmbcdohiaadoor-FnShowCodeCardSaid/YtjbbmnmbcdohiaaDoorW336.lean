/- The laws of ReadCode and ShowCode, walked. -/
import Derived.Test.YtjbbmnmbcdohiaaDoorW333
import Derived.Test.YtjbbmnmbcdohiaaDoorW335
import Derived.Test.YtjbbmnmbcdohiaaDoorW326
namespace Go.Proofs.YtjbbmnmbcdohiaaDoor
open Go.RowKit
set_option linter.unusedSimpArgs false
theorem showC_len {n : Nat} {F : Nat → Ins} : (showC n F).length ≤ 760 := by
  unfold showC
  by_cases h : vcB n F = true
  · rw [if_pos h]
    have h1 := codeT_len h n (Nat.le_refl _)
    have h2 := (vc_all h).1
    omega
  · rw [if_neg h]
    exact Nat.zero_le _
set_option maxHeartbeats 1000000 in
theorem DrawReadCode_any (A : Option Addr) (n cap : Nat) (zs : List Int) (w : World) (h : Bys w A n cap zs) :
    Calls Tryd.prog 16 #[.slice A n cap] w fun e w' => ∃ l : List UInt8, l.length ≤ 10010 ∧ e = .returned (.string (tx l)) ∧ w.grownBy w' none := by
  have HN := shade (newReader_any A n cap zs w h)
  clear h
  go_enter Tryd.func16, Tryd.ntmps16
  go_wp2_with fail
  refine HN.out.mono ?_
  rintro e w1 ⟨m, rfl, hR, hb⟩
  have HR := shade hR
  have HB := shade hb
  clear hR hb HN
  go_wp2_with fail
  refine (someCode_rd HR.out (by omega)).mono ?_
  rintro e w2 ⟨g', k, c, f, q, rfl, hk, hc, hG, hq, hR⟩
  have HT := shade hG
  have HR2 := shade hR
  have HS := shade (SpecShowCode_any (some ⟨g', 0, none⟩) k c f w2 (by omega) hc)
  have hl := showC_len (n := k) (F := f)
  obtain ⟨X, hX⟩ : ∃ X, showC k f = X := ⟨_, rfl⟩
  rw [hX] at HS hl
  clear hR hG HR hc hX
  go_wp2_with fail
  refine HS.out.mono ?_
  rintro e w3 ⟨rfl, hg⟩
  have HT3 := shade (only_more HT.out hg)
  have HR3 := shade (HR2.out.onN hg)
  clear hg HT HR2 HS
  go_wp2_with fail
  refine (pick_rel 5 HR3.out (by omega)).mono ?_
  rintro e w4 ⟨y, ⟨y0, y1, _⟩, rfl, hR, hG⟩
  have HT4 := shade (only_trans HT3.out hG)
  have HR4 := shade hR
  clear hR hG HT3 HR3 y1
  by_cases hy : y = 0
  · subst hy
    have hz := tx_size X
    go_wp2_with fail
    refine (mutate_any (tx X) (by omega) HR4.out (by omega)).mono ?_
    rintro e w5 ⟨s, q5, hs, hq5, rfl, hR, hG⟩
    have HG := shade (grown_of_below (HB.out.trans (below_of_only (only_trans HT4.out hG) w.heap.size (Nat.le_refl _) HB.out.size)))
    clear hR hG
    go_wp2_with fail
    go_ret
    exact ⟨s.data.toList, (by show s.size ≤ 10010; exact hs), rfl, HG.out⟩
  · have HG := shade (grown_of_below (HB.out.trans (below_of_only HT4.out w.heap.size (Nat.le_refl _) HB.out.size)))
    go_wp2_with fail
    go_ret
    exact ⟨X, by omega, rfl, HG.out⟩
set_option maxHeartbeats 1000000 in
theorem DrawShowCode_any (A : Option Addr) (n cap : Nat) (zs : List Int) (w : World) (h : Bys w A n cap zs) :
    Calls Tryd.prog 23 #[.slice A n cap] w fun e w' => ∃ (A : Option Addr) (k c : Nat) (f : Nat → Ins), k ≤ 14 ∧ e = .returned (.slice A k c) ∧ Code w' A k f ∧ w.grownBy w' none := by
  have HN := shade (newReader_any A n cap zs w h)
  clear h
  go_enter Tryd.func23, Tryd.ntmps23
  go_wp2_with fail
  refine HN.out.mono ?_
  rintro e w1 ⟨m, rfl, hR, hb⟩
  have HR := shade hR
  have HB := shade hb
  clear hR hb HN
  go_wp2_with fail
  refine (someCode_rd HR.out (by omega)).mono ?_
  rintro e w2 ⟨g', k, c, f, q, rfl, hk, hc, hG, hq, hR⟩
  have HG := shade (grown_of_below (HB.out.trans (below_of_only hG w.heap.size (Nat.le_refl _) HB.out.size)))
  have HC := shade hc
  clear hR hG hc
  go_wp2_with fail
  go_ret
  exact ⟨_, k, c, f, hk, rfl, HC.out, HG.out⟩
/-- Both answers of ReadCode are one. -/
theorem rc_same {s : List UInt8} {n n' : Nat} {f f' : Nat → Ins} {ok ok' : Bool} (h : ok = true → RC s n f) (h0 : ok = false → NoC s ∧ n = 0) (h' : ok' = true → RC s n' f') (h0' : ok' = false → NoC s ∧ n' = 0) : ok = ok' ∧ n = n' ∧ ∀ j, j < n → f j = f' j := by
  cases ok with
  | true =>
    cases ok' with
    | true => exact ⟨rfl, (h rfl).det (h' rfl)⟩
    | false => exact absurd (h rfl) ((h0' rfl).1 _ _)
  | false =>
    cases ok' with
    | true => exact absurd (h' rfl) ((h0 rfl).1 _ _)
    | false =>
      have e1 := (h0 rfl).2
      have e2 := (h0' rfl).2
      subst e1 e2
      exact ⟨rfl, rfl, fun j hj => absurd hj (by omega)⟩
set_option maxRecDepth 100000 in
set_option maxHeartbeats 4000000 in
theorem readCode_walk (A : Option Addr) (n cap : Nat) (zs : List Int) (w : World) (hB : Bys w A n cap zs) (hy : LY w) :
    Calls Tryd.prog 5 #[.slice A n cap] w fun e w' => e = .returned (.bool true) ∧ Below w.heap.size w w' := by
  have hn0 := hB.big0
  have HD := shade (DrawReadCode_any A n cap zs w hB)
  have HY := shade hy
  clear hB hy
  by_cases hl : 1048576 < n
  · have hl1 : (1048576 : Int) < (n : Int) := by omega
    go_enter Tryd.func5, Tryd.ntmps5
    go_wp2_with fail
    go_ret
    exact ⟨rfl, below_of_grown (grown_refl _ _)⟩
  have hl1 : ¬ (1048576 : Int) < (n : Int) := by omega
  go_enter Tryd.func5, Tryd.ntmps5
  go_wp2_with fail
  refine HD.out.mono ?_
  rintro e w1 ⟨s, hs, rfl, hg1⟩
  have HG1 := shade hg1
  have HY1 := shade (HY.out.on hg1)
  clear hg1 HY HD
  go_wp2_with fail
  refine (ReadCode_is s _ (by omega) HY1.out).mono ?_
  rintro e w2 ⟨A1, k, c1, f, ok, rfl, hR, hN, hC, hk, hg2, hA1⟩
  have HR := shade hR; have HN := shade hN
  have HC := shade hC
  have HG2 := shade (grown_same HG1.out hg2)
  have HY2 := shade (HY1.out.on hg2)
  clear hR hN hC hg2 HG1 HY1 hA1
  go_wp2_with fail
  refine (SpecReadCode_is s _ (by omega)).mono ?_
  rintro e w3 ⟨A2, k', c2, f', ok', rfl, hR', hN', hC', hk', hg4, hA2⟩
  obtain ⟨rfl, rfl, hff⟩ := rc_same HR.out HN.out hR' hN'
  have HC3 := shade (HC.out.on hg4)
  have HC4 := shade (hC'.congr (fun j hj => (hff j hj).symm))
  have HG3 := shade (grown_same HG2.out hg4)
  have HY3 := shade (HY2.out.on hg4)
  clear hR' hN' hC' hg4 hA2 hff HG2 HY2 HC
  have HEQ := shade (fun W (h1 : Code W A1 k f) (h2 : Code W A2 k f) => equalCode_any A1 A2 c1 c2 k f W (by omega) h1 h2)
  go_wp2_with fail
  refine (HEQ.out _ HC3.out HC4.out).mono ?_
  rintro e w4 ⟨rfl, hg5⟩
  have HC5 := shade (HC3.out.on hg5); have HC6 := shade (HC4.out.on hg5)
  have HG4 := shade (grown_same HG3.out hg5)
  have HY4 := shade (HY3.out.on hg5)
  clear hg5 HC3 HC4 HG3 HY3
  cases ok with
  | false =>
    go_wp2_with fail
    refine (HEQ.out _ HC5.out HC6.out).mono ?_
    rintro e w5 ⟨rfl, hg6⟩
    have HG5 := shade (grown_same HG4.out hg6)
    clear hg6 HG4
    go_wp2_with fail
    go_ret
    exact ⟨rfl, below_of_grown HG5.out⟩
  | true =>
    have hRC := HR.out rfl
    have HV := shade hRC.ok
    have HT := shade (show showC k f = s from by rw [showC, if_pos hRC.ok]; exact hRC.text.symm)
    have HCN := shade hRC.count
    have hc1 : ((tx s).toList == (tx s).toList) = true := by simp
    clear hRC
    go_wp2_with fail
    refine (ShowCode_any A1 k c1 f _ HY4.out.wt HY4.out.pow (by omega) HC5.out).mono ?_
    rintro e w5 ⟨rfl, hg6⟩
    rw [HT.out]
    have HC7 := shade (HC5.out.on hg6)
    have HG5 := shade (grown_same HG4.out hg6)
    have HY5 := shade (HY4.out.on hg6)
    clear hg6 HC5 HC6 HG4 HY4
    go_wp2_with fail
    refine (ValidCode_any A1 k c1 f _ HY5.out.wt (by omega) HC7.out).mono ?_
    rintro e w6 ⟨rfl, hg7⟩
    rw [HV.out]
    have HG6 := shade (grown_same HG5.out hg7)
    clear hg7 HC7 HG5 HY5
    go_wp2_with fail
    refine (newlines_is s _ (by omega)).mono ?_
    rintro e w7 ⟨rfl, rfl⟩
    rw [HCN.out]
    go_wp2_with fail
    go_ret
    exact ⟨rfl, below_of_grown HG6.out⟩
set_option maxRecDepth 100000 in
set_option maxHeartbeats 4000000 in
theorem showCode_walk (A : Option Addr) (n cap : Nat) (zs : List Int) (w : World) (hB : Bys w A n cap zs) (hy : LY w) :
    Calls Tryd.prog 6 #[.slice A n cap] w fun e w' => e = .returned (.bool true) ∧ Below w.heap.size w w' := by
  have hn0 := hB.big0
  have HD := shade (DrawShowCode_any A n cap zs w hB)
  have HY := shade hy
  clear hB hy
  by_cases hl : 1048576 < n
  · have hl1 : (1048576 : Int) < (n : Int) := by omega
    go_enter Tryd.func6, Tryd.ntmps6
    go_wp2_with fail
    go_ret
    exact ⟨rfl, below_of_grown (grown_refl _ _)⟩
  have hl1 : ¬ (1048576 : Int) < (n : Int) := by omega
  go_enter Tryd.func6, Tryd.ntmps6
  go_wp2_with fail
  refine HD.out.mono ?_
  rintro e w1 ⟨A1, k, c, f, hk, rfl, hC, hg1⟩
  have HC := shade hC
  have HG1 := shade hg1
  have HY1 := shade (HY.out.on hg1)
  clear hg1 HY HD hC
  go_wp2_with fail
  refine (ShowCode_any A1 k c f _ HY1.out.wt HY1.out.pow (by omega) HC.out).mono ?_
  rintro e w2 ⟨rfl, hg2⟩
  have HG2 := shade (grown_same HG1.out hg2)
  have HY2 := shade (HY1.out.on hg2)
  have HC2 := shade (HC.out.on hg2)
  obtain ⟨X, hX⟩ : ∃ X, showC k f = X := ⟨_, rfl⟩
  have HX := shade hX
  have hlen := showC_len (n := k) (F := f)
  rw [hX] at hlen ⊢
  have hc1 : ((tx X).toList == (tx X).toList) = true := by simp
  have hc2 : ((tx X).toList != (tx X).toList) = false := by simp
  clear hg2 hX HG1 HY1 HC
  go_wp2_with fail
  refine (SpecShowCode_any A1 k c f _ (by omega) HC2.out).mono ?_
  rintro e w3 ⟨rfl, hg4⟩
  rw [HX.out]
  have HG3 := shade (grown_same HG2.out hg4)
  have HY3 := shade (HY2.out.on hg4)
  have HC3 := shade (HC2.out.on hg4)
  clear hg4 HG2 HY2 HC2
  by_cases hX0 : X = []
  · have hc3 : ((tx X).toList == ([] : List UInt8)) = true := by rw [hX0, tx_toList]; rfl
    clear hX0
    go_wp2_with fail
    refine (SpecShowCode_any A1 k c f _ (by omega) HC3.out).mono ?_
    rintro e w4 ⟨rfl, hg5⟩
    rw [HX.out]
    have HG4 := shade (grown_same HG3.out hg5)
    clear hg5 HG3 HY3 HC3
    go_wp2_with fail
    go_ret
    exact ⟨rfl, below_of_grown HG4.out⟩
  · have hc3 : ((tx X).toList == ([] : List UInt8)) = false := by rw [tx_toList]; simpa using hX0
    have hv : vcB k f = true := by
      by_cases h : vcB k f = true
      · exact h
      · have := HX.out
        rw [showC, if_neg h] at this
        exact absurd this.symm hX0
    have HRC := shade (show RC X k f from by rw [← HX.out, showC, if_pos hv]; exact rc_of hv)
    clear hv hX0
    go_wp2_with fail
    refine (ReadCode_is X _ (by omega) HY3.out).mono ?_
    rintro e w4 ⟨A2, k', c2, f', ok', rfl, hR', hN', hC', hk', hg5, hA2⟩
    obtain ⟨rfl, rfl, hff⟩ := rc_same (ok := true) (n := k) (f := f) (fun _ => HRC.out) (fun e => (by cases e)) hR' hN'
    have HC4 := shade (hC'.congr (fun j hj => (hff j hj).symm))
    have HC5 := shade (HC3.out.on hg5)
    have HG4 := shade (grown_same HG3.out hg5)
    clear hR' hN' hC' hg5 hA2 hff HG3 HY3 HC3
    go_wp2_with fail
    refine (equalCode_any A2 A1 c2 c k f _ (by omega) HC4.out HC5.out).mono ?_
    rintro e w5 ⟨rfl, hg6⟩
    have HG5 := shade (grown_same HG4.out hg6)
    clear hg6 HG4
    go_wp2_with fail
    go_ret
    exact ⟨rfl, below_of_grown HG5.out⟩
end Go.Proofs.YtjbbmnmbcdohiaaDoor
