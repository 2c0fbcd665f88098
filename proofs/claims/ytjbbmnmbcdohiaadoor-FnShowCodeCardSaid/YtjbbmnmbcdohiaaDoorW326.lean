/- The laws of ReadInstr and ShowInstr, walked. -/
import Derived.Test.YtjbbmnmbcdohiaaDoorW320
import Derived.Test.YtjbbmnmbcdohiaaDoorW325
namespace Go.Proofs.YtjbbmnmbcdohiaaDoor
open Go.RowKit
set_option linter.unusedSimpArgs false
theorem Bys.big0 {w : World} {A : Option Addr} {n cap : Nat} {zs : List Int} (h : Bys w A n cap zs) : n ≤ 9223372036854775807 := by
  have h1 := h.fits
  have h2 := h.big
  unfold maxLen at h2
  omega
set_option maxRecDepth 100000 in
set_option maxHeartbeats 4000000 in
theorem readInstr_walk (A : Option Addr) (n cap : Nat) (zs : List Int) (w : World) (hB : Bys w A n cap zs) (hy : LY w) :
    Calls Tryd.prog 4 #[.slice A n cap] w fun e w' => e = .returned (.bool true) ∧ Below w.heap.size w w' := by
  have hn0 := hB.big0
  have HD := shade (DrawReadInstr_any A n cap zs w hB)
  have HY := shade hy
  clear hB hy
  by_cases hl : 1048576 < n
  · have hl1 : (1048576 : Int) < (n : Int) := by omega
    go_enter Tryd.func4, Tryd.ntmps4
    go_wp2_with fail
    go_ret
    exact ⟨rfl, below_of_grown (grown_refl _ _)⟩
  have hl1 : ¬ (1048576 : Int) < (n : Int) := by omega
  go_enter Tryd.func4, Tryd.ntmps4
  go_wp2_with fail
  refine HD.out.mono ?_
  rintro e w1 ⟨s, hs, rfl, hg1⟩
  have HG1 := shade hg1
  have HY1 := shade (HY.out.on hg1)
  clear hg1 HY HD
  go_wp2_with fail
  refine (ReadInstr_is s _ (by omega) HY1.out).mono ?_
  rintro e w2 ⟨op, d, a, b, k, ok, rfl, hR, hg2⟩
  have HR := shade hR
  have HB := shade (Holds5.fresh w2 24 #[.string op, .int .i64 d, .int .i64 a, .int .i64 b, .int .i64 k])
  have hg3 := grown_same hg2 (World.grownBy_alloc w2 (.cells #[.string op, .int .i64 d, .int .i64 a, .int .i64 b, .int .i64 k] 24) none)
  have HG2 := shade (grown_same HG1.out hg3)
  have HY2 := shade (HY1.out.on hg3)
  clear hR hg2 hg3 HG1 HY1
  go_wp2_with fail
  refine (SpecReadInstr_is s _ (by omega)).mono ?_
  rintro e w3 ⟨op', d', a', b', k', ok', rfl, hR', hg4⟩
  obtain ⟨rfl, rfl, rfl, rfl, rfl, rfl⟩ := RIv.det HR.out hR'
  have HB3 := shade ((HB.out.grown hg4 (by simp)).alloc (.cells #[.string op, .int .i64 d, .int .i64 a, .int .i64 b, .int .i64 k] 24))
  have hg5 := grown_same hg4 (World.grownBy_alloc w3 (.cells #[.string op, .int .i64 d, .int .i64 a, .int .i64 b, .int .i64 k] 24) none)
  have HG3 := shade (grown_same HG2.out hg5)
  have HY3 := shade (HY2.out.on hg5)
  have q0 := HB3.out.look 0; have q1 := HB3.out.look 1; have q2 := HB3.out.look 2; have q3 := HB3.out.look 3; have q4 := HB3.out.look 4
  simp at q0 q1 q2 q3 q4
  clear hR' hg4 hg5 HG2 HY2 HB
  cases ok with
  | false =>
    go_wp2_with fail
    go_ret
    exact ⟨rfl, below_of_grown HG3.out⟩
  | true =>
    obtain ⟨hv, hsh⟩ := HR.out.yes rfl
    have HV := shade hv
    have HSH := shade hsh
    have hc1 : ((tx s).toList == (tx s).toList) = true := by simp
    clear hv hsh HR
    go_wp2_with fail
    refine (ShowInstr_any op d a b k _ HY3.out.wt HY3.out.pow).mono ?_
    rintro e w4 ⟨rfl, hg6⟩
    rw [HSH.out]
    have HG4 := shade (grown_same HG3.out hg6)
    have HY4 := shade (HY3.out.on hg6)
    have HB4 := shade (HB3.out.grown hg6 (by simp))
    clear hg6 q0 q1 q2 q3 q4 HG3 HY3 HB3
    have q0 := HB4.out.look 0; have q1 := HB4.out.look 1; have q2 := HB4.out.look 2; have q3 := HB4.out.look 3; have q4 := HB4.out.look 4
    simp at q0 q1 q2 q3 q4
    go_wp2_with fail
    refine (ValidInstr_any op d a b k _ HY4.out.wt).mono ?_
    rintro e w5 ⟨rfl, hb7⟩
    rw [HV.out]
    have HG5 := shade (grown_same HG4.out (grown_of_below hb7))
    clear hb7 HG4 HY4 q0 q1 q2 q3 q4
    go_wp2_with fail
    go_ret
    exact ⟨rfl, below_of_grown HG5.out⟩
set_option maxRecDepth 100000 in
set_option maxHeartbeats 4000000 in
theorem showInstr_walk (A : Option Addr) (n cap : Nat) (zs : List Int) (w : World) (hB : Bys w A n cap zs) (hy : LY w) :
    Calls Tryd.prog 3 #[.slice A n cap] w fun e w' => e = .returned (.bool true) ∧ Below w.heap.size w w' := by
  have hn0 := hB.big0
  have HD := shade (DrawShowInstr_any A n cap zs w (hB.alloc _))
  have HY := shade hy
  clear hB hy
  by_cases hl : 1048576 < n
  · have hl1 : (1048576 : Int) < (n : Int) := by omega
    go_enter Tryd.func3, Tryd.ntmps3
    go_wp2_with fail
    go_ret
    exact ⟨rfl, below_of_grown (grown_refl _ _)⟩
  have hl1 : ¬ (1048576 : Int) < (n : Int) := by omega
  go_enter Tryd.func3, Tryd.ntmps3
  go_wp2_with fail
  refine HD.out.mono ?_
  rintro e w1 ⟨op, d, a, b, k, rfl, hb1⟩
  have HB := shade (Holds5.fresh w1 24 #[.string op, .int .i64 d, .int .i64 a, .int .i64 b, .int .i64 k])
  have hg3 := grown_same (grown_of_below hb1) (World.grownBy_alloc w1 (.cells #[.string op, .int .i64 d, .int .i64 a, .int .i64 b, .int .i64 k] 24) none)
  have HG1 := shade hg3
  have HY1 := shade (HY.out.on hg3)
  have q0 := HB.out.look 0; have q1 := HB.out.look 1; have q2 := HB.out.look 2; have q3 := HB.out.look 3; have q4 := HB.out.look 4
  simp at q0 q1 q2 q3 q4
  clear hb1 hg3 HY HD
  go_wp2_with fail
  refine (ShowInstr_any op d a b k _ HY1.out.wt HY1.out.pow).mono ?_
  rintro e w2 ⟨rfl, hg2⟩
  have HG2 := shade (grown_same HG1.out hg2)
  have HY2 := shade (HY1.out.on hg2)
  have HB2 := shade (HB.out.grown hg2 (by simp))
  obtain ⟨X, hX⟩ : ∃ X, showL op.toList d a b k = X := ⟨_, rfl⟩
  have HX := shade hX
  rw [hX]
  have hc1 : ((tx X).toList == (tx X).toList) = true := by simp
  have hc2 : ((tx X).toList != (tx X).toList) = false := by simp
  clear hg2 hX HG1 HY1 HB q0 q1 q2 q3 q4
  have q0 := HB2.out.look 0; have q1 := HB2.out.look 1; have q2 := HB2.out.look 2; have q3 := HB2.out.look 3; have q4 := HB2.out.look 4
  simp at q0 q1 q2 q3 q4
  go_wp2_with fail
  refine (SpecShowInstr_any op d a b k _).mono ?_
  rintro e w3 ⟨rfl, hg4⟩
  rw [HX.out]
  have HG3 := shade (grown_same HG2.out hg4)
  have HY3 := shade (HY2.out.on hg4)
  have HB3 := shade (HB2.out.grown hg4 (by simp))
  clear hg4 HG2 HY2 HB2 q0 q1 q2 q3 q4
  have q0 := HB3.out.look 0; have q1 := HB3.out.look 1; have q2 := HB3.out.look 2; have q3 := HB3.out.look 3; have q4 := HB3.out.look 4
  simp at q0 q1 q2 q3 q4
  by_cases hX0 : X = []
  · have hc3 : ((tx X).toList == ([] : List UInt8)) = true := by rw [hX0, tx_toList]; rfl
    clear hX0
    go_wp2_with fail
    refine (SpecShowInstr_any op d a b k _).mono ?_
    rintro e w4 ⟨rfl, hg5⟩
    rw [HX.out]
    have HG4 := shade (grown_same HG3.out hg5)
    clear hg5 HG3 HY3 HB3 q0 q1 q2 q3 q4
    go_wp2_with fail
    go_ret
    exact ⟨rfl, below_of_grown HG4.out⟩
  · have hc3 : ((tx X).toList == ([] : List UInt8)) = false := by rw [tx_toList]; simpa using hX0
    have hv : vB op.toList d a b k = true := shown_valid HX.out hX0
    have hlen := showL_len5 hv
    rw [HX.out] at hlen
    have HV := shade hv
    clear hv hX0
    go_wp2_with fail
    refine (ReadInstr_is X _ (by omega) HY3.out).mono ?_
    rintro e w4 ⟨op', d', a', b', k', ok', rfl, hR', hg5⟩
    obtain ⟨rfl, rfl, rfl, rfl, rfl, rfl⟩ := RIv.det hR' (RIv.some HV.out HX.out)
    have HB4 := shade ((HB3.out.grown hg5 (by simp)).alloc (.cells #[.string op', .int .i64 d', .int .i64 a', .int .i64 b', .int .i64 k'] 24))
    have HG4 := shade (grown_same (grown_same HG3.out hg5) (World.grownBy_alloc w4 (.cells #[.string op', .int .i64 d', .int .i64 a', .int .i64 b', .int .i64 k'] 24) none))
    clear hg5 HG3 HY3 HB3 hR' q0 q1 q2 q3 q4
    have q0 := HB4.out.look 0; have q1 := HB4.out.look 1; have q2 := HB4.out.look 2; have q3 := HB4.out.look 3; have q4 := HB4.out.look 4
    simp at q0 q1 q2 q3 q4
    go_wp2_with fail
    go_ret
    exact ⟨rfl, below_of_grown HG4.out⟩
end Go.Proofs.YtjbbmnmbcdohiaaDoor
