/- The laws' isIn and ascends, for every row of numbers that can be read. TraceOf answers as its model for the drawn program, machine and fuel; it is as long as the run, and each one comes next behind the one ahead of it. TraceOf answers as its model for the drawn program, machine and fuel; it is as long as the run, and each one comes next behind the one ahead of it. -/
import Derived.Test.YtbdlbooooiinkaaDoorG97
import Derived.Test.YtbdlbooooiinkaaDoorW120
import Derived.Test.YtbdlbooooiinkaaDoorG130
import Derived.Test.YtbdlbooooiinkaaDoorG410
import Derived.Deep.RegionHeld3
import Derived.IntWalk
import Derived.Deep.QuietTactic
import Derived.BigQuiet
namespace Go.Proofs.YtbdlbooooiinkaaDoor
open Go.RowKit
set_option linter.unusedSimpArgs false
/-- Is a number among the first of a row? -/
def isInB (f : Nat → Int) : Nat → Int → Bool
  | 0, _ => false
  | k + 1, x => isInB f k x || (f k == x)
theorem isInB_iff (f : Nat → Int) (x : Int) : ∀ n, isInB f n x = true ↔ ∃ j, j < n ∧ f j = x := by
  intro n
  induction n with
  | zero =>
    constructor
    · intro h
      cases h
    · rintro ⟨j, hj, _⟩
      omega
  | succ n ih =>
    show (isInB f n x || (f n == x)) = true ↔ _
    rw [Bool.or_eq_true, ih, beq_iff_eq]
    constructor
    · rintro (⟨j, hj, h⟩ | h)
      · exact ⟨j, by omega, h⟩
      · exact ⟨n, by omega, h⟩
    · rintro ⟨j, hj, h⟩
      by_cases e : j = n
      · subst e
        exact .inr h
      · exact .inl ⟨j, by omega, h⟩
theorem isInB_hit (f : Nat → Int) (x : Int) (n j : Nat) (hj : j < n) (h : f j = x) : isInB f n x = true := (isInB_iff f x n).2 ⟨j, hj, h⟩
theorem isIn_zero (A : Option Addr) (c : Nat) (x : Int) (w : World) :
    Calls Tryd.prog 14 #[.slice A 0 c, .int .i64 x] w fun e w' => e = .returned (.bool false) ∧ w = w' := by
  go_enter Tryd.func14, Tryd.ntmps14
  go_wp2
  refine wp_loop_rounds 1 ?_
  rw [rounds_succ]
  go_wp2
  go_ret
  exact ⟨rfl, rfl⟩
set_option maxHeartbeats 1000000 in
theorem isIn_at (b off n c : Nat) (f : Nat → Int) (x : Int) (w : World) (hn : n ≤ 9223372036854775807) (h : Nums w (some ⟨b, off, none⟩) n f) :
    Calls Tryd.prog 14 #[.slice (some ⟨b, off, none⟩) n c, .int .i64 x] w fun e w' => e = .returned (.bool (isInB f n x)) ∧ w = w' := by
  have H := shade h
  clear h
  go_enter Tryd.func14, Tryd.ntmps14
  go_wp2
  go_loop [5] (fun i => ∃ k : Nat, k ≤ n ∧ i = .int .i64 k ∧ isInB f k x = false) (fun i => n - (intOf i).toNat)
  case atStart => exact ⟨0, Nat.zero_le _, rfl, rfl⟩
  case round =>
    obtain ⟨k, hk, rfl, hno⟩ := hrel
    have HNO := shade hno
    clear hno
    by_cases hkn : k < n
    · have q1 := H.out.cell hkn
      rcases he : (f k == x) with _ | _
      · have HE := shade he
        obtain ⟨y, hy⟩ : ∃ y, f k = y := ⟨_, rfl⟩
        rw [hy] at q1 he
        clear hy
        go_wp2
        go_round
        case rel =>
          refine ⟨k + 1, by omega, by go_num, ?_⟩
          show (isInB f k x || (f k == x)) = false
          rw [HNO.out, HE.out]
          rfl
        case measure => simp [intOf]; omega
      · have HE := shade (isInB_hit f x n k hkn (beq_iff_eq.1 he))
        rw [beq_iff_eq.1 he] at q1
        clear he
        go_wp2
        go_ret
        exact ⟨ret_b HE.out.symm, rfl⟩
    · have hkn2 : k = n := by omega
      subst hkn2
      go_wp2
      go_ret
      exact ⟨ret_b HNO.out.symm, rfl⟩
theorem isIn_any (A : Option Addr) (n c : Nat) (f : Nat → Int) (x : Int) (w : World) (hn : n ≤ 9223372036854775807) (h : Nums w A n f) :
    Calls Tryd.prog 14 #[.slice A n c, .int .i64 x] w fun e w' => e = .returned (.bool (isInB f n x)) ∧ w = w' := by
  by_cases h0 : n = 0
  · subst h0
    exact isIn_zero A c x w
  · obtain ⟨b, off, rfl, _⟩ := h.resolve_left h0
    exact isIn_at b off n c f x w hn h
theorem ascends_zero (A : Option Addr) (c : Nat) (w : World) :
    Calls Tryd.prog 26 #[.slice A 0 c] w fun e w' => e = .returned (.bool true) ∧ w.grownBy w' none := by
  go_enter Tryd.func26, Tryd.ntmps26
  go_wp2
  refine wp_loop_rounds 1 ?_
  rw [rounds_succ]
  go_wp2
  go_ret
  exact ⟨rfl, grown_refl _ _⟩
set_option maxHeartbeats 1000000 in
theorem ascends_at (b off n c : Nat) (f : Nat → Int) (w : World) (hn0 : 0 < n) (hn : n ≤ 9223372036854775807) (h : Nums w (some ⟨b, off, none⟩) n f) (ha : ∀ j, j + 1 < n → f j < f (j + 1)) :
    Calls Tryd.prog 26 #[.slice (some ⟨b, off, none⟩) n c] w fun e w' => e = .returned (.bool true) ∧ w.grownBy w' none := by
  have H := shade h
  have HA := shade ha
  clear h ha
  go_enter Tryd.func26, Tryd.ntmps26
  go_wp2
  go_loopw [3] (fun i wr => ∃ k m : Nat, k + 1 ≤ n ∧ i = .int .i64 ((k : Int) + 1) ∧ wr = w.drewN m) (fun i _ => n - (intOf i).toNat)
  case atStart => exact ⟨0, 0, by omega, rfl, rfl⟩
  case round =>
    obtain ⟨k, m, hk, rfl, rfl⟩ := hrel
    by_cases hkn : k + 1 < n
    · have q1 := H.out.cell hkn
      have q2 := H.out.cell (show k < n by omega)
      have q3 := HA.out k hkn
      generalize f (k + 1) = y at *
      generalize f k = z at *
      go_wp2
      go_quiet (fail)
      go_wp2
      go_roundw
      case rel => exact ⟨k + 1, _, by omega, by go_num, rfl⟩
      case measure => simp [intOf]; omega
    · have hkn2 : n = k + 1 := by omega
      subst hkn2
      go_wp2
      go_ret
      exact ⟨rfl, grown_drewN (grown_refl _ _) _⟩
theorem ascends_any (A : Option Addr) (n c : Nat) (f : Nat → Int) (w : World) (hn : n ≤ 9223372036854775807) (h : Nums w A n f) (ha : ∀ j, j + 1 < n → f j < f (j + 1)) :
    Calls Tryd.prog 26 #[.slice A n c] w fun e w' => e = .returned (.bool true) ∧ w.grownBy w' none := by
  by_cases h0 : n = 0
  · subst h0
    exact ascends_zero A c w
  · obtain ⟨b, off, rfl, _⟩ := h.resolve_left h0
    exact ascends_at b off n c f w (by omega) hn h ha
end Go.Proofs.YtbdlbooooiinkaaDoor

namespace Go.Proofs.YtbdlbooooiinkaaDoor
open Go.RowKit
set_option linter.unusedSimpArgs false
theorem equalInts_rows (lo1 hi1 lo2 hi2 K : Nat) (v1 v2 : Value) (f : Nat → Int) (w : World) (hK : K ≤ 300) (h1 : RowO w lo1 hi1 3 v1 K (numL K f)) (h2 : RowO w lo2 hi2 3 v2 K (numL K f)) :
    Calls Tryd.prog 18 #[v1, v2] w fun e w' => e = .returned (.bool true) ∧ w.grownBy w' none := by
  obtain ⟨A1, c1, rfl, hn1⟩ := h1.nums
  obtain ⟨A2, c2, rfl, hn2⟩ := h2.nums
  refine (equalInts_any A1 A2 c1 c2 K f f w (by omega) hn1 hn2 (fun _ _ => rfl)).mono ?_
  rintro e w' ⟨rfl, m, rfl⟩
  exact ⟨rfl, grown_drewN (grown_refl _ _) _⟩
theorem nums_on {w w' : World} {A : Option Addr} {n : Nat} {f : Nat → Int} (h : Nums w A n f) (hg : w.grownBy w' none) : Nums w' A n f := h.grown hg (by intro _ _ _ e; cases e)
theorem NumRes.num {k : Nat} {f : Nat → Int} {w w' : World} {e : Ending} (h : NumRes k f w e w') : ∃ A c, e = .returned (.slice A k c) ∧ Nums w' A k f ∧ RowO w' w.heap.size w'.heap.size 3 (.slice A k c) k (numL k f) ∧ w.grownBy w' none := by
  obtain ⟨v, rfl, hR, hg⟩ := NumRes.row h
  obtain ⟨A, c, rfl, hn⟩ := hR.nums
  exact ⟨A, c, rfl, hn, hR, hg⟩
theorem OkS.vmB' {s : Sta} (h : OkS s) : vmB s.at' 4 8 s.r s.m = true := by
  have h1 := h.lo
  have h2 := h.hi
  have h3 : okL 4 s.r = true := okL_iff.2 fun j hj => by
    have := h.r j hj
    simp [inRB]
    omega
  have h4 : okL 8 s.m = true := okL_iff.2 fun j hj => by
    have := h.m j hj
    simp [inRB]
    omega
  simp [vmB, inRB, h3, h4]
  omega
/-- A step leads to one of those that may come next. -/
theorem sNext_in {n : Nat} {F : Nat → Ins} {s : Sta} (hv : vcB n F = true) (hs : OkS s) (hh : sHalt n F s = false) : (sNext F s).at' ∈ nxI (F s.at'.toNat) s.at'.toNat := by
  obtain ⟨hlt, h9⟩ := halt_parts hh
  obtain ⟨_, _, _, hw, hn9, _⟩ := ins_parts hv hlt
  have e7 := word7 (F s.at'.toNat).op.toList
  have e8 := word8 (F s.at'.toNat).op.toList
  have h0 := hs.lo
  show stepAt (nOf F s.at') s.at'.toNat (raOf F s.at') (kOf F s.at') s.r ∈ _
  unfold nxI stepAt
  rw [h9, if_neg (by simp)]
  rw [hw] at e7 e8
  rw [← e7, ← e8, show kOf F s.at' = (F s.at'.toNat).k from rfl]
  generalize nOf F s.at' = m at *
  by_cases h8 : m = 8
  · subst h8
    simp
  · have h8b : ((m : Int) == 8) = false := beq_eq_false_iff_ne.2 (by omega)
    rw [h8b, if_neg h8]
    by_cases h7 : m = 7
    · subst h7
      rcases hk : ((F s.at'.toNat).k == (s.at'.toNat : Int) + 1) with _ | _
      · by_cases hr : s.r (raOf F s.at') = 0 <;> simp [hr]
      · have hk2 := beq_iff_eq.1 hk
        by_cases hr : s.r (raOf F s.at') = 0 <;> simp [hr, hk2]
    · have h7b : ((m : Int) == 7) = false := beq_eq_false_iff_ne.2 (by omega)
      rw [h7b, if_neg h7]
      simp
/-- What is told of a trace. -/
theorem trace_told (n : Nat) (F : Nat → Ins) (at' : Int) (n1 n2 : Nat) (f1 f2 : Nat → Int) (fuel : Int) (hn : n ≤ 9223372036854775807) (hn1 : n1 ≤ 9223372036854775807) (hn2 : n2 ≤ 9223372036854775807) :
    ∃ (K : Nat) (g : Nat → Sta), K ≤ 300 ∧ (∀ (A : Option Addr) (cap : Nat) (A1 : Option Addr) (c1 : Nat) (A2 : Option Addr) (c2 : Nat) (W : World), Code W A n F → Nums W A1 n1 f1 → Nums W A2 n2 f2 → Calls Tryd.prog 19 #[.slice A n cap, MV at' A1 n1 c1 A2 n2 c2, .int .i64 fuel] W (NumRes K (fun j => (g j).at') W)) ∧
      (∀ (A : Option Addr) (cap : Nat) (A1 : Option Addr) (c1 : Nat) (A2 : Option Addr) (c2 : Nat) (W : World), WT W → Code W A n F → Nums W A1 n1 f1 → Nums W A2 n2 f2 → Calls Tryd.prog 17 #[.slice A n cap, MV at' A1 n1 c1 A2 n2 c2, .int .i64 fuel] W (NumRes K (fun j => (g j).at') W)) ∧
      (K ≠ 0 → vcB n F = true ∧ (g 0).at' = at' ∧ (∀ j, j < K → 0 ≤ (g j).at' ∧ (g j).at' < n) ∧ (∀ j, j + 1 < K → (g (j + 1)).at' ∈ nxI (F (g j).at'.toNat) (g j).at'.toNat) ∧
        ∃ (at2 : Int) (k1 k2 : Nat) (g1 g2 : Nat → Int) (d : Bool), ∀ (A : Option Addr) (cap : Nat) (A1 : Option Addr) (c1 : Nat) (A2 : Option Addr) (c2 : Nat) (W : World), WT W → Code W A n F → Nums W A1 n1 f1 → Nums W A2 n2 f2 → Calls Tryd.prog 20 #[.slice A n cap, MV at' A1 n1 c1 A2 n2 c2, .int .i64 fuel] W (RunMRes W at2 k1 k2 g1 g2 K d)) := by
  obtain ⟨K, g, hK, hRun, hcase⟩ := run_told n F at' n1 n2 f1 f2 fuel hn
  refine ⟨K, g, hK, fun A cap A1 c1 A2 c2 W hC h1 h2 => ?_, fun A cap A1 c1 A2 c2 W hg hC h1 h2 => ?_, fun hK0 => ?_⟩
  · rcases hcase with ⟨hr, rfl⟩ | ⟨hr, rfl, rfl, rfl, hre⟩
    · exact SpecTraceOf_no A n cap F at' A1 n1 c1 A2 n2 c2 f1 f2 fuel W hn hC h1 h2 hn1 hn2 hr _
    · obtain ⟨hv, hm, hf0, hf1⟩ := runB_parts hr
      obtain ⟨fu, rfl⟩ := Int.eq_ofNat_of_zero_le hf0
      rw [Int.toNat_natCast] at hre
      obtain ⟨b1, o1, rfl, _⟩ := h1.resolve_left (by omega)
      obtain ⟨b2, o2, rfl, _⟩ := h2.resolve_left (by omega)
      refine (SpecTraceOf_yes A n cap F ⟨at', f1, f2⟩ b1 o1 c1 b2 o2 c2 fu W hn hC h1 h2 hv hm (by omega)).mono ?_
      rintro e w' ⟨k, hk, h⟩
      obtain rfl := hk.uniq hre
      exact h
  · exact TraceOf_res A n cap at' A1 n1 c1 A2 n2 c2 fuel K g W hK fun W' hW => hRun A cap A1 c1 A2 c2 W' (hg.below (below_of_grown hW) (wt_lt hg)) (hC.on hW) (h1.on hW) (h2.on hW)
  · rcases hcase with ⟨hr, h0⟩ | ⟨hr, rfl, rfl, rfl, hre⟩
    · exact absurd h0 hK0
    · obtain ⟨hv, hm, hf0, hf1⟩ := runB_parts hr
      have hok : ∀ j, j < K → OkS (sN F ⟨at', f1, f2⟩ j) := fun j hj => (okS_of hm).run hv j (fun i hi => hre.go i (by omega))
      refine ⟨hv, rfl, fun j hj => ?_, fun j hj => ?_, (sN F ⟨at', f1, f2⟩ K).at', 4, 8, (sN F ⟨at', f1, f2⟩ K).r, (sN F ⟨at', f1, f2⟩ K).m, sHalt n F (sN F ⟨at', f1, f2⟩ K), fun A cap A1 c1 A2 c2 W hg hC h1 h2 => ?_⟩
      · have h1 := (hok j hj).lo
        have h2 := (halt_parts (hre.go j hj)).1
        exact ⟨h1, by omega⟩
      · exact sNext_in hv (hok j (by omega)) (hre.go j (by omega))
      · obtain ⟨fu, rfl⟩ := Int.eq_ofNat_of_zero_le hf0
        rw [Int.toNat_natCast] at hre
        obtain ⟨b1, o1, rfl, _⟩ := h1.resolve_left (by omega)
        obtain ⟨b2, o2, rfl, _⟩ := h2.resolve_left (by omega)
        exact RunMachine_yes A n cap at' (some ⟨b1, o1, none⟩) 4 c1 (some ⟨b2, o2, none⟩) 8 c2 fu K (sN F ⟨at', f1, f2⟩ K) (sHalt n F (sN F ⟨at', f1, f2⟩ K)) W (by omega) fun W' hW => (runOf_yes A n cap F ⟨at', f1, f2⟩ b1 o1 c1 b2 o2 c2 fu W' (hg.below (below_of_grown hW) (wt_lt hg)) hn (hC.on hW) (h1.on hW) (h2.on hW) hv hm (by omega)).mono fun e w' h => h.resE hre
end Go.Proofs.YtbdlbooooiinkaaDoor

namespace Go.Proofs.YtbdlbooooiinkaaDoor
open Go.RowKit
set_option linter.unusedSimpArgs false
set_option maxRecDepth 100000 in
set_option maxHeartbeats 16000000 in
theorem fnTraceOf_walk (A : Option Addr) (n cap : Nat) (zs : List Int) (w : World) (hg : WT w) (hB : Bys w A n cap zs) :
    Calls Tryd.prog 4 #[.slice A n cap] w fun e w' => e = .returned (.bool true) ∧ Below w.heap.size w w' := by
  have HG := shade hg
  have HBy := shade hB
  have hcap := hB.fits
  have hbig := hB.big
  unfold maxLen at hbig
  clear hg hB
  by_cases hl : 1048576 < n
  · go_enter Tryd.func4, Tryd.ntmps4
    go_wp2_with fail
    go_ret
    exact ⟨rfl, rfl, rfl, rfl, Nat.le_refl _, fun _ _ => rfl⟩
  · have HD := shade (DrawTraceOf_any A n cap zs w HBy.out)
    go_enter Tryd.func4, Tryd.ntmps4
    go_wp2_with fail
    refine HD.out.mono ?_
    rintro e w1 ⟨Al, k, c, F, at', A1, n1, c1, A2, n2, c2, f1, f2, fu, rfl, hk, hC, hN1, hN2, ⟨hn1, hn2⟩, hfu, hgr⟩
    obtain ⟨K, g, hK, HSp, HIm, HTo⟩ := trace_told k F at' n1 n2 f1 f2 fu (by omega) (by omega) (by omega)
    have HSP := shade HSp; have HIM := shade HIm; have HTO := shade HTo
    have HNX := shade (fun (i : Int) W (hW : WT W) (hc : Code W Al k F) => (INextOf_any Al k c F i W hW (by omega) hc).mono fun _ _ h => h.num)
    have hga := World.grownBy_alloc w1 (.cells #[.int .i64 at', .slice A1 n1 c1, .slice A2 n2 c2] 26) none
    have hX : Holds5 (w1.alloc (.cells #[.int .i64 at', .slice A1 n1 c1, .slice A2 n2 c2] 26)) w1.heap.size 26 #[.int .i64 at', .slice A1 n1 c1, .slice A2 n2 c2] := Holds5.fresh w1 26 #[.int .i64 at', .slice A1 n1 c1, .slice A2 n2 c2]
    have HC := shade (hC.on hga); have HN1 := shade (hN1.on hga); have HN2 := shade (hN2.on hga); have HL := shade (grown_same hgr hga)
    clear HSp HIm HTo hC hN1 hN2 hgr HD
    go_upto_region 4 with (fail)
    obtain ⟨W1, hW⟩ : ∃ W1, w1.alloc (.cells #[.int .i64 at', .slice A1 n1 c1, .slice A2 n2 c2] 26) = W1 := ⟨_, rfl⟩
    rw [hW] at HC HN1 HN2 HL hX ⊢
    have x0 := hX.look 0; have x1 := hX.look 1; have x2 := hX.look 2
    simp at x0 x1 x2
    have HX := shade hX
    clear hX hga hW
    go_wp2_with fail
    refine (HIM.out _ _ _ _ _ _ _ (HG.out.below (below_of_grown HL.out) (wt_lt HG.out)) HC.out HN1.out HN2.out).mono ?_
    rintro e w2 h5
    obtain ⟨A5, c5, rfl, hN, hR, hgr⟩ := h5.num
    have HX2 := shade (HX.out.grown hgr (by intro e; cases e)); have HC2 := shade (HC.out.on hgr); have HN12 := shade (HN1.out.on hgr); have HN22 := shade (HN2.out.on hgr); have HL2 := shade (grown_same HL.out hgr); have HV := shade hR; have HO2 := shade hN
    clear x0 x1 x2 hgr hR hN h5 HX HC HN1 HN2 HL
    have x0 := HX2.out.look 0; have x1 := HX2.out.look 1; have x2 := HX2.out.look 2
    simp at x0 x1 x2
    go_wp2_with fail
    refine (HSP.out _ _ _ _ _ _ _ HC2.out HN12.out HN22.out).mono ?_
    rintro e w3 h5
    obtain ⟨v1, rfl, hR, hgr⟩ := NumRes.row h5
    have HX3 := shade (HX2.out.grown hgr (by intro e; cases e)); have HC3 := shade (HC2.out.on hgr); have HN13 := shade (HN12.out.on hgr); have HN23 := shade (HN22.out.on hgr); have HL3 := shade (grown_same HL2.out hgr); have HV3 := shade (HV.out.grown hgr); have HW3 := shade hR; have HO3 := shade (nums_on HO2.out hgr)
    clear x0 x1 x2 hgr hR h5 HX2 HC2 HN12 HN22 HL2 HV HO2
    go_wp2_with fail
    refine (equalInts_rows _ _ _ _ _ _ _ _ _ hK HV3.out HW3.out).mono ?_
    rintro e w4 ⟨rfl, hgr⟩
    have HX4 := shade (HX3.out.grown hgr (by intro e; cases e)); have HC4 := shade (HC3.out.on hgr); have HN14 := shade (HN13.out.on hgr); have HN24 := shade (HN23.out.on hgr); have HL4 := shade (grown_same HL3.out hgr); have HV4 := shade (HV3.out.grown hgr); have HO4 := shade (nums_on HO3.out hgr)
    clear hgr HX3 HC3 HN13 HN23 HL3 HV3 HW3 HO3
    have x0 := HX4.out.look 0; have x1 := HX4.out.look 1; have x2 := HX4.out.look 2
    simp at x0 x1 x2
    by_cases h0 : K = 0
    · have h0b : ((K : Int) == 0) = true := by rw [h0]; rfl
      clear h0
      go_wp2_with fail
      refine (HSP.out _ _ _ _ _ _ _ HC4.out HN14.out HN24.out).mono ?_
      rintro e w5 h5
      obtain ⟨v2, rfl, hR, hgr⟩ := NumRes.row h5
      have HL5 := shade (grown_same HL4.out hgr); have HV5 := shade (HV4.out.grown hgr); have HW5 := shade hR
      clear hgr hR h5
      go_wp2_with fail
      refine (equalInts_rows _ _ _ _ _ _ _ _ _ hK HV5.out HW5.out).mono ?_
      rintro e w6 ⟨rfl, hgr⟩
      have HL6 := shade (grown_same HL5.out hgr)
      clear hgr
      go_wp2_with fail
      go_ret
      exact ⟨rfl, below_of_grown HL6.out⟩
    · have h0b : ((K : Int) == 0) = false := by rw [beq_eq_false_iff_ne]; omega
      have hpos : 0 < K := by omega
      obtain ⟨hv, t0, t1, t2, at2, k1, k2, g1, g2, dd, hRun⟩ := HTO.out h0
      have HVT := shade hv; have HT0 := shade t0; have HT1 := shade t1; have HT2 := shade t2; have HRUN := shade hRun
      obtain ⟨bt, ot, rfl, -⟩ := HO4.out.resolve_left h0
      clear hv t0 t1 t2 hRun HV4 HTO HSP HIM h0
      go_wp2_with fail
      refine (HRUN.out _ _ _ _ _ _ _ (HG.out.below (below_of_grown HL4.out) (wt_lt HG.out)) HC4.out HN14.out HN24.out).mono ?_
      rintro e w5 ⟨B1, d1, B2, d2, rfl, -, hgr⟩
      have HX5 := shade (HX4.out.grown hgr (by intro e; cases e)); have HC5 := shade (HC4.out.on hgr); have HL5 := shade (grown_same HL4.out hgr); have HO5 := shade (nums_on HO4.out hgr)
      clear x0 x1 x2 hgr HX4 HC4 HN14 HN24 HL4 HO4 HRUN
      go_upto_region 8 with (fail)
      have hga := World.grownBy_alloc w5 (.cells #[.int .i64 at2, .slice B1 k1 d1, .slice B2 k2 d2] 26) none
      obtain ⟨W5, hW⟩ : ∃ W5, w5.alloc (.cells #[.int .i64 at2, .slice B1 k1 d1, .slice B2 k2 d2] 26) = W5 := ⟨_, rfl⟩
      rw [hW] at hga ⊢
      have HX6 := shade (HX5.out.grown hga (by intro e; cases e)); have HC6 := shade (HC5.out.on hga); have HL6 := shade (grown_same HL5.out hga); have HO6 := shade (nums_on HO5.out hga)
      clear hga hW HX5 HC5 HL5 HO5
      go_wp2_with fail
      go_loopw [10] (fun r wr => ∃ j : Nat, j + 1 ≤ K ∧ r = .int .i64 ((j : Int) + 1) ∧ W5.grownBy wr none) (fun r _ => K - (intOf r).toNat)
      case atStart => exact ⟨0, by omega, rfl, grown_refl _ _⟩
      case round =>
        obtain ⟨j, hj, rfl, hgw⟩ := hrel
        have HGW := shade hgw
        clear hgw
        by_cases hjK : j + 1 < K
        · obtain ⟨u0, u1⟩ := HT1.out j (by omega)
          have HIN := shade (show isInB (fun i => (nxA k F (g j).at').getD i 0) (nxA k F (g j).at').length (g (j + 1)).at' = true from by
            have hm : (g (j + 1)).at' ∈ nxA k F (g j).at' := by
              unfold nxA
              rw [if_pos ⟨HVT.out, u0, u1⟩]
              exact HT2.out j hjK
            obtain ⟨i, hi, e⟩ := List.getElem_of_mem hm
            exact isInB_hit _ _ _ i hi (by
              show (nxA k F (g j).at').getD i 0 = _
              rw [List.getD_eq_getElem?_getD, List.getElem?_eq_getElem hi, e]
              rfl))
          have HNJ := shade (HNX.out (g j).at')
          have HLE := shade (nxA_le k F (g j).at')
          have HCELL := shade (fun W (hW : W5.grownBy W none) => show W.cell? ⟨bt, ot + j, none⟩ = some (.int .i64 (g j).at') ∧ W.cell? ⟨bt, ot + (j + 1), none⟩ = some (.int .i64 (g (j + 1)).at') from ⟨(nums_on HO6.out hW).cell (show j < K by omega), (nums_on HO6.out hW).cell hjK⟩)
          obtain ⟨l1, hl1⟩ : ∃ l1, nxA k F (g j).at' = l1 := ⟨_, rfl⟩
          rw [hl1] at HIN HNJ HLE
          obtain ⟨x, hx⟩ : ∃ x, (g j).at' = x := ⟨_, rfl⟩
          obtain ⟨y, hy⟩ : ∃ y, (g (j + 1)).at' = y := ⟨_, rfl⟩
          rw [hx] at HNJ HCELL
          rw [hy] at HCELL HIN
          clear hl1 hx hy u0 u1
          have hj300 : j < 300 := by omega
          go_wp2_with fail
          have HA := shade (grown_same HGW.out (grown_drew1 wr))
          have hb0 : (0 : Int) ≤ (j : Int) := by omega
          have hb1 : (j : Int) < (K : Int) := by omega
          have hb2 : (0 : Int) ≤ (j : Int) + 1 := by omega
          have hb3 : (j : Int) + 1 < (K : Int) := by omega
          have ht : ((j : Int) + 1).toNat = j + 1 := by omega
          have hw2 : IntKind.i64.wrap (j : Int) = (j : Int) := IntWalk.i64_in _ (by omega)
          have hw1 : IntKind.i64.wrap ((j : Int) + 1 - 1) = (j : Int) := by
            rw [show (j : Int) + 1 - 1 = (j : Int) by omega]
            exact IntWalk.i64_in _ (by omega)
          go_region_held3 (fun w' => w'.cell? ⟨bt, ot + j, none⟩ = some (.int .i64 x) ∧ w'.cell? ⟨bt, ot + (j + 1), none⟩ = some (.int .i64 y))
            (first | with_reducible exact HCELL.out _ HA.out | with_reducible exact HCELL.out _ HB.out)
            (first
              | (go_at_call 15; refine (HNJ.out _ (HG.out.below (below_of_grown (grown_same HL6.out HA.out)) (wt_lt HG.out)) (HC6.out.on HA.out)).mono ?_; rintro e w7 h7; obtain ⟨A7, c7, rfl, hN7, -, hg7⟩ := h7.num; have HB := shade (grown_same HA.out hg7); have HN7 := shade hN7; clear hN7 hg7 h7)
              | (go_at_call 14; refine (isIn_any _ _ _ _ _ _ (by have := HLE.out; omega) HN7.out).mono ?_; rw [HIN.out]; rintro e w8 ⟨rfl, rfl⟩))
          all_goals
            rename_i hHeld
            clear hHeld hb0 hb1 hb2 hb3 ht hw1 hw2
            go_wp2_with fail
            go_roundw
            case rel => exact ⟨j + 1, by omega, by go_num, HB.out⟩
            case measure => simp [intOf]; omega
        · obtain rfl : K = j + 1 := by omega
          have hO := nums_on HO6.out HGW.out
          have y0 := hO.cell (show 0 < j + 1 by omega)
          rw [Nat.add_zero] at y0
          have y1 : wr.cell? ⟨bt, ot, none⟩ = some (.int .i64 at') := by rw [y0]; exact congrArg (fun z => some (Value.int .i64 z)) HT0.out
          have hX := HX6.out.grown HGW.out (by intro e; cases e)
          have x0 := hX.look 0
          simp at x0
          have HL9 := shade (grown_same HL6.out HGW.out)
          clear y0 hX hO
          go_wp2_with fail
          go_quiet (fail)
          go_wp2_with fail
          go_ret
          exact ⟨rfl, below_of_grown (grown_drewN HL9.out _)⟩
end Go.Proofs.YtbdlbooooiinkaaDoor
