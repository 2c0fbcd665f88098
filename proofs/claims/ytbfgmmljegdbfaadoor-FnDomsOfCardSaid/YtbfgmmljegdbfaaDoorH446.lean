/- ReachOf and its model answer alike. Rows of Booleans that a call has made; their marks. The traces of the machines that a law tries go where there is a way. ReachOf answers as its model for the drawn program; what is stepped is reached, and what comes next of what is reached. -/
import Derived.Test.YtbfgmmljegdbfaaDoorH443
import Derived.Test.YtbfgmmljegdbfaaDoorG94
import Derived.Test.YtbfgmmljegdbfaaDoorG130
import Derived.Deep.QuietTactic
import Derived.BigQuiet
namespace Go.Proofs.YtbfgmmljegdbfaaDoor
open Go.RowKit Go.Shelf
set_option linter.unusedSimpArgs false
theorem nowhere_any (x : Int) (w : World) : Calls Tryd.prog 55 #[.int .i64 x] w fun e w' => e = .returned (.bool false) ∧ w = w' := by
  go_enter Tryd.func55, Tryd.ntmps55
  go_wp2
  go_ret
  exact ⟨rfl, rfl⟩
theorem MarkRes.congr {k : Nat} {f g : Nat → Bool} {w w' : World} {e : Ending} (h : MarkRes k f w e w') (hf : ∀ y, y < k → f y = g y) : MarkRes k g w e w' := by
  obtain ⟨v, he, ho, hg⟩ := h
  exact ⟨v, he, by rw [← bolL_congr k f g hf]; exact ho, hg⟩
theorem MarkRes.after {k : Nat} {f : Nat → Bool} {w w1 w2 : World} {e : Ending} (hg : w.grownBy w1 none) (h : MarkRes k f w1 e w2) : MarkRes k f w e w2 := by
  obtain ⟨v, he, ho, h2⟩ := h
  exact ⟨v, he, World.ownsRow.mono ho hg.size, grown_same hg h2⟩
theorem MarkRes.nil (f : Nat → Bool) (w w' : World) (hg : w.grownBy w' none) : MarkRes 0 f w (.returned (.slice none 0 0)) w' := ⟨_, rfl, World.ownsRow_nil _ _ _ _, hg⟩
/-- What 'reached' leaves without a cut. -/
theorem reached_no (A : Option Addr) (n c : Nat) (F : Nat → Ins) (w : World) (hv : vcB n F = true) (hwt : WT w) (h : Code w A n F) :
    Calls Tryd.prog 54 #[.slice A n c, .func (.func 55) #[] #[]] w fun e w' => ∃ r : Nat → Bool, (∀ y, y ≤ n → (r y = true ↔ Way F n noCut 0 y)) ∧ MarkRes (n + 1) r w e w' := by
  refine reached_any A n c 55 #[] F noCut (fun _ => True) w hv hwt h trivial (fun _ _ _ _ _ => trivial) (enters_of Tryd.func55 (by kernel_rfl) rfl) (fun x W _ _ _ _ => ?_)
  refine (nowhere_any (x : Int) W).mono ?_
  rintro e w' ⟨rfl, rfl⟩
  exact ⟨rfl, grown_refl _ _⟩
/-- ReachOf and its model leave the same marks. -/
theorem reach_both (n : Nat) (F : Nat → Ins) (hn : n ≤ 9223372036854775807) :
    ∃ (K : Nat) (f : Nat → Bool), K ≤ 300 ∧ (∀ (A : Option Addr) (c : Nat) (W : World), Code W A n F → Calls Tryd.prog 14 #[.slice A n c] W (MarkRes K f W)) ∧
      (∀ (A : Option Addr) (c : Nat) (W : World), WT W → Code W A n F → Calls Tryd.prog 16 #[.slice A n c] W (MarkRes K f W)) ∧
      ((vcB n F = false ∧ K = 0) ∨ (vcB n F = true ∧ K = n + 1 ∧ ∀ y, y ≤ n → (f y = true ↔ Way F n noCut 0 y))) := by
  rcases hv : vcB n F with _ | _
  · refine ⟨0, fun _ => false, by omega, fun A c W hC => ?_, fun A c W hg hC => ?_, .inl ⟨rfl, rfl⟩⟩
    · have HV := shade (validCode_any A n c F W hn hC)
      rw [hv] at HV
      clear hv hC
      go_enter Tryd.func14, Tryd.ntmps14
      go_wp2_with fail
      refine HV.out.mono ?_
      rintro e w1 ⟨rfl, hgr⟩
      have HR := shade hgr
      clear hgr HV
      go_wp2_with fail
      go_ret
      exact MarkRes.nil _ _ _ HR.out
    · have HV := shade (ValidCode_any A n c F W hg hn hC)
      rw [hv] at HV
      clear hv hC hg
      go_enter Tryd.func16, Tryd.ntmps16
      go_wp2_with fail
      refine HV.out.mono ?_
      rintro e w1 ⟨rfl, hgr⟩
      have HR := shade hgr
      clear hgr HV
      go_wp2_with fail
      go_ret
      exact MarkRes.nil _ _ _ HR.out
  · have hn40 := vcB_40 hv
    obtain ⟨f, hf⟩ : ∃ f : Nat → Bool, ∀ y, f y = true ↔ Way F n noCut 0 y := ⟨fun y => @decide _ (Classical.propDecidable (Way F n noCut 0 y)), fun y => @decide_eq_true_iff _ (Classical.propDecidable _)⟩
    have hbridge : ∀ (r : Nat → Bool), (∀ y, y ≤ n → (r y = true ↔ Way F n noCut 0 y)) → ∀ y, y < n + 1 → r y = f y := fun r hr y hy => by
      rw [Bool.eq_iff_iff, hr y (by omega), hf y]
    have HB := shade hbridge
    have HVT := shade hv
    refine ⟨n + 1, f, by omega, fun A c W hC => ?_, fun A c W hg hC => ?_, .inr ⟨rfl, rfl, fun y _ => hf y⟩⟩
    · have HV := shade (validCode_any A n c F W hn hC)
      rw [hv] at HV
      have HC := shade hC
      clear hv hC hf hbridge
      go_enter Tryd.func14, Tryd.ntmps14
      go_wp2_with fail
      refine HV.out.mono ?_
      rintro e w1 ⟨rfl, hgr⟩
      have HR := shade hgr
      clear hgr HV
      go_wp2_with fail
      refine (specReached_any A n c F w1 HVT.out (HC.out.on HR.out)).mono ?_
      rintro e w2 ⟨r, hr, v, rfl, ho, hg2⟩
      have HO := shade (MarkRes.after HR.out ((show MarkRes (n + 1) r w1 (.returned v) w2 from ⟨v, rfl, ho, hg2⟩).congr (HB.out r hr)))
      clear ho hg2 hr
      go_wp2_with fail
      go_ret
      exact HO.out
    · have HV := shade (ValidCode_any A n c F W hg hn hC)
      rw [hv] at HV
      have HC := shade hC
      have HG := shade hg
      clear hv hC hf hbridge hg
      go_enter Tryd.func16, Tryd.ntmps16
      go_wp2_with fail
      refine HV.out.mono ?_
      rintro e w1 ⟨rfl, hgr⟩
      have HR := shade hgr
      clear hgr HV
      go_wp2_with fail
      refine (reached_no A n c F w1 HVT.out (HG.out.below (below_of_grown HR.out) (wt_lt HG.out)) (HC.out.on HR.out)).mono ?_
      rintro e w2 ⟨r, hr, v, rfl, ho, hg2⟩
      have HO := shade (MarkRes.after HR.out ((show MarkRes (n + 1) r w1 (.returned v) w2 from ⟨v, rfl, ho, hg2⟩).congr (HB.out r hr)))
      clear ho hg2 hr
      go_wp2_with fail
      go_ret
      exact HO.out
end Go.Proofs.YtbfgmmljegdbfaaDoor

namespace Go.Proofs.YtbfgmmljegdbfaaDoor
open Go.RowKit
theorem RowO.bols {wr : World} {lo hi : Nat} {v : Value} {K : Nat} {f : Nat → Bool} (h : RowO wr lo hi 4 v K (bolL K f)) : ∃ A c, v = .slice A K c ∧ Bols wr A K f := by
  rcases h.own.2 with ⟨e', h0⟩ | ⟨g', cap', cur, e', _⟩
  · exact ⟨none, 0, by rw [e', h0], .inl h0⟩
  · have ho := h.own
    rw [e'] at ho
    exact ⟨some ⟨g', 0, none⟩, cap', e', OwnB.bols ho⟩
theorem MarkRes.row {k : Nat} {f : Nat → Bool} {w w' : World} {e : Ending} (h : MarkRes k f w e w') : ∃ v, e = .returned v ∧ RowO w' w.heap.size w'.heap.size 4 v k (bolL k f) ∧ w.grownBy w' none := by
  obtain ⟨v, he, ho, hg⟩ := h
  exact ⟨v, he, ⟨ho, fun i hi => (World.ownsRow.lt ho i hi).2⟩, hg⟩
theorem markBoolS_row (lo hi K : Nat) (v : Value) (f : Nat → Bool) (m : Int) (w : World) (hm0 : 0 ≤ m) (hm : m + K ≤ 9223372036854775807) (h : RowO w lo hi 4 v K (bolL K f)) :
    Calls Tryd.prog 20 #[v, .int .i64 m] w fun e w' => e = .returned (.int .i64 (m + K)) ∧ RowO w' lo hi 4 v K (bolL K (mk3 m)) ∧ w.grownBy w' v.ownBlock := by
  rcases h.own.2 with ⟨e', h0⟩ | ⟨g', cap', cur, e', _⟩
  · subst e'
    subst h0
    refine (markBoolS_zero none 0 m w).mono ?_
    rintro e w' ⟨rfl, rfl⟩
    exact ⟨by simp, ⟨h.own, h.hib⟩, grown_refl _ _⟩
  · have ho := h.own
    have hb := h.hib
    subst e'
    refine (markBoolS_at lo g' K cap' f m w hm0 hm ho).mono ?_
    rintro e w' ⟨rfl, h1, h2⟩
    exact ⟨rfl, ⟨h1, hb⟩, h2⟩
theorem heldBoolS_row (lo hi K : Nat) (v : Value) (m : Int) (w : World) (hm0 : 0 ≤ m) (hm : m + K ≤ 9223372036854775807) (h : RowO w lo hi 4 v K (bolL K (mk3 m))) :
    Calls Tryd.prog 21 #[v, .int .i64 m] w fun e w' => e = .returned (.int .i64 (m + K)) ∧ w = w' := by
  obtain ⟨A, c, rfl, hn⟩ := h.bols
  exact heldBoolS_any A K c m w hm0 hm hn
theorem eqBoolS_row (lo1 hi1 lo2 hi2 K : Nat) (v1 v2 : Value) (f : Nat → Bool) (w : World) (hK : K ≤ 300) (h1 : RowO w lo1 hi1 4 v1 K (bolL K f)) (h2 : RowO w lo2 hi2 4 v2 K (bolL K f)) :
    Calls Tryd.prog 17 #[v1, v2] w fun e w' => e = .returned (.bool true) ∧ w.grownBy w' none := by
  obtain ⟨A1, c1, rfl, hn1⟩ := h1.bols
  obtain ⟨A2, c2, rfl, hn2⟩ := h2.bols
  refine (eqBoolS_any A1 A2 c1 c2 K f f w (by omega) hn1 hn2 (fun _ _ => rfl)).mono ?_
  rintro e w' ⟨rfl, m, rfl⟩
  exact ⟨rfl, grown_drewN (grown_refl _ _) _⟩

end Go.Proofs.YtbfgmmljegdbfaaDoor

namespace Go.Proofs.YtbfgmmljegdbfaaDoor
open Go.RowKit
set_option linter.unusedSimpArgs false
/-- A step leads to one of those that may come next. -/
theorem sNext_in {n : Nat} {F : Nat → Ins} {s : Sta} (hv : vcB n F = true) (hs : OkS s) (hh : sHalt n F s = false) : (sNext F s).at' ∈ nxI (F s.at'.toNat) s.at'.toNat := by
  obtain ⟨hlt, h9⟩ := halt_parts hh
  obtain ⟨_, _, _, hw, hn9, _⟩ := ins_parts hv hlt
  have e7 := word7 (F s.at'.toNat).op.toList
  have e8 := word8 (F s.at'.toNat).op.toList
  have h0 := hs.lo
  show stepAt (nOf F s.at') s.at'.toNat (raOf F s.at') (kOf F s.at') s.r ∈ _
  unfold nxI stepAt
  rw [h9, if_neg (by simp)]
  rw [hw] at e7 e8
  rw [← e7, ← e8, show kOf F s.at' = (F s.at'.toNat).k from rfl]
  generalize nOf F s.at' = m at *
  by_cases h8 : m = 8
  · subst h8
    simp
  · have h8b : ((m : Int) == 8) = false := beq_eq_false_iff_ne.2 (by omega)
    rw [h8b, if_neg h8]
    by_cases h7 : m = 7
    · subst h7
      rcases hk : ((F s.at'.toNat).k == (s.at'.toNat : Int) + 1) with _ | _
      · by_cases hr : s.r (raOf F s.at') = 0 <;> simp [hr]
      · have hk2 := beq_iff_eq.1 hk
        by_cases hr : s.r (raOf F s.at') = 0 <;> simp [hr, hk2]
    · have h7b : ((m : Int) == 7) = false := beq_eq_false_iff_ne.2 (by omega)
      rw [h7b, if_neg h7]
      simp
theorem trR_in (t : Int) (j : Nat) : 0 ≤ trR t j ∧ trR t j ≤ 255 := by
  unfold trR
  omega
theorem trM_in (t : Int) (j : Nat) : 0 ≤ trM t j ∧ trM t j ≤ 255 := by
  unfold trM
  omega
/-- What is told of a trace of a tried machine. -/
theorem trace_way (n : Nat) (F : Nat → Ins) (t : Int) (hv : vcB n F = true) :
    ∃ (K : Nat) (g : Nat → Sta), K ≤ 300 ∧ (∀ (A : Option Addr) (cap : Nat) (A1 : Option Addr) (c1 : Nat) (A2 : Option Addr) (c2 : Nat) (W : World), WT W → Code W A n F → Nums W A1 4 (trR t) → Nums W A2 8 (trM t) → Calls Tryd.prog 24 #[.slice A n cap, MV 0 A1 4 c1 A2 8 c2, .int .i64 60] W (NumRes K (fun j => (g j).at') W)) ∧
      (∀ j, j < K → ∃ x : Nat, (g j).at' = x ∧ x ≤ n ∧ Way F n noCut 0 x) := by
  have hn := vcB_40 hv
  obtain ⟨K, g, hK, hRun, hcase⟩ := run_told n F 0 4 8 (trR t) (trM t) 60 (by omega)
  refine ⟨K, g, hK, fun A cap A1 c1 A2 c2 W hg hC h1 h2 => ?_, ?_⟩
  · exact TraceOf_res A n cap 0 A1 4 c1 A2 8 c2 60 K g W hK fun W' hW => hRun A cap A1 c1 A2 c2 W' (hg.below (below_of_grown hW) (wt_lt hg)) (hC.on hW) (h1.on hW) (h2.on hW)
  · rcases hcase with ⟨hr, h0⟩ | ⟨hr, _, _, rfl, hre⟩
    · intro j hj
      omega
    · obtain ⟨_, hm, _, _⟩ := runB_parts hr
      have hok : ∀ j, j < K → OkS (sN F ⟨0, trR t, trM t⟩ j) := fun j hj => (okS_of hm).run hv j (fun i hi => hre.go i (by omega))
      intro j
      induction j with
      | zero =>
        intro _
        exact ⟨0, rfl, Nat.zero_le _, Way.start _ _ _ _⟩
      | succ j ih =>
        intro hj
        obtain ⟨x, hx, hxn, hw⟩ := ih (by omega)
        have hin := sNext_in hv (hok j (by omega)) (hre.go j (by omega))
        have hlt := (halt_parts (hre.go j (by omega))).1
        have hx' : (sN F ⟨0, trR t, trM t⟩ j).at' = (x : Int) := hx
        rw [hx', Int.toNat_natCast] at hin hlt
        obtain ⟨y, hy, hyn⟩ := nx_in hv hlt hin
        refine ⟨y, hy, hyn, hw.step hlt rfl ?_⟩
        rw [hy] at hin
        exact hin
end Go.Proofs.YtbfgmmljegdbfaaDoor

namespace Go.Proofs.YtbfgmmljegdbfaaDoor
open Go.RowKit
set_option linter.unusedSimpArgs false
/-- What is drawn: a program; nothing that was there has changed. -/
def DrwC (w : World) (e : Ending) (w' : World) : Prop :=
  ∃ (A : Option Addr) (k c : Nat) (f : Nat → Ins), e = .returned (.slice A k c) ∧ k ≤ 14 ∧ Code w' A k f ∧ w.grownBy w' none
set_option maxRecDepth 100000 in
set_option maxHeartbeats 4000000 in
theorem DrawReachOf_any (A : Option Addr) (n cap : Nat) (zs : List Int) (w : World) (h : Bys w A n cap zs) :
    Calls Tryd.prog 22 #[.slice A n cap] w (DrwC w) := by
  have HN := shade (newReader_any A n cap zs w h)
  clear h
  go_enter Tryd.func22, Tryd.ntmps22
  go_wp2_with fail
  refine HN.out.mono ?_
  rintro e w1 ⟨m, rfl, hR, hb1⟩
  have HG1 := shade (grown_of_below hb1)
  have HR1 := shade hR
  clear hb1 hR HN
  go_wp2_with fail
  refine (someCode_rd HR1.out (by omega)).mono ?_
  rintro e w2 ⟨g', k, c, f, rfl, hk, hC, hG, hg', q, hq, hR⟩
  have HG2 := shade (grown_row HG1.out hG (fun j e => by injection e; omega))
  have HC2 := shade hC
  clear hC hG hR HR1 HG1
  go_wp2_with fail
  go_ret
  exact ⟨_, k, c, f, rfl, hk, HC2.out, HG2.out⟩
theorem equalBools_zero (A1 A2 : Option Addr) (c1 c2 : Nat) (w : World) :
    Calls Tryd.prog 23 #[.slice A1 0 c1, .slice A2 0 c2] w fun e w' => e = .returned (.bool true) ∧ ∃ m : Nat, w.drewN m = w' := by
  go_enter Tryd.func23, Tryd.ntmps23
  go_wp2
  refine wp_loop_rounds 1 ?_
  rw [rounds_succ]
  go_wp2
  go_ret
  exact ⟨rfl, 0, rfl⟩
set_option maxHeartbeats 1000000 in
theorem equalBools_at (b1 o1 b2 o2 c1 c2 n : Nat) (f g : Nat → Bool) (w : World) (hn : n ≤ 9223372036854775807) (h1 : Bols w (some ⟨b1, o1, none⟩) n f) (h2 : Bols w (some ⟨b2, o2, none⟩) n g) (he : ∀ j, j < n → f j = g j) :
    Calls Tryd.prog 23 #[.slice (some ⟨b1, o1, none⟩) n c1, .slice (some ⟨b2, o2, none⟩) n c2] w fun e w' => e = .returned (.bool true) ∧ ∃ m : Nat, w.drewN m = w' := by
  have H1 := shade h1
  have H2 := shade h2
  have HE := shade he
  clear h1 h2 he
  go_enter Tryd.func23, Tryd.ntmps23
  go_wp2
  go_loopw [5] (fun i wr => ∃ k m : Nat, k ≤ n ∧ i = .int .i64 k ∧ wr = w.drewN m) (fun i _ => n - (intOf i).toNat)
  case atStart => exact ⟨0, 0, Nat.zero_le _, rfl, rfl⟩
  case round =>
    obtain ⟨k, m, hk, rfl, rfl⟩ := hrel
    by_cases hkn : k < n
    · have q1 := H1.out.cell hkn
      have q2 := H2.out.cell hkn
      rw [HE.out k hkn] at q1
      go_wp2
      go_quiet (fail)
      go_wp2
      go_roundw
      case rel => exact ⟨k + 1, _, by omega, by go_num, rfl⟩
      case measure => simp [intOf]; omega
    · have hkn2 : k = n := by omega
      subst hkn2
      go_wp2
      go_ret
      exact ⟨rfl, m, rfl⟩
theorem equalBools_any (A1 A2 : Option Addr) (c1 c2 n : Nat) (f g : Nat → Bool) (w : World) (hn : n ≤ 9223372036854775807) (h1 : Bols w A1 n f) (h2 : Bols w A2 n g) (he : ∀ j, j < n → f j = g j) :
    Calls Tryd.prog 23 #[.slice A1 n c1, .slice A2 n c2] w fun e w' => e = .returned (.bool true) ∧ ∃ m : Nat, w.drewN m = w' := by
  by_cases h0 : n = 0
  · subst h0
    exact equalBools_zero A1 A2 c1 c2 w
  · obtain ⟨b1, o1, rfl, _⟩ := h1.resolve_left h0
    obtain ⟨b2, o2, rfl, _⟩ := h2.resolve_left h0
    exact equalBools_at b1 o1 b2 o2 c1 c2 n f g w hn h1 h2 he
theorem equalBools_rows (lo1 hi1 lo2 hi2 K : Nat) (v1 v2 : Value) (f : Nat → Bool) (w : World) (hK : K ≤ 300) (h1 : RowO w lo1 hi1 4 v1 K (bolL K f)) (h2 : RowO w lo2 hi2 4 v2 K (bolL K f)) :
    Calls Tryd.prog 23 #[v1, v2] w fun e w' => e = .returned (.bool true) ∧ w.grownBy w' none := by
  obtain ⟨A1, c1, rfl, hn1⟩ := h1.bols
  obtain ⟨A2, c2, rfl, hn2⟩ := h2.bols
  refine (equalBools_any A1 A2 c1 c2 K f f w (by omega) hn1 hn2 (fun _ _ => rfl)).mono ?_
  rintro e w' ⟨rfl, m, rfl⟩
  exact ⟨rfl, grown_drewN (grown_refl _ _) _⟩
theorem nums_on {w w' : World} {A : Option Addr} {n : Nat} {f : Nat → Int} (h : Nums w A n f) (hg : w.grownBy w' none) : Nums w' A n f := h.grown hg (by intro _ _ _ e; cases e)
theorem bols_on {w w' : World} {A : Option Addr} {n : Nat} {f : Nat → Bool} (h : Bols w A n f) (hg : w.grownBy w' none) : Bols w' A n f := h.grown hg (by intro _ _ _ e; cases e)
theorem NumRes.num {k : Nat} {f : Nat → Int} {w w' : World} {e : Ending} (h : NumRes k f w e w') : ∃ A c, e = .returned (.slice A k c) ∧ Nums w' A k f ∧ w.grownBy w' none := by
  obtain ⟨v, rfl, hR, hg⟩ := NumRes.row h
  obtain ⟨A, c, rfl, hn⟩ := hR.nums
  exact ⟨A, c, rfl, hn, hg⟩
set_option maxRecDepth 100000 in
set_option maxHeartbeats 16000000 in
theorem fnReachOf_walk (A : Option Addr) (n cap : Nat) (zs : List Int) (w : World) (hg : WT w) (hB : Bys w A n cap zs) :
    Calls Tryd.prog 4 #[.slice A n cap] w fun e w' => e = .returned (.bool true) ∧ Below w.heap.size w w' := by
  have HG := shade hg
  have HBy := shade hB
  have hcap := hB.fits
  have hbig := hB.big
  unfold maxLen at hbig
  clear hg hB
  by_cases hl : 1048576 < n
  · go_enter Tryd.func4, Tryd.ntmps4
    go_wp2_with fail
    go_ret
    exact ⟨rfl, rfl, rfl, rfl, Nat.le_refl _, fun _ _ => rfl⟩
  · have HD := shade (DrawReachOf_any A n cap zs w HBy.out)
    go_enter Tryd.func4, Tryd.ntmps4
    go_wp2_with fail
    refine HD.out.mono ?_
    rintro e w1 ⟨Al, k, c, F, rfl, hk, hC, hgr⟩
    obtain ⟨K, f, hK, HSp, HIm, hcase⟩ := reach_both k F (by omega)
    have HSP := shade HSp; have HIM := shade HIm; have HCA := shade hcase
    have HC := shade hC
    have HL := shade hgr
    clear HSp HIm hcase hC hgr HD
    go_wp2_with fail
    refine (HIM.out _ _ _ (HG.out.below (below_of_grown HL.out) (wt_lt HG.out)) HC.out).mono ?_
    rintro e w2 h5
    obtain ⟨v5, rfl, hR, hgr⟩ := MarkRes.row h5
    have HN2 := shade hR
    obtain ⟨A5, c5, rfl, hN⟩ := hR.bols
    have HC2 := shade (HC.out.on hgr); have HL2 := shade (grown_same HL.out hgr); have HV2 := shade hN
    clear hgr hR hN h5 HC HL
    go_wp2_with fail
    refine (HSP.out _ _ _ HC2.out).mono ?_
    rintro e w3 h5
    obtain ⟨v1, rfl, hR, hgr⟩ := MarkRes.row h5
    have HC3 := shade (HC2.out.on hgr); have HL3 := shade (grown_same HL2.out hgr); have HV3 := shade (bols_on HV2.out hgr); have HW3 := shade hR; have HN3 := shade (HN2.out.grown hgr)
    clear hgr hR h5 HC2 HL2 HV2 HN2
    go_wp2_with fail
    refine (equalBools_rows _ _ _ _ _ _ _ _ _ hK HN3.out HW3.out).mono ?_
    rintro e w4 ⟨rfl, hgr⟩
    have HC4 := shade (HC3.out.on hgr); have HL4 := shade (grown_same HL3.out hgr); have HV4 := shade (bols_on HV3.out hgr); have HN4 := shade (HN3.out.grown hgr)
    clear hgr HC3 HL3 HV3 HW3 HN3
    by_cases h0 : K = 0
    · have h0b : ((K : Int) == 0) = true := by rw [h0]; rfl
      clear h0
      go_wp2_with fail
      refine (HSP.out _ _ _ HC4.out).mono ?_
      rintro e w5 h5
      obtain ⟨v2, rfl, hR, hgr⟩ := MarkRes.row h5
      have HL5 := shade (grown_same HL4.out hgr); have HV5 := shade (HN4.out.grown hgr); have HW5 := shade hR
      clear hgr hR h5
      go_wp2_with fail
      refine (equalBools_rows _ _ _ _ _ _ _ _ _ hK HV5.out HW5.out).mono ?_
      rintro e w6 ⟨rfl, hgr⟩
      have HL6 := shade (grown_same HL5.out hgr)
      clear hgr
      go_wp2_with fail
      go_ret
      exact ⟨rfl, below_of_grown HL6.out⟩
    · have h0b : ((K : Int) == 0) = false := by rw [beq_eq_false_iff_ne]; omega
      obtain ⟨hv, hKk, hf⟩ := HCA.out.resolve_left (fun h => h0 h.2)
      have HVT := shade hv; have HF := shade hf
      obtain ⟨b5, o5, rfl, -⟩ := HV4.out.resolve_left h0
      subst hKk
      clear HN4 HSP HIM HCA hv hf h0
      go_wp2_with fail
      go_loopw [5] (fun r wr => ∃ q : Nat, q ≤ 3 ∧ r = .int .i64 (4 * (q : Int)) ∧ w4.grownBy wr none) (fun r _ => 12 - (intOf r).toNat)
      case atStart => exact ⟨0, by omega, rfl, grown_refl _ _⟩
      case round =>
        obtain ⟨q, hq, rfl, hgw⟩ := hrel
        have HGW := shade hgw
        clear hgw
        by_cases hq3 : q < 3
        · obtain ⟨K2, g, hK2, HTr, hway⟩ := trace_way k F (4 * (q : Int)) HVT.out
          have HTRI := shade (fun W => trial_any (4 * (q : Int)) (by omega) W)
          have HTR := shade HTr
          have HWAY := shade hway
          clear HTr hway
          go_wp2_with fail
          refine (HTRI.out _).mono ?_
          rintro e w5 ⟨g1, d1, g2, d2, rfl, hne, ho1, ho2, hgr⟩
          have HG5 := shade (grown_same HGW.out hgr)
          have HO1 := shade ho1.nums; have HO2 := shade ho2.nums
          clear hgr ho1 ho2 HTRI HGW hne
          go_wp2_with fail
          refine (HTR.out _ _ _ _ _ _ _ (HG.out.below (below_of_grown (grown_same HL4.out HG5.out)) (wt_lt HG.out)) (HC4.out.on HG5.out) HO1.out HO2.out).mono ?_
          rintro e w6 h6
          obtain ⟨A6, c6, rfl, hN6, hgr⟩ := h6.num
          have HG6 := shade (grown_same HG5.out hgr)
          have HN6 := shade hN6
          have HV6 := shade (bols_on HV4.out (grown_same HG5.out hgr))
          clear h6 hN6 hgr HO1 HO2 HTR HG5
          obtain ⟨wo, rfl⟩ : ∃ wo : World, wo = wr := ⟨_, rfl⟩
          go_wp2_with fail
          go_loopw [7] (fun r w7 => ∃ j m : Nat, j ≤ K2 ∧ r = .int .i64 (j : Int) ∧ w7 = w6.drewN m) (fun r _ => K2 - (intOf r).toNat)
          case atStart => exact ⟨0, 0, Nat.zero_le _, rfl, rfl⟩
          case round =>
            obtain ⟨j, m, hj, rfl, rfl⟩ := hrel
            by_cases hjK : j < K2
            · obtain ⟨b6, o6, rfl, -⟩ := HN6.out.resolve_left (by omega)
              have y0 := HN6.out.cell hjK
              obtain ⟨x, hx, hxk, hw⟩ := HWAY.out j hjK
              simp only [hx] at y0
              have s0 := HV6.out.cell (show x < k + 1 by omega)
              rw [(HF.out x hxk).2 hw] at s0
              clear hx hw
              go_wp2_with fail
              try (go_quiet (fail); go_wp2_with fail)
              go_roundw
              case rel => exact ⟨j + 1, _, by omega, by go_num, rfl⟩
              case measure => simp [intOf]; omega
            · obtain rfl : j = K2 := by omega
              have HG7 := shade (grown_drewN HG6.out m)
              go_wp2_with fail
              go_roundw
              case rel =>
                repeat apply Exists.intro
                exact ⟨⟨q + 1, (show q + 1 ≤ 3 by omega), congrArg (Value.int .i64) (show (4 * (q : Int) + 4) = 4 * ((q + 1 : Nat) : Int) by omega), HG7.out⟩, rfl⟩
              case measure => simp [intOf]; omega
        · obtain rfl : q = 3 := by omega
          obtain ⟨wo, rfl⟩ : ∃ wo : World, wo = wr := ⟨_, rfl⟩
          go_wp2_with fail
          go_loopw [8] (fun r w7 => ∃ i : Nat, i ≤ k ∧ r = .int .i64 (i : Int) ∧ w4.grownBy w7 none) (fun r _ => k - (intOf r).toNat)
          case atStart => exact ⟨0, Nat.zero_le _, rfl, HGW.out⟩
          case round =>
            clear HGW
            obtain ⟨i, hi, rfl, hgw⟩ := hrel
            have HGW := shade hgw
            clear hgw
            by_cases hik : i < k
            · have HX := shade ((INextOf_any Al k c F i wr (HG.out.below (below_of_grown (grown_same HL4.out HGW.out)) (wt_lt HG.out)) (by omega) (HC4.out.on HGW.out)).mono fun _ _ h => h.num)
              have HNL := shade (show ∀ z, z ∈ nxA k F i → ∃ y : Nat, z = y ∧ y ≤ k ∧ (f i = true → f y = true) from fun z hz => by
                unfold nxA at hz
                rw [if_pos ⟨HVT.out, by omega, by omega⟩, Int.toNat_natCast] at hz
                obtain ⟨y, rfl, hy⟩ := nx_in HVT.out hik hz
                exact ⟨y, rfl, hy, fun hfi => (HF.out y hy).2 (((HF.out i (by omega)).1 hfi).step hik rfl hz)⟩)
              have hl2 := nxA_le k F (i : Int)
              obtain ⟨l1, hl1⟩ : ∃ l1, nxA k F (i : Int) = l1 := ⟨_, rfl⟩
              rw [hl1] at HX HNL hl2
              clear hl1
              go_wp2_with fail
              refine HX.out.mono ?_
              rintro e w6 h6
              obtain ⟨A6, c6, rfl, hN6, hgr⟩ := h6.num
              have HG6 := shade (grown_same HGW.out hgr)
              have HN6 := shade hN6
              have HV6 := shade (bols_on HV4.out (grown_same HGW.out hgr))
              clear h6 hN6 hgr HX HGW
              obtain ⟨wq, rfl⟩ : ∃ wq : World, wq = wr := ⟨_, rfl⟩
              go_wp2_with fail
              go_loopw [10] (fun r w7 => ∃ j m : Nat, j ≤ l1.length ∧ r = .int .i64 (j : Int) ∧ w7 = w6.drewN m) (fun r _ => l1.length - (intOf r).toNat)
              case atStart => exact ⟨0, 0, Nat.zero_le _, rfl, rfl⟩
              case round =>
                obtain ⟨j, m, hj, rfl, rfl⟩ := hrel
                by_cases hjl : j < l1.length
                · have s1 := HV6.out.cell (show i < k + 1 by omega)
                  rcases hfi : f i with _ | _
                  · rw [hfi] at s1
                    clear hfi
                    go_wp2_with fail
                    try (go_quiet (fail); go_wp2_with fail)
                    go_roundw
                    case rel => exact ⟨j + 1, _, by omega, by go_num, rfl⟩
                    case measure => simp [intOf]; omega
                  · rw [hfi] at s1
                    obtain ⟨b6, o6, rfl, -⟩ := HN6.out.resolve_left (by omega)
                    have y0 := HN6.out.cell hjl
                    obtain ⟨y, hy, hyk, hw⟩ := HNL.out (l1.getD j 0) (by rw [List.getD_eq_getElem?_getD, List.getElem?_eq_getElem hjl]; exact List.getElem_mem _)
                    rw [hy] at y0
                    have s0 := HV6.out.cell (show y < k + 1 by omega)
                    rw [hw hfi] at s0
                    clear hy hw hfi
                    go_wp2_with fail
                    try (go_quiet (fail); go_wp2_with fail)
                    go_roundw
                    case rel => exact ⟨j + 1, _, by omega, by go_num, rfl⟩
                    case measure => simp [intOf]; omega
                · obtain rfl : j = l1.length := by omega
                  have HG7 := shade (grown_drewN HG6.out m)
                  go_wp2_with fail
                  go_roundw
                  case rel =>
                    repeat apply Exists.intro
                    exact ⟨⟨i + 1, (show i + 1 ≤ k by omega), (show Value.int .i64 ((i : Int) + 1) = .int .i64 ((i + 1 : Nat) : Int) from by go_num), HG7.out⟩, rfl⟩
                  case measure => simp [intOf]; omega
            · obtain rfl : i = k := by omega
              have s0 := (bols_on HV4.out HGW.out).cell (show 0 < i + 1 by omega)
              rw [(HF.out 0 (Nat.zero_le _)).2 (Way.start _ _ _ _), Nat.add_zero] at s0
              have HL9 := shade (grown_same HL4.out HGW.out)
              go_wp2_with fail
              try (go_quiet (fail); go_wp2_with fail)
              go_ret
              first
                | exact ⟨rfl, below_of_grown HL9.out⟩
                | exact ⟨rfl, below_of_grown (grown_drewN HL9.out _)⟩
end Go.Proofs.YtbfgmmljegdbfaaDoor
