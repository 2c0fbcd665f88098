/- ReachOf and its model answer alike. Rows of Booleans that a call has made; their marks. -/
import Derived.Test.YtbfgmmljegdbfaaDoorW445d
import Derived.Test.YtbfgmmljegdbfaaDoorW97d
namespace Go.Proofs.YtbfgmmljegdbfaaDoor
open Go.RowKit Go.Shelf
set_option linter.unusedSimpArgs false
theorem nowhere_any (x : Int) (w : World) : Calls Tryd.prog 55 #[.int .i64 x] w fun e w' => e = .returned (.bool false) ∧ w = w' := by
  go_enter Tryd.func55, Tryd.ntmps55
  go_wp2
  go_ret
  exact ⟨rfl, rfl⟩
theorem MarkRes.congr {k : Nat} {f g : Nat → Bool} {w w' : World} {e : Ending} (h : MarkRes k f w e w') (hf : ∀ y, y < k → f y = g y) : MarkRes k g w e w' := by
  obtain ⟨v, he, ho, hg⟩ := h
  exact ⟨v, he, by rw [← bolL_congr k f g hf]; exact ho, hg⟩
theorem MarkRes.after {k : Nat} {f : Nat → Bool} {w w1 w2 : World} {e : Ending} (hg : w.grownBy w1 none) (h : MarkRes k f w1 e w2) : MarkRes k f w e w2 := by
  obtain ⟨v, he, ho, h2⟩ := h
  exact ⟨v, he, World.ownsRow.mono ho hg.size, grown_same hg h2⟩
theorem MarkRes.nil (f : Nat → Bool) (w w' : World) (hg : w.grownBy w' none) : MarkRes 0 f w (.returned (.slice none 0 0)) w' := ⟨_, rfl, World.ownsRow_nil _ _ _ _, hg⟩
/-- What 'reached' leaves without a cut. -/
theorem reached_no (A : Option Addr) (n c : Nat) (F : Nat → Ins) (w : World) (hv : vcB n F = true) (hwt : WT w) (h : Code w A n F) :
    Calls Tryd.prog 54 #[.slice A n c, .func (.func 55) #[] #[]] w fun e w' => ∃ r : Nat → Bool, (∀ y, y ≤ n → (r y = true ↔ Way F n noCut 0 y)) ∧ MarkRes (n + 1) r w e w' := by
  refine reached_any A n c 55 #[] F noCut (fun _ => True) w hv hwt h trivial (fun _ _ _ _ _ => trivial) (enters_of Tryd.func55 (by kernel_rfl) rfl) (fun x W _ _ _ _ => ?_)
  refine (nowhere_any (x : Int) W).mono ?_
  rintro e w' ⟨rfl, rfl⟩
  exact ⟨rfl, grown_refl _ _⟩
/-- ReachOf and its model leave the same marks. -/
theorem reach_both (n : Nat) (F : Nat → Ins) (hn : n ≤ 9223372036854775807) :
    ∃ (K : Nat) (f : Nat → Bool), K ≤ 300 ∧ (∀ (A : Option Addr) (c : Nat) (W : World), Code W A n F → Calls Tryd.prog 14 #[.slice A n c] W (MarkRes K f W)) ∧
      (∀ (A : Option Addr) (c : Nat) (W : World), WT W → Code W A n F → Calls Tryd.prog 16 #[.slice A n c] W (MarkRes K f W)) ∧
      ((vcB n F = false ∧ K = 0) ∨ (vcB n F = true ∧ K = n + 1 ∧ ∀ y, y ≤ n → (f y = true ↔ Way F n noCut 0 y))) := by
  rcases hv : vcB n F with _ | _
  · refine ⟨0, fun _ => false, by omega, fun A c W hC => ?_, fun A c W hg hC => ?_, .inl ⟨rfl, rfl⟩⟩
    · have HV := shade (validCode_any A n c F W hn hC)
      rw [hv] at HV
      clear hv hC
      go_enter Tryd.func14, Tryd.ntmps14
      go_wp2_with fail
      refine HV.out.mono ?_
      rintro e w1 ⟨rfl, hgr⟩
      have HR := shade hgr
      clear hgr HV
      go_wp2_with fail
      go_ret
      exact MarkRes.nil _ _ _ HR.out
    · have HV := shade (ValidCode_any A n c F W hg hn hC)
      rw [hv] at HV
      clear hv hC hg
      go_enter Tryd.func16, Tryd.ntmps16
      go_wp2_with fail
      refine HV.out.mono ?_
      rintro e w1 ⟨rfl, hgr⟩
      have HR := shade hgr
      clear hgr HV
      go_wp2_with fail
      go_ret
      exact MarkRes.nil _ _ _ HR.out
  · have hn40 := vcB_40 hv
    obtain ⟨f, hf⟩ : ∃ f : Nat → Bool, ∀ y, f y = true ↔ Way F n noCut 0 y := ⟨fun y => @decide _ (Classical.propDecidable (Way F n noCut 0 y)), fun y => @decide_eq_true_iff _ (Classical.propDecidable _)⟩
    have hbridge : ∀ (r : Nat → Bool), (∀ y, y ≤ n → (r y = true ↔ Way F n noCut 0 y)) → ∀ y, y < n + 1 → r y = f y := fun r hr y hy => by
      rw [Bool.eq_iff_iff, hr y (by omega), hf y]
    have HB := shade hbridge
    have HVT := shade hv
    refine ⟨n + 1, f, by omega, fun A c W hC => ?_, fun A c W hg hC => ?_, .inr ⟨rfl, rfl, fun y _ => hf y⟩⟩
    · have HV := shade (validCode_any A n c F W hn hC)
      rw [hv] at HV
      have HC := shade hC
      clear hv hC hf hbridge
      go_enter Tryd.func14, Tryd.ntmps14
      go_wp2_with fail
      refine HV.out.mono ?_
      rintro e w1 ⟨rfl, hgr⟩
      have HR := shade hgr
      clear hgr HV
      go_wp2_with fail
      refine (specReached_any A n c F w1 HVT.out (HC.out.on HR.out)).mono ?_
      rintro e w2 ⟨r, hr, v, rfl, ho, hg2⟩
      have HO := shade (MarkRes.after HR.out ((show MarkRes (n + 1) r w1 (.returned v) w2 from ⟨v, rfl, ho, hg2⟩).congr (HB.out r hr)))
      clear ho hg2 hr
      go_wp2_with fail
      go_ret
      exact HO.out
    · have HV := shade (ValidCode_any A n c F W hg hn hC)
      rw [hv] at HV
      have HC := shade hC
      have HG := shade hg
      clear hv hC hf hbridge hg
      go_enter Tryd.func16, Tryd.ntmps16
      go_wp2_with fail
      refine HV.out.mono ?_
      rintro e w1 ⟨rfl, hgr⟩
      have HR := shade hgr
      clear hgr HV
      go_wp2_with fail
      refine (reached_no A n c F w1 HVT.out (HG.out.below (below_of_grown HR.out) (wt_lt HG.out)) (HC.out.on HR.out)).mono ?_
      rintro e w2 ⟨r, hr, v, rfl, ho, hg2⟩
      have HO := shade (MarkRes.after HR.out ((show MarkRes (n + 1) r w1 (.returned v) w2 from ⟨v, rfl, ho, hg2⟩).congr (HB.out r hr)))
      clear ho hg2 hr
      go_wp2_with fail
      go_ret
      exact HO.out
end Go.Proofs.YtbfgmmljegdbfaaDoor

namespace Go.Proofs.YtbfgmmljegdbfaaDoor
open Go.RowKit
theorem RowO.bols {wr : World} {lo hi : Nat} {v : Value} {K : Nat} {f : Nat → Bool} (h : RowO wr lo hi 4 v K (bolL K f)) : ∃ A c, v = .slice A K c ∧ Bols wr A K f := by
  rcases h.own.2 with ⟨e', h0⟩ | ⟨g', cap', cur, e', _⟩
  · exact ⟨none, 0, by rw [e', h0], .inl h0⟩
  · have ho := h.own
    rw [e'] at ho
    exact ⟨some ⟨g', 0, none⟩, cap', e', OwnB.bols ho⟩
theorem MarkRes.row {k : Nat} {f : Nat → Bool} {w w' : World} {e : Ending} (h : MarkRes k f w e w') : ∃ v, e = .returned v ∧ RowO w' w.heap.size w'.heap.size 4 v k (bolL k f) ∧ w.grownBy w' none := by
  obtain ⟨v, he, ho, hg⟩ := h
  exact ⟨v, he, ⟨ho, fun i hi => (World.ownsRow.lt ho i hi).2⟩, hg⟩
theorem markBoolS_row (lo hi K : Nat) (v : Value) (f : Nat → Bool) (m : Int) (w : World) (hm0 : 0 ≤ m) (hm : m + K ≤ 9223372036854775807) (h : RowO w lo hi 4 v K (bolL K f)) :
    Calls Tryd.prog 20 #[v, .int .i64 m] w fun e w' => e = .returned (.int .i64 (m + K)) ∧ RowO w' lo hi 4 v K (bolL K (mk3 m)) ∧ w.grownBy w' v.ownBlock := by
  rcases h.own.2 with ⟨e', h0⟩ | ⟨g', cap', cur, e', _⟩
  · subst e'
    subst h0
    refine (markBoolS_zero none 0 m w).mono ?_
    rintro e w' ⟨rfl, rfl⟩
    exact ⟨by simp, ⟨h.own, h.hib⟩, grown_refl _ _⟩
  · have ho := h.own
    have hb := h.hib
    subst e'
    refine (markBoolS_at lo g' K cap' f m w hm0 hm ho).mono ?_
    rintro e w' ⟨rfl, h1, h2⟩
    exact ⟨rfl, ⟨h1, hb⟩, h2⟩
theorem heldBoolS_row (lo hi K : Nat) (v : Value) (m : Int) (w : World) (hm0 : 0 ≤ m) (hm : m + K ≤ 9223372036854775807) (h : RowO w lo hi 4 v K (bolL K (mk3 m))) :
    Calls Tryd.prog 21 #[v, .int .i64 m] w fun e w' => e = .returned (.int .i64 (m + K)) ∧ w = w' := by
  obtain ⟨A, c, rfl, hn⟩ := h.bols
  exact heldBoolS_any A K c m w hm0 hm hn
theorem eqBoolS_row (lo1 hi1 lo2 hi2 K : Nat) (v1 v2 : Value) (f : Nat → Bool) (w : World) (hK : K ≤ 300) (h1 : RowO w lo1 hi1 4 v1 K (bolL K f)) (h2 : RowO w lo2 hi2 4 v2 K (bolL K f)) :
    Calls Tryd.prog 17 #[v1, v2] w fun e w' => e = .returned (.bool true) ∧ w.grownBy w' none := by
  obtain ⟨A1, c1, rfl, hn1⟩ := h1.bols
  obtain ⟨A2, c2, rfl, hn2⟩ := h2.bols
  refine (eqBoolS_any A1 A2 c1 c2 K f f w (by omega) hn1 hn2 (fun _ _ => rfl)).mono ?_
  rintro e w' ⟨rfl, m, rfl⟩
  exact ⟨rfl, grown_drewN (grown_refl _ _) _⟩

end Go.Proofs.YtbfgmmljegdbfaaDoor
