/- ValidBlock answers as its model for what is drawn; a block is a program, and one without its last instruction. -/
import Derived.Test.YtlhfmjlcpcopkaaDoorW997
import Derived.Test.YtlhfmjlcpcopkaaDoorG950
import Derived.Test.YtlhfmjlcpcopkaaDoorW25
namespace Go.Proofs.YtlhfmjlcpcopkaaDoor
open Go.RowKit
theorem Code.take {w : World} {A : Option Addr} {n m : Nat} {f : Nat → Ins} (h : Code w A n f) (hm : m ≤ n) : Code w A m f := by
  by_cases h0 : m = 0
  · exact .inl h0
  · obtain ⟨b, off, e, hb, hc⟩ := h.resolve_left (by omega)
    exact .inr ⟨b, off, e, hb, fun j i hj hi => hc j i (by omega) hi⟩
theorem bl_code {n : Nat} {F : Nat → Ins} (h : blB n F = true) : vcB n F = true := by
  have h6 := blB_6 h
  rw [vcB_all (fun j hj => by
    have h1 := blB_at h hj
    unfold blI at h1
    simp only [Bool.and_eq_true, Bool.not_eq_true'] at h1
    unfold okI
    rw [show vB (F j).op.toList (F j).d (F j).a (F j).b (F j).k = true from h1.1, h1.2.1]
    rfl)]
  exact decide_eq_true (by omega)
theorem bl_less {n m : Nat} {F : Nat → Ins} (h : blB n F = true) (hm : m ≤ n) : blB m F = true := by
  have h6 := blB_6 h
  rw [blB_all (fun j hj => blB_at h (by omega))]
  exact decide_eq_true (by omega)
set_option maxRecDepth 100000 in
set_option maxHeartbeats 4000000 in
theorem fnValidBlock_walk (A : Option Addr) (n cap : Nat) (zs : List Int) (w : World) (hg : WT w) (hB : Bys w A n cap zs) :
    Calls Tryd.prog 12 #[.slice A n cap] w fun e w' => e = .returned (.bool true) ∧ Below w.heap.size w w' := by
  have HG := shade hg
  have HBy := shade hB
  have hcap := hB.fits
  have hbig := hB.big
  unfold maxLen at hbig
  clear hg hB
  by_cases hl : 1048576 < n
  · go_enter Tryd.func12, Tryd.ntmps12
    go_wp2
    go_ret
    exact ⟨rfl, by go_grown⟩
  · have HD := shade (DrawValidBlock_any A n cap zs w HBy.out)
    go_enter Tryd.func12, Tryd.ntmps12
    go_wp2_with fail
    refine HD.out.mono ?_
    rintro e w1 ⟨g', k, c, F, rfl, hk, hkc, hC, hgr⟩
    have HG1 := shade hgr; have HC := shade hC
    clear hgr hC HD HBy
    have HW := shade (fun W (hg : w.grownBy W none) => HG.out.below (below_of_grown hg) (wt_lt HG.out))
    have HIM := shade (fun W (hg : w1.grownBy W none) (hw : w.grownBy W none) => IValidBlock_any (some ⟨g', 0, none⟩) k c F W (HW.out W hw) (by omega) (HC.out.on hg))
    have HSP := shade (fun W (hg : w1.grownBy W none) => SValidBlock_any (some ⟨g', 0, none⟩) k c F W (by omega) (HC.out.on hg))
    rcases hv : blB k F with _ | _
    · rw [hv] at HIM HSP
      clear hv
      go_wp2_with fail
      refine (HIM.out _ (grown_refl _ _) HG1.out).mono ?_
      rintro e w2 ⟨rfl, hg2⟩
      have HG2 := shade hg2
      clear hg2
      go_wp2_with fail
      refine (HSP.out _ HG2.out).mono ?_
      rintro e w3 ⟨rfl, hg3⟩
      have HG3 := shade (grown_same HG2.out hg3)
      clear hg3
      go_wp2_with fail
      refine (HSP.out _ HG3.out).mono ?_
      rintro e w4 ⟨rfl, hg4⟩
      have HG4 := shade (grown_same HG3.out hg4)
      clear hg4
      go_wp2_with fail
      go_ret
      exact ⟨rfl, below_of_grown (grown_same HG1.out HG4.out)⟩
    · have HVC := shade (fun W (hg : w1.grownBy W none) (hw : w.grownBy W none) => ValidCode_any (some ⟨g', 0, none⟩) k c F W (HW.out W hw) (by omega) (HC.out.on hg))
      rw [bl_code hv] at HVC
      have HV1 := shade (fun W (hg : w1.grownBy W none) (hw : w.grownBy W none) => IValidBlock_any (some ⟨g', 0, none⟩) (k - 1) c F W (HW.out W hw) (by omega) ((HC.out.on hg).take (by omega)))
      rw [bl_less hv (show k - 1 ≤ k by omega)] at HV1
      rw [hv] at HIM HSP
      clear hv
      go_wp2_with fail
      refine (HIM.out _ (grown_refl _ _) HG1.out).mono ?_
      rintro e w2 ⟨rfl, hg2⟩
      have HG2 := shade hg2
      clear hg2
      go_wp2_with fail
      refine (HSP.out _ HG2.out).mono ?_
      rintro e w3 ⟨rfl, hg3⟩
      have HG3 := shade (grown_same HG2.out hg3)
      clear hg3 HG2
      rcases k with _ | q
      · go_wp2_with fail
        refine (HVC.out _ HG3.out (grown_same HG1.out HG3.out)).mono ?_
        rintro e w4 ⟨rfl, hg4⟩
        have HG4 := shade (grown_same HG3.out hg4)
        clear hg4
        go_wp2_with fail
        go_ret
        exact ⟨rfl, below_of_grown (grown_same HG1.out HG4.out)⟩
      · rw [Nat.add_sub_cancel] at HV1
        have e0 : ((q : Int) + 1 == 0) = false := beq_eq_false_iff_ne.2 (by omega)
        have q0 : (0 : Int) ≤ (q : Int) := by omega
        have qc : (q : Int) ≤ (c : Int) := by omega
        go_wp2_with fail
        refine (HVC.out _ HG3.out (grown_same HG1.out HG3.out)).mono ?_
        rintro e w4 ⟨rfl, hg4⟩
        have HG4 := shade (grown_same HG3.out hg4)
        clear hg4
        go_wp2_with fail
        refine (HV1.out _ HG4.out (grown_same HG1.out HG4.out)).mono ?_
        rintro e w5 ⟨rfl, hg5⟩
        have HG5 := shade (grown_same HG4.out hg5)
        clear hg5
        go_wp2_with fail
        go_ret
        exact ⟨rfl, below_of_grown (grown_same HG1.out HG5.out)⟩
end Go.Proofs.YtlhfmjlcpcopkaaDoor
