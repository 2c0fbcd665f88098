/- ShrinkCode and its model answer alike. -/
import Derived.Test.YtjeflaodeafhbaaDoorG609
namespace Go.Proofs.YtjeflaodeafhbaaDoor
open Go.RowKit
set_option linter.unusedSimpArgs false
set_option maxHeartbeats 4000000 in
theorem shrink_both (n : Nat) (F : Nat → Ins) (hn : n ≤ 9223372036854775807) :
    ∃ (K : Nat) (f : Nat → Ins), K ≤ 300 ∧ (∀ (A : Option Addr) (c : Nat) (W : World), Code W A n F → Calls Tryd.prog 25 #[.slice A n c] W (CodeRes K f W)) ∧
      (∀ (A : Option Addr) (c : Nat) (W : World), WT W → Code W A n F → Calls Tryd.prog 24 #[.slice A n c] W (CodeRes K f W)) ∧
      ((vcB n F = false ∧ K = 0) ∨ (vcB n F = true ∧ ∃ s' k', Chn F n s' k' ∧ K = (s' (k' + 1)).2 ∧ f = (s' (k' + 1)).1)) := by
  rcases hv : vcB n F with _ | _
  · refine ⟨0, fun _ => zIns, by omega, fun A c W hC => ?_, fun A c W hg hC => ?_, .inl ⟨rfl, rfl⟩⟩
    · have HV := shade (validCode_any A n c F W hn hC)
      rw [hv] at HV
      clear hv hC
      go_enter Tryd.func25, Tryd.ntmps25
      go_wp2_with fail
      refine HV.out.mono ?_
      rintro e w1 ⟨rfl, hgr⟩
      have HR := shade hgr
      clear hgr HV
      go_wp2_with fail
      go_ret
      exact CodeRes.nil _ _ _ HR.out
    · have HV := shade (ValidCode_any A n c F W hg hn hC)
      rw [hv] at HV
      clear hv hC hg
      go_enter Tryd.func24, Tryd.ntmps24
      go_wp2_with fail
      refine HV.out.mono ?_
      rintro e w1 ⟨rfl, hgr⟩
      have HR := shade hgr
      clear hgr HV
      go_wp2_with fail
      go_ret
      exact CodeRes.nil _ _ _ HR.out
  · have hn40 := vcB_40 hv
    have HVT := shade hv
    obtain ⟨s, k, hch⟩ := chn_of hv
    have HCH := shade hch
    have hlen := hch.len (k + 1)
    have HPOST : ∃ s' k', Chn F n s' k' ∧ (s (k + 1)).2 = (s' (k' + 1)).2 ∧ (s (k + 1)).1 = (s' (k' + 1)).1 := ⟨s, k, hch, rfl, rfl⟩
    clear hch
    refine ⟨(s (k + 1)).2, (s (k + 1)).1, by omega, fun A c W hC => ?_, fun A c W hg hC => ?_, .inr ⟨rfl, HPOST⟩⟩
    · have HV := shade (validCode_any A n c F W hn hC)
      rw [hv] at HV
      have HC := shade hC
      skip
      clear hv hC
      go_enter Tryd.func25, Tryd.ntmps25
      go_wp2_with fail
      refine HV.out.mono ?_
      rintro e w1 ⟨rfl, hgr⟩
      have HR := shade hgr
      clear hgr HV
      go_wp2_with fail
      refine (specShrink_any A n c F s k w1 HCH.out (HC.out.on HR.out)).mono ?_
      rintro e w2 ⟨v, rfl, ho, hg2⟩
      have HO := shade (CodeRes.after HR.out (show CodeRes ((s (k + 1)).2) ((s (k + 1)).1) w1 (.returned v) w2 from ⟨v, rfl, ho, hg2⟩))
      clear ho hg2
      go_wp2_with fail
      go_ret
      exact HO.out
    · have HV := shade (ValidCode_any A n c F W hg hn hC)
      rw [hv] at HV
      have HC := shade hC
      have HG := shade hg
      clear hv hC hg
      go_enter Tryd.func24, Tryd.ntmps24
      go_wp2_with fail
      refine HV.out.mono ?_
      rintro e w1 ⟨rfl, hgr⟩
      have HR := shade hgr
      clear hgr HV
      go_wp2_with fail
      refine (shrink_any A n c F s k w1 HCH.out (HG.out.below (below_of_grown HR.out) (wt_lt HG.out)) (HC.out.on HR.out)).mono ?_
      rintro e w2 ⟨v, rfl, ho, hg2⟩
      have HO := shade (CodeRes.after HR.out (show CodeRes ((s (k + 1)).2) ((s (k + 1)).1) w1 (.returned v) w2 from ⟨v, rfl, ho, hg2⟩))
      clear ho hg2
      go_wp2_with fail
      go_ret
      exact HO.out
end Go.Proofs.YtjeflaodeafhbaaDoor
