/- LeadersOf and its model answer alike. -/
import Derived.Test.YtbdlbooooiinkaaDoorW412d
namespace Go.Proofs.YtbdlbooooiinkaaDoor
open Go.RowKit
set_option linter.unusedSimpArgs false
set_option maxHeartbeats 4000000 in
theorem pLeaders_zero (A : Option Addr) (c : Nat) (F : Nat → Ins) (w : World) :
    Calls Tryd.prog 53 #[.slice A 0 c] w (IntRes (ldL F 0) w) := by
  obtain ⟨i0, hi, hz0, hz1, hz2⟩ := info_parts info4b
  go_enter Tryd.func53, Tryd.ntmps53
  go_wp2_with (first
    | (at_make; refine wpList_make_full _ rfl _ _ 101 rfl w.heap.size 4 i0 (.bool false) 1 Tryd.underlying101 hi hz0 hz1 .i64 .i64 1 1 1 rfl rfl rfl rfl (by rw [hz2]; omega) (by unfold maxLen; omega) (Nat.le_refl _) ?_)
    | go_in)
  intro w1 hown1 hgr1
  simp only [made_bools] at hown1
  have L0 := shade (show Ldr w w1 0 (fun _ => false) from ⟨hown1, hgr1⟩)
  clear hown1 hgr1
  have s0 := L0.out.cell 0 (by omega)
  have s1 := L0.out.free 0
  go_upto_region 3 with (fail)
  have L1 := shade (L0.out.mark 0)
  obtain ⟨W1, hW1⟩ : ∃ W1, w1.setCell ⟨w.heap.size, 0, none⟩ (.bool true) = W1 := ⟨_, rfl⟩
  rw [hW1] at L1 ⊢
  clear hW1 s0 s1 L0
  go_wp2_with fail
  refine wp_loop_rounds 1 ?_
  rw [rounds_succ]
  go_wp2
  refine wp_loop_rounds 1 ?_
  rw [rounds_succ]
  go_wp2
  go_ret
  exact IntRes.nil _ _ L1.out.low
theorem leaders_zero (A : Option Addr) (c : Nat) (F : Nat → Ins) (w : World) :
    Calls Tryd.prog 54 #[.slice A 0 c] w (IntRes (ldL F 0) w) := by
  go_enter Tryd.func54, Tryd.ntmps54
  go_wp2
  refine wp_loop_rounds 1 ?_
  rw [rounds_succ]
  go_wp2
  go_ret
  exact ⟨_, rfl, World.ownsRow_lit (base := w.heap.size) (e := 3) (size := 1) w #[] 0 (by omega) (by decide) rfl, World.grownBy_alloc _ _ _⟩
/-- What LeadersOf gives. -/
def ldA (n : Nat) (F : Nat → Ins) : List Int := if vcB n F = true then ldL F n else []
theorem ldA_le (n : Nat) (F : Nat → Ins) : (ldA n F).length ≤ 40 := by
  unfold ldA
  split
  · rename_i hv
    have := vcB_40 hv
    have := pickL_le (ldB F n) n
    unfold ldL
    omega
  · simp
set_option maxHeartbeats 4000000 in
theorem ILeadersOf_any (A : Option Addr) (n c : Nat) (F : Nat → Ins) (w : World) (hg : WT w) (hn : n ≤ 9223372036854775807) (h : Code w A n F) :
    Calls Tryd.prog 24 #[.slice A n c] w (IntRes (ldA n F) w) := by
  have HV := shade (ValidCode_any A n c F w hg hn h)
  have HG := shade hg
  have HC := shade h
  clear hg h
  unfold ldA
  rcases hv : vcB n F with _ | _
  · rw [hv] at HV
    rw [if_neg (by simp)]
    go_enter Tryd.func24, Tryd.ntmps24
    go_wp2_with fail
    refine HV.out.mono ?_
    rintro e w1 ⟨rfl, hgr⟩
    have HR := shade hgr
    clear hgr HV
    go_wp2_with fail
    go_ret
    exact IntRes.nil _ _ HR.out
  · have HVT := shade hv
    rw [hv] at HV
    clear hv
    rw [if_pos rfl]
    have HP := shade (fun W (hW : w.grownBy W none) => show Calls Tryd.prog 53 #[.slice A n c] W (IntRes (ldL F n) W) from by
      by_cases h0 : n = 0
      · subst h0
        exact pLeaders_zero A c F W
      · obtain ⟨b, off, rfl, _⟩ := HC.out.resolve_left h0
        exact pLeaders_at b off n c F W (HG.out.below (below_of_grown hW) (wt_lt HG.out)) HVT.out (by omega) (HC.out.on hW))
    go_enter Tryd.func24, Tryd.ntmps24
    go_wp2_with fail
    refine HV.out.mono ?_
    rintro e w1 ⟨rfl, hgr⟩
    have HR := shade hgr
    clear hgr HV
    go_wp2_with fail
    refine (HP.out _ HR.out).mono ?_
    rintro e w2 ⟨v, rfl, ho, hg2⟩
    have HO := shade (IntRes.after HR.out ⟨v, rfl, ho, hg2⟩)
    clear ho hg2
    go_wp2_with fail
    go_ret
    exact HO.out
set_option maxHeartbeats 4000000 in
theorem SLeadersOf_any (A : Option Addr) (n c : Nat) (F : Nat → Ins) (w : World) (hn : n ≤ 9223372036854775807) (h : Code w A n F) :
    Calls Tryd.prog 25 #[.slice A n c] w (IntRes (ldA n F) w) := by
  have HV := shade (validCode_any A n c F w hn h)
  have HC := shade h
  clear h
  unfold ldA
  rcases hv : vcB n F with _ | _
  · rw [hv] at HV
    rw [if_neg (by simp)]
    go_enter Tryd.func25, Tryd.ntmps25
    go_wp2_with fail
    refine HV.out.mono ?_
    rintro e w1 ⟨rfl, hgr⟩
    have HR := shade hgr
    clear hgr HV
    go_wp2_with fail
    go_ret
    exact IntRes.nil _ _ HR.out
  · have hn40 := vcB_40 hv
    rw [hv] at HV
    clear hv
    rw [if_pos rfl]
    have HP := shade (fun W (hW : w.grownBy W none) => show Calls Tryd.prog 54 #[.slice A n c] W (IntRes (ldL F n) W) from by
      by_cases h0 : n = 0
      · subst h0
        exact leaders_zero A c F W
      · obtain ⟨b, off, rfl, _⟩ := HC.out.resolve_left h0
        exact leaders_at b off n c F W hn40 (by omega) (HC.out.on hW))
    go_enter Tryd.func25, Tryd.ntmps25
    go_wp2_with fail
    refine HV.out.mono ?_
    rintro e w1 ⟨rfl, hgr⟩
    have HR := shade hgr
    clear hgr HV
    go_wp2_with fail
    refine (HP.out _ HR.out).mono ?_
    rintro e w2 ⟨v, rfl, ho, hg2⟩
    have HO := shade (IntRes.after HR.out ⟨v, rfl, ho, hg2⟩)
    clear ho hg2
    go_wp2_with fail
    go_ret
    exact HO.out
/-- LeadersOf and its model give the same numbers. -/
theorem leaders_both (n : Nat) (F : Nat → Ins) (hn : n ≤ 9223372036854775807) :
    ∃ (K : Nat) (f : Nat → Int), K ≤ 300 ∧ (∀ (A : Option Addr) (c : Nat) (W : World), Code W A n F → Calls Tryd.prog 25 #[.slice A n c] W (NumRes K f W)) ∧
      (∀ (A : Option Addr) (c : Nat) (W : World), WT W → Code W A n F → Calls Tryd.prog 24 #[.slice A n c] W (NumRes K f W)) :=
  ⟨(ldA n F).length, fun j => (ldA n F).getD j 0, by have := ldA_le n F; omega, fun A c W hC => (SLeadersOf_any A n c F W hn hC).mono fun _ _ h => h.num, fun A c W hg hC => (ILeadersOf_any A n c F W hg hn hC).mono fun _ _ h => h.num⟩
end Go.Proofs.YtbdlbooooiinkaaDoor
