/- Time and stalls of a pipe, by the program. -/
import Derived.Test.YtlmjbflnfpccdaaDoorU35
namespace Go.Proofs.YtlmjbflnfpccdaaDoor
open Go.RowKit
set_option linter.unusedSimpArgs false
set_option maxRecDepth 100000 in
set_option maxHeartbeats 4000000 in
theorem time_any (Ar : Option Addr) (cr : Nat) (A2 : Option Addr) (n kr c2 : Nat) (f : Nat → Int) (w : World) (hf : ∀ j, 2 ≤ f j ∧ f j ≤ 3 * (j : Int) + 2) (hn : n ≤ 300) (h : Nums w A2 n f) :
    Calls Tryd.prog 46 #[.agg #[.slice Ar kr cr, .slice A2 n c2]] w fun e w' => e = .returned (.int .i64 (ptm n f)) ∧ w.grownBy w' none := by
  unfold ptm
  have hg := World.grownBy_alloc w (.cells #[.slice Ar kr cr, .slice A2 n c2] 56) none
  rcases n with _ | q
  · rw [if_pos rfl]
    go_enter Tryd.func46, Tryd.ntmps46
    go_wp2_with fail
    go_ret
    exact ⟨rfl, hg⟩
  · rw [if_neg (by omega), show q + 1 - 1 = q from rfl]
    have hr := hf q
    obtain ⟨b, o, rfl, hb, -⟩ := h.resolve_left (by omega)
    have c0 := h.cell (show q < q + 1 by omega)
    have c1 := hg.cell c0 (by intro e; cases e)
    obtain ⟨z, hz⟩ : ∃ z, f q = z := ⟨_, rfl⟩
    rw [hz] at hr c0 c1 ⊢
    clear hz
    have i1 : (q : Int) < (q : Int) + 1 := by omega
    have i2 : (0 : Int) ≤ (q : Int) := by omega
    go_enter Tryd.func46, Tryd.ntmps46
    go_wp2_with fail
    go_ret
    exact ⟨(by show Ending.returned (Value.int .i64 (z + 5 - 2)) = Ending.returned (Value.int .i64 (z + 3)); congr 2; omega), hg⟩
set_option maxRecDepth 100000 in
set_option maxHeartbeats 4000000 in
theorem IPipeTime_any (A : Option Addr) (n c : Nat) (F : Nat → Ins) (AJ : Option Addr) (m cj : Nat) (J : Nat → Bool) (fw : Bool) (w : World) (hw : WT w) (hn : n ≤ 9223372036854775807) (hc : n ≤ c) (h : Code w A n F) (hj : Bols w AJ m J) :
    Calls Tryd.prog 24 #[.slice A n c, .slice AJ m cj, .bool fw] w fun e w' => e = .returned (.int .i64 (tmP n F m J fw)) ∧ w.grownBy w' none := by
  have HP := shade (pipeOf_any A n c F AJ m cj J fw w hw hn hc h hj)
  rcases hv : vpB n F m with _ | _
  · rw [tmP_no hv]
    rw [hv] at HP
    clear hw hc h hj hv
    go_enter Tryd.func24, Tryd.ntmps24
    go_wp2_with fail
    refine HP.out.mono ?_
    rintro e w1 ⟨rv, wv, rfl, hr, hwk, hg⟩
    have HG := shade (grown_same hg (World.grownBy_alloc w1 (.cells #[rv, wv] 56) none))
    obtain ⟨A1, c1, rfl, -⟩ := ownsRow_slice hr
    obtain ⟨A2, c2, rfl, -⟩ := ownsRow_slice hwk
    clear hr hwk hg HP
    go_wp2_with fail
    go_ret
    exact ⟨rfl, HG.out⟩
  · rw [tmP_yes hv]
    have hP := nP_yes hv
    rw [hv, hP] at HP
    have h3 := (vpB_yes hv).1
    clear hw hc h hj hv hP
    go_enter Tryd.func24, Tryd.ntmps24
    go_wp2_with fail
    refine HP.out.mono ?_
    rintro e w1 ⟨rv, wv, rfl, hr, hwk, hg⟩
    have hg1 := World.grownBy_alloc w1 (.cells #[rv, wv] 56) none
    have HG := shade (grown_same hg hg1)
    obtain ⟨A1, c1, rfl, -⟩ := ownsRow_slice hr
    obtain ⟨A2, c2, rfl, -⟩ := ownsRow_slice hwk
    obtain ⟨A2', c2', e2, hN⟩ := (show RowO w1 w.heap.size w1.heap.size 3 (.slice A2 n c2) n (numL n (pk F J fw)) from ⟨hwk, fun i hi => (World.ownsRow.lt hwk i hi).2⟩).nums
    injection e2 with e2 _ e3
    subst e2 e3
    have HT := shade (fun W (hW : w1.grownBy W none) => time_any A1 c1 A2 n n c2 (pk F J fw) W (pk_rng F J fw) h3 (hN.grown hW (by intro _ _ _ e; cases e)))
    clear hr hwk hg HP hN
    have hb := Holds5.fresh w1 56 #[.slice A1 n c1, .slice A2 n c2]
    have HG1 := shade hg1
    clear hg1
    go_wp2_with fail
    refine (HT.out _ HG1.out).mono ?_
    rintro e w2 ⟨rfl, hg2⟩
    have HG2 := shade (grown_same HG.out hg2)
    clear hg2
    go_wp2_with fail
    go_ret
    exact ⟨rfl, HG2.out⟩
theorem time8_both (n : Nat) (F : Nat → Ins) (m : Nat) (J : Nat → Bool) (fw : Bool) (hn : n ≤ 9223372036854775807) :
    ∃ (v : Int), (∀ (A : Option Addr) (c : Nat) (AJ : Option Addr) (cj : Nat) (W : World), Code W A n F → Bols W AJ m J → Calls Tryd.prog 23 #[.slice A n c, .slice AJ m cj, .bool fw] W (fun e w' => e = .returned (.int .i64 v) ∧ W.grownBy w' none)) ∧
      (∀ (A : Option Addr) (AJ : Option Addr) (cj : Nat) (W : World), WT W → Code W A n F → Bols W AJ m J → Calls Tryd.prog 24 #[.slice A n n, .slice AJ m cj, .bool fw] W (fun e w' => e = .returned (.int .i64 v) ∧ W.grownBy w' none)) :=
  ⟨_, fun A c AJ cj W h hj => SPipeTime_any A n c F AJ m cj J fw W hn h hj, fun A AJ cj W hW h hj => IPipeTime_any A n n F AJ m cj J fw W hW hn (Nat.le_refl _) h hj⟩
end Go.Proofs.YtlmjbflnfpccdaaDoor
