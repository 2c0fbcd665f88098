/- Ticks, time and stalls of a pipe, by the model. -/
import Derived.Test.YtlmjbflnfpccdaaDoorU12
namespace Go.Proofs.YtlmjbflnfpccdaaDoor
open Go.RowKit
set_option linter.unusedSimpArgs false
/-- As many rows as instructions that may go through the pipe. -/
def nP (n : Nat) (F : Nat → Ins) (m : Nat) : Nat := if vpB n F m = true then n else 0
theorem nP_yes {n m : Nat} {F : Nat → Ins} (h : vpB n F m = true) : nP n F m = n := if_pos h
theorem nP_no {n m : Nat} {F : Nat → Ins} (h : vpB n F m = false) : nP n F m = 0 := if_neg (by rw [h]; simp)
theorem nP_le (n m : Nat) (F : Nat → Ins) : nP n F m ≤ 300 := by
  rcases h : vpB n F m with _ | _
  · rw [nP_no h]; omega
  · rw [nP_yes h]; exact (vpB_yes h).1
def tmP (n : Nat) (F : Nat → Ins) (m : Nat) (J : Nat → Bool) (fw : Bool) : Int := if vpB n F m = true then ptm n (pk F J fw) else -1
theorem tmP_yes {n m : Nat} {F : Nat → Ins} {J : Nat → Bool} {fw : Bool} (h : vpB n F m = true) : tmP n F m J fw = ptm n (pk F J fw) := if_pos h
theorem tmP_no {n m : Nat} {F : Nat → Ins} {J : Nat → Bool} {fw : Bool} (h : vpB n F m = false) : tmP n F m J fw = -1 := if_neg (by rw [h]; simp)
/-- What jumps cost. -/
def saP (n : Nat) (F : Nat → Ins) (m : Nat) (J : Nat → Bool) : Int := if vpB n F m = true then bub J (n - 1) else -1
def sbP (n : Nat) (F : Nat → Ins) (m : Nat) (J : Nat → Bool) (fw : Bool) : Int := if vpB n F m = true then (if n = 0 then 0 else ptm n (pk F J fw) - n - 4 - bub J (n - 1)) else -1
theorem saP_yes {n m : Nat} {F : Nat → Ins} {J : Nat → Bool} (h : vpB n F m = true) : saP n F m J = bub J (n - 1) := if_pos h
theorem saP_no {n m : Nat} {F : Nat → Ins} {J : Nat → Bool} (h : vpB n F m = false) : saP n F m J = -1 := if_neg (by rw [h]; simp)
theorem sbP_yes {n m : Nat} {F : Nat → Ins} {J : Nat → Bool} {fw : Bool} (h : vpB n F m = true) : sbP n F m J fw = if n = 0 then 0 else ptm n (pk F J fw) - n - 4 - bub J (n - 1) := if_pos h
theorem sbP_no {n m : Nat} {F : Nat → Ins} {J : Nat → Bool} {fw : Bool} (h : vpB n F m = false) : sbP n F m J fw = -1 := if_neg (by rw [h]; simp)
theorem bols_on {w w' : World} {A : Option Addr} {n : Nat} {f : Nat → Bool} (h : Bols w A n f) (hg : w.grownBy w' none) : Bols w' A n f := h.grown hg (by intro _ _ _ e; cases e)
theorem NumRes.after {k : Nat} {f : Nat → Int} {w w1 w2 : World} {e : Ending} (hg : w.grownBy w1 none) (h : NumRes k f w1 e w2) : NumRes k f w e w2 := by
  obtain ⟨v, he, ho, h2⟩ := h
  exact ⟨v, he, World.ownsRow.mono ho hg.size, grown_same hg h2⟩
set_option maxHeartbeats 2000000 in
theorem SPipeTicks_any (A : Option Addr) (n c : Nat) (F : Nat → Ins) (AJ : Option Addr) (m cj : Nat) (J : Nat → Bool) (fw : Bool) (w : World) (hn : n ≤ 9223372036854775807) (h : Code w A n F) (hj : Bols w AJ m J) :
    Calls Tryd.prog 12 #[.slice A n c, .slice AJ m cj, .bool fw] w (NumRes (nP n F m) (pk F J fw) w) := by
  have HV := shade (validPipe_any A n c F AJ m cj w hn h)
  rcases hv : vpB n F m with _ | _
  · rw [nP_no hv]
    rw [hv] at HV
    clear h hv hj
    go_enter Tryd.func12, Tryd.ntmps12
    go_wp2_with fail
    refine HV.out.mono ?_
    rintro e w1 ⟨rfl, hg⟩
    have HG := shade hg
    clear hg
    go_wp2_with fail
    go_ret
    exact ⟨_, rfl, World.ownsRow_nil _ _ _ _, HG.out⟩
  · rw [nP_yes hv]
    rw [hv] at HV
    obtain ⟨h3, rfl, hI⟩ := vpB_yes hv
    have HP := shade (fun W (hW : w.grownBy W none) => sPipe_any A m c F AJ cj J fw W h3 hI (h.on hW) (bols_on hj hW))
    clear h hv hj hI
    go_enter Tryd.func12, Tryd.ntmps12
    go_wp2_with fail
    refine HV.out.mono ?_
    rintro e w1 ⟨rfl, hg⟩
    have HG := shade hg
    clear hg
    go_wp2_with fail
    refine (HP.out _ HG.out).mono ?_
    rintro e w2 h2
    have h3 := NumRes.after HG.out h2
    clear h2
    obtain ⟨v, rfl, hR, hg⟩ := h3
    have HR := shade hR
    have HG2 := shade hg
    clear hR hg
    go_wp2_with fail
    go_ret
    exact ⟨_, rfl, HR.out, HG2.out⟩
set_option maxHeartbeats 2000000 in
theorem SPipeTime_any (A : Option Addr) (n c : Nat) (F : Nat → Ins) (AJ : Option Addr) (m cj : Nat) (J : Nat → Bool) (fw : Bool) (w : World) (hn : n ≤ 9223372036854775807) (h : Code w A n F) (hj : Bols w AJ m J) :
    Calls Tryd.prog 23 #[.slice A n c, .slice AJ m cj, .bool fw] w fun e w' => e = .returned (.int .i64 (tmP n F m J fw)) ∧ w.grownBy w' none := by
  have HV := shade (validPipe_any A n c F AJ m cj w hn h)
  rcases hv : vpB n F m with _ | _
  · rw [tmP_no hv]
    rw [hv] at HV
    clear h hv hj
    go_enter Tryd.func23, Tryd.ntmps23
    go_wp2_with fail
    refine HV.out.mono ?_
    rintro e w1 ⟨rfl, hg⟩
    have HG := shade hg
    clear hg
    go_wp2_with fail
    go_ret
    exact ⟨rfl, HG.out⟩
  · rw [tmP_yes hv]
    rw [hv] at HV
    obtain ⟨h3, rfl, hI⟩ := vpB_yes hv
    have HP := shade (fun W (hW : w.grownBy W none) => sPipe_any A m c F AJ cj J fw W h3 hI (h.on hW) (bols_on hj hW))
    clear h hv hj hI
    unfold ptm
    have hr := pk_rng F J fw (m - 1)
    rcases m with _ | q
    · rw [if_pos rfl]
      go_enter Tryd.func23, Tryd.ntmps23
      go_wp2_with fail
      refine HV.out.mono ?_
      rintro e w1 ⟨rfl, hg⟩
      have HG := shade hg
      clear hg
      go_wp2_with fail
      go_ret
      exact ⟨rfl, HG.out⟩
    · rw [if_neg (by omega), show q + 1 - 1 = q from rfl]
      rw [show q + 1 - 1 = q from rfl] at hr
      obtain ⟨z, hz⟩ : ∃ z, pk F J fw q = z := ⟨_, rfl⟩
      rw [hz] at hr ⊢
      have HZ := shade hz
      clear hz
      have i1 : (q : Int) < (q : Int) + 1 := by omega
      have i2 : (0 : Int) ≤ (q : Int) := by omega
      go_enter Tryd.func23, Tryd.ntmps23
      go_wp2_with fail
      refine HV.out.mono ?_
      rintro e w1 ⟨rfl, hg⟩
      have HG := shade hg
      clear hg
      go_wp2_with fail
      refine (HP.out _ HG.out).mono ?_
      rintro e w2 h2
      obtain ⟨v, rfl, hR, hg⟩ := NumRes.row h2
      obtain ⟨A1, c1, rfl, hN⟩ := hR.nums
      obtain ⟨ob, oo, rfl, -⟩ := hN.resolve_left (by omega)
      have hq := hN.cell (show q < q + 1 by omega)
      rw [HZ.out] at hq
      have HG2 := shade (grown_same HG.out hg)
      clear h2 hR hN hg
      go_wp2_with fail
      go_ret
      exact ⟨rfl, HG2.out⟩
set_option maxRecDepth 100000 in
set_option maxHeartbeats 4000000 in
theorem SStallsOf_any (A : Option Addr) (n c : Nat) (F : Nat → Ins) (AJ : Option Addr) (m cj : Nat) (J : Nat → Bool) (fw : Bool) (w : World) (hn : n ≤ 9223372036854775807) (h : Code w A n F) (hj : Bols w AJ m J) :
    Calls Tryd.prog 30 #[.slice A n c, .slice AJ m cj, .bool fw] w fun e w' => e = .returned (.tuple #[.int .i64 (saP n F m J), .int .i64 (sbP n F m J fw)]) ∧ w.grownBy w' none := by
  have HV := shade (validPipe_any A n c F AJ m cj w hn h)
  rcases hv : vpB n F m with _ | _
  · rw [saP_no hv, sbP_no hv]
    rw [hv] at HV
    clear h hv hj
    go_enter Tryd.func30, Tryd.ntmps30
    go_wp2_with fail
    refine HV.out.mono ?_
    rintro e w1 ⟨rfl, hg⟩
    have HG := shade hg
    clear hg
    go_wp2_with fail
    go_ret2
    exact ⟨rfl, HG.out⟩
  · rw [saP_yes hv, sbP_yes hv]
    rw [hv] at HV
    have HT := shade (fun W (hW : w.grownBy W none) => show Calls Tryd.prog 23 #[.slice A n c, .slice AJ m cj, .bool fw] W (fun e w' => e = .returned (.int .i64 (ptm n (pk F J fw))) ∧ W.grownBy w' none) from tmP_yes (J := J) (fw := fw) hv ▸ SPipeTime_any A n c F AJ m cj J fw W hn (h.on hW) (bols_on hj hW))
    obtain ⟨h3, rfl, hI⟩ := vpB_yes hv
    have HBJ := shade hj
    clear h hv hj hI
    rcases m with _ | q
    · rw [if_pos rfl]
      go_enter Tryd.func30, Tryd.ntmps30
      go_wp2_with fail
      refine HV.out.mono ?_
      rintro e w1 ⟨rfl, hg⟩
      have HG := shade hg
      clear hg
      go_wp2_with fail
      go_ret2
      exact ⟨rfl, HG.out⟩
    · rw [if_neg (by omega), show q + 1 - 1 = q from rfl]
      have hr := pk_rng F J fw q
      have hT : ptm (q + 1) (pk F J fw) = pk F J fw q + 3 := if_neg (by omega)
      rw [hT] at HT ⊢
      generalize pk F J fw q = z at *
      obtain ⟨jb, jo, rfl, -⟩ := HBJ.out.resolve_left (by omega)
      go_enter Tryd.func30, Tryd.ntmps30
      go_wp2_with fail
      refine HV.out.mono ?_
      rintro e w1 ⟨rfl, hg⟩
      have HG := shade hg
      clear hg
      go_wp2_with fail
      go_loopw [8, 9] (fun v k wr => ∃ j : Nat, j ≤ q ∧ k = .int .i64 (j : Int) ∧ v = .int .i64 (bub J j) ∧ w.grownBy wr none) (fun _ k _ => q - (intOf k).toNat)
      case atStart => exact ⟨0, Nat.zero_le _, rfl, rfl, HG.out⟩
      case round =>
        clear HG
        obtain ⟨j, hjq, rfl, rfl, hg⟩ := hrel
        have HG := shade hg
        clear hg
        have hb := bub_rng J j
        by_cases hlt : j < q
        · have hc := (bols_on HBJ.out HG.out).cell (show j < q + 1 by omega)
          have hs : bub J (j + 1) = bub J j + (if J j = true then 2 else 0) := rfl
          have i1 : (j : Int) < (q : Int) + 1 := by omega
          have i2 : (0 : Int) ≤ (j : Int) := by omega
          have i3 : (j : Int) + 1 < (q : Int) + 1 := by omega
          generalize bub J j = y at *
          have HS := shade hs
          rcases hjj : J j with _ | _
          · rw [hjj] at hc HS
            clear hs hjj
            go_wp2_with fail
            go_roundw
            case rel => exact ⟨j + 1, by omega, by go_num, (by rw [HS.out]; simp), HG.out⟩
            case measure => simp [intOf]; omega
          · rw [hjj] at hc HS
            clear hs hjj
            go_wp2_with fail
            go_roundw
            case rel => exact ⟨j + 1, by omega, by go_num, (by rw [HS.out]; simp), HG.out⟩
            case measure => simp [intOf]; omega
        · obtain rfl : j = q := by omega
          go_wp2_with fail
          refine (HT.out _ HG.out).mono ?_
          rintro e w2 ⟨rfl, hg2⟩
          have HG2 := shade (grown_same HG.out hg2)
          clear hg2
          go_wp2_with fail
          go_ret2
          exact ⟨rfl, HG2.out⟩
end Go.Proofs.YtlmjbflnfpccdaaDoor
