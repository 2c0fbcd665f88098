/- Ticks, time and stalls of a pipe, by the model. In which part of the pipe an instruction is, by the model. PipeTable, by the model. -/
import Derived.Test.YtlmjbflnfpccdaaDoorU12
import Derived.Deep.RegionHeld3
namespace Go.Proofs.YtlmjbflnfpccdaaDoor
open Go.RowKit
set_option linter.unusedSimpArgs false
/-- As many rows as instructions that may go through the pipe. -/
def nP (n : Nat) (F : Nat → Ins) (m : Nat) : Nat := if vpB n F m = true then n else 0
theorem nP_yes {n m : Nat} {F : Nat → Ins} (h : vpB n F m = true) : nP n F m = n := if_pos h
theorem nP_no {n m : Nat} {F : Nat → Ins} (h : vpB n F m = false) : nP n F m = 0 := if_neg (by rw [h]; simp)
theorem nP_le (n m : Nat) (F : Nat → Ins) : nP n F m ≤ 300 := by
  rcases h : vpB n F m with _ | _
  · rw [nP_no h]; omega
  · rw [nP_yes h]; exact (vpB_yes h).1
def tmP (n : Nat) (F : Nat → Ins) (m : Nat) (J : Nat → Bool) (fw : Bool) : Int := if vpB n F m = true then ptm n (pk F J fw) else -1
theorem tmP_yes {n m : Nat} {F : Nat → Ins} {J : Nat → Bool} {fw : Bool} (h : vpB n F m = true) : tmP n F m J fw = ptm n (pk F J fw) := if_pos h
theorem tmP_no {n m : Nat} {F : Nat → Ins} {J : Nat → Bool} {fw : Bool} (h : vpB n F m = false) : tmP n F m J fw = -1 := if_neg (by rw [h]; simp)
/-- What jumps cost. -/
def saP (n : Nat) (F : Nat → Ins) (m : Nat) (J : Nat → Bool) : Int := if vpB n F m = true then bub J (n - 1) else -1
def sbP (n : Nat) (F : Nat → Ins) (m : Nat) (J : Nat → Bool) (fw : Bool) : Int := if vpB n F m = true then (if n = 0 then 0 else ptm n (pk F J fw) - n - 4 - bub J (n - 1)) else -1
theorem saP_yes {n m : Nat} {F : Nat → Ins} {J : Nat → Bool} (h : vpB n F m = true) : saP n F m J = bub J (n - 1) := if_pos h
theorem saP_no {n m : Nat} {F : Nat → Ins} {J : Nat → Bool} (h : vpB n F m = false) : saP n F m J = -1 := if_neg (by rw [h]; simp)
theorem sbP_yes {n m : Nat} {F : Nat → Ins} {J : Nat → Bool} {fw : Bool} (h : vpB n F m = true) : sbP n F m J fw = if n = 0 then 0 else ptm n (pk F J fw) - n - 4 - bub J (n - 1) := if_pos h
theorem sbP_no {n m : Nat} {F : Nat → Ins} {J : Nat → Bool} {fw : Bool} (h : vpB n F m = false) : sbP n F m J fw = -1 := if_neg (by rw [h]; simp)
theorem bols_on {w w' : World} {A : Option Addr} {n : Nat} {f : Nat → Bool} (h : Bols w A n f) (hg : w.grownBy w' none) : Bols w' A n f := h.grown hg (by intro _ _ _ e; cases e)
theorem NumRes.after {k : Nat} {f : Nat → Int} {w w1 w2 : World} {e : Ending} (hg : w.grownBy w1 none) (h : NumRes k f w1 e w2) : NumRes k f w e w2 := by
  obtain ⟨v, he, ho, h2⟩ := h
  exact ⟨v, he, World.ownsRow.mono ho hg.size, grown_same hg h2⟩
set_option maxHeartbeats 2000000 in
theorem SPipeTicks_any (A : Option Addr) (n c : Nat) (F : Nat → Ins) (AJ : Option Addr) (m cj : Nat) (J : Nat → Bool) (fw : Bool) (w : World) (hn : n ≤ 9223372036854775807) (h : Code w A n F) (hj : Bols w AJ m J) :
    Calls Tryd.prog 12 #[.slice A n c, .slice AJ m cj, .bool fw] w (NumRes (nP n F m) (pk F J fw) w) := by
  have HV := shade (validPipe_any A n c F AJ m cj w hn h)
  rcases hv : vpB n F m with _ | _
  · rw [nP_no hv]
    rw [hv] at HV
    clear h hv hj
    go_enter Tryd.func12, Tryd.ntmps12
    go_wp2_with fail
    refine HV.out.mono ?_
    rintro e w1 ⟨rfl, hg⟩
    have HG := shade hg
    clear hg
    go_wp2_with fail
    go_ret
    exact ⟨_, rfl, World.ownsRow_nil _ _ _ _, HG.out⟩
  · rw [nP_yes hv]
    rw [hv] at HV
    obtain ⟨h3, rfl, hI⟩ := vpB_yes hv
    have HP := shade (fun W (hW : w.grownBy W none) => sPipe_any A m c F AJ cj J fw W h3 hI (h.on hW) (bols_on hj hW))
    clear h hv hj hI
    go_enter Tryd.func12, Tryd.ntmps12
    go_wp2_with fail
    refine HV.out.mono ?_
    rintro e w1 ⟨rfl, hg⟩
    have HG := shade hg
    clear hg
    go_wp2_with fail
    refine (HP.out _ HG.out).mono ?_
    rintro e w2 h2
    have h3 := NumRes.after HG.out h2
    clear h2
    obtain ⟨v, rfl, hR, hg⟩ := h3
    have HR := shade hR
    have HG2 := shade hg
    clear hR hg
    go_wp2_with fail
    go_ret
    exact ⟨_, rfl, HR.out, HG2.out⟩
set_option maxHeartbeats 2000000 in
theorem SPipeTime_any (A : Option Addr) (n c : Nat) (F : Nat → Ins) (AJ : Option Addr) (m cj : Nat) (J : Nat → Bool) (fw : Bool) (w : World) (hn : n ≤ 9223372036854775807) (h : Code w A n F) (hj : Bols w AJ m J) :
    Calls Tryd.prog 23 #[.slice A n c, .slice AJ m cj, .bool fw] w fun e w' => e = .returned (.int .i64 (tmP n F m J fw)) ∧ w.grownBy w' none := by
  have HV := shade (validPipe_any A n c F AJ m cj w hn h)
  rcases hv : vpB n F m with _ | _
  · rw [tmP_no hv]
    rw [hv] at HV
    clear h hv hj
    go_enter Tryd.func23, Tryd.ntmps23
    go_wp2_with fail
    refine HV.out.mono ?_
    rintro e w1 ⟨rfl, hg⟩
    have HG := shade hg
    clear hg
    go_wp2_with fail
    go_ret
    exact ⟨rfl, HG.out⟩
  · rw [tmP_yes hv]
    rw [hv] at HV
    obtain ⟨h3, rfl, hI⟩ := vpB_yes hv
    have HP := shade (fun W (hW : w.grownBy W none) => sPipe_any A m c F AJ cj J fw W h3 hI (h.on hW) (bols_on hj hW))
    clear h hv hj hI
    unfold ptm
    have hr := pk_rng F J fw (m - 1)
    rcases m with _ | q
    · rw [if_pos rfl]
      go_enter Tryd.func23, Tryd.ntmps23
      go_wp2_with fail
      refine HV.out.mono ?_
      rintro e w1 ⟨rfl, hg⟩
      have HG := shade hg
      clear hg
      go_wp2_with fail
      go_ret
      exact ⟨rfl, HG.out⟩
    · rw [if_neg (by omega), show q + 1 - 1 = q from rfl]
      rw [show q + 1 - 1 = q from rfl] at hr
      obtain ⟨z, hz⟩ : ∃ z, pk F J fw q = z := ⟨_, rfl⟩
      rw [hz] at hr ⊢
      have HZ := shade hz
      clear hz
      have i1 : (q : Int) < (q : Int) + 1 := by omega
      have i2 : (0 : Int) ≤ (q : Int) := by omega
      go_enter Tryd.func23, Tryd.ntmps23
      go_wp2_with fail
      refine HV.out.mono ?_
      rintro e w1 ⟨rfl, hg⟩
      have HG := shade hg
      clear hg
      go_wp2_with fail
      refine (HP.out _ HG.out).mono ?_
      rintro e w2 h2
      obtain ⟨v, rfl, hR, hg⟩ := NumRes.row h2
      obtain ⟨A1, c1, rfl, hN⟩ := hR.nums
      obtain ⟨ob, oo, rfl, -⟩ := hN.resolve_left (by omega)
      have hq := hN.cell (show q < q + 1 by omega)
      rw [HZ.out] at hq
      have HG2 := shade (grown_same HG.out hg)
      clear h2 hR hN hg
      go_wp2_with fail
      go_ret
      exact ⟨rfl, HG2.out⟩
set_option maxRecDepth 100000 in
set_option maxHeartbeats 4000000 in
theorem SStallsOf_any (A : Option Addr) (n c : Nat) (F : Nat → Ins) (AJ : Option Addr) (m cj : Nat) (J : Nat → Bool) (fw : Bool) (w : World) (hn : n ≤ 9223372036854775807) (h : Code w A n F) (hj : Bols w AJ m J) :
    Calls Tryd.prog 30 #[.slice A n c, .slice AJ m cj, .bool fw] w fun e w' => e = .returned (.tuple #[.int .i64 (saP n F m J), .int .i64 (sbP n F m J fw)]) ∧ w.grownBy w' none := by
  have HV := shade (validPipe_any A n c F AJ m cj w hn h)
  rcases hv : vpB n F m with _ | _
  · rw [saP_no hv, sbP_no hv]
    rw [hv] at HV
    clear h hv hj
    go_enter Tryd.func30, Tryd.ntmps30
    go_wp2_with fail
    refine HV.out.mono ?_
    rintro e w1 ⟨rfl, hg⟩
    have HG := shade hg
    clear hg
    go_wp2_with fail
    go_ret2
    exact ⟨rfl, HG.out⟩
  · rw [saP_yes hv, sbP_yes hv]
    rw [hv] at HV
    have HT := shade (fun W (hW : w.grownBy W none) => show Calls Tryd.prog 23 #[.slice A n c, .slice AJ m cj, .bool fw] W (fun e w' => e = .returned (.int .i64 (ptm n (pk F J fw))) ∧ W.grownBy w' none) from tmP_yes (J := J) (fw := fw) hv ▸ SPipeTime_any A n c F AJ m cj J fw W hn (h.on hW) (bols_on hj hW))
    obtain ⟨h3, rfl, hI⟩ := vpB_yes hv
    have HBJ := shade hj
    clear h hv hj hI
    rcases m with _ | q
    · rw [if_pos rfl]
      go_enter Tryd.func30, Tryd.ntmps30
      go_wp2_with fail
      refine HV.out.mono ?_
      rintro e w1 ⟨rfl, hg⟩
      have HG := shade hg
      clear hg
      go_wp2_with fail
      go_ret2
      exact ⟨rfl, HG.out⟩
    · rw [if_neg (by omega), show q + 1 - 1 = q from rfl]
      have hr := pk_rng F J fw q
      have hT : ptm (q + 1) (pk F J fw) = pk F J fw q + 3 := if_neg (by omega)
      rw [hT] at HT ⊢
      generalize pk F J fw q = z at *
      obtain ⟨jb, jo, rfl, -⟩ := HBJ.out.resolve_left (by omega)
      go_enter Tryd.func30, Tryd.ntmps30
      go_wp2_with fail
      refine HV.out.mono ?_
      rintro e w1 ⟨rfl, hg⟩
      have HG := shade hg
      clear hg
      go_wp2_with fail
      go_loopw [8, 9] (fun v k wr => ∃ j : Nat, j ≤ q ∧ k = .int .i64 (j : Int) ∧ v = .int .i64 (bub J j) ∧ w.grownBy wr none) (fun _ k _ => q - (intOf k).toNat)
      case atStart => exact ⟨0, Nat.zero_le _, rfl, rfl, HG.out⟩
      case round =>
        clear HG
        obtain ⟨j, hjq, rfl, rfl, hg⟩ := hrel
        have HG := shade hg
        clear hg
        have hb := bub_rng J j
        by_cases hlt : j < q
        · have hc := (bols_on HBJ.out HG.out).cell (show j < q + 1 by omega)
          have hs : bub J (j + 1) = bub J j + (if J j = true then 2 else 0) := rfl
          have i1 : (j : Int) < (q : Int) + 1 := by omega
          have i2 : (0 : Int) ≤ (j : Int) := by omega
          have i3 : (j : Int) + 1 < (q : Int) + 1 := by omega
          generalize bub J j = y at *
          have HS := shade hs
          rcases hjj : J j with _ | _
          · rw [hjj] at hc HS
            clear hs hjj
            go_wp2_with fail
            go_roundw
            case rel => exact ⟨j + 1, by omega, by go_num, (by rw [HS.out]; simp), HG.out⟩
            case measure => simp [intOf]; omega
          · rw [hjj] at hc HS
            clear hs hjj
            go_wp2_with fail
            go_roundw
            case rel => exact ⟨j + 1, by omega, by go_num, (by rw [HS.out]; simp), HG.out⟩
            case measure => simp [intOf]; omega
        · obtain rfl : j = q := by omega
          go_wp2_with fail
          refine (HT.out _ HG.out).mono ?_
          rintro e w2 ⟨rfl, hg2⟩
          have HG2 := shade (grown_same HG.out hg2)
          clear hg2
          go_wp2_with fail
          go_ret2
          exact ⟨rfl, HG2.out⟩
end Go.Proofs.YtlmjbflnfpccdaaDoor

namespace Go.Proofs.YtlmjbflnfpccdaaDoor
open Go.RowKit
set_option linter.unusedSimpArgs false
theorem st_0 (J : Nat → Bool) (f : Nat → Int) : st J f 0 = 2 := if_pos rfl
theorem st_s (J : Nat → Bool) (f : Nat → Int) (q : Nat) : st J f (q + 1) = f q + 1 + (if J q = true then 2 else 0) := if_neg (by omega)
set_option maxRecDepth 100000 in
set_option maxHeartbeats 8000000 in
theorem part_any (AT : Option Addr) (ct : Nat) (AJ : Option Addr) (cj n : Nat) (f : Nat → Int) (J : Nat → Bool) (k : Nat) (t : Int) (w : World) (hk : k < n) (hn : n ≤ 300) (ht0 : 0 ≤ t) (ht1 : t ≤ 2000) (hr : ∀ j, 2 ≤ f j ∧ f j ≤ 3 * (j : Int) + 2) (hs : ∀ j, st J f j ≤ f j) (h0 : f 0 = 2) (hN : Nums w AT n f) (hj : Bols w AJ n J) :
    Calls Tryd.prog 47 #[.slice AT n ct, .slice AJ n cj, .int .i64 (k : Int), .int .i64 t] w fun e w' => e = .returned (.int .i64 (prt J f k t)) ∧ w.grownBy w' none := by
  obtain ⟨tb, tq, rfl, -⟩ := hN.resolve_left (by omega)
  obtain ⟨jb, jo, rfl, -⟩ := hj.resolve_left (by omega)
  have c0 := hN.cell hk
  have hrk := hr k
  have hsk := hs k
  have hs0 := st_0 J f
  have i1 : (k : Int) < (n : Int) := by omega
  have i2 : (0 : Int) ≤ (k : Int) := by omega
  obtain ⟨P, hP⟩ : ∃ P, prt J f k t = P := ⟨_, rfl⟩
  unfold prt at hP
  rcases k with _ | q
  · rw [hs0] at hP hsk
    rw [h0] at hP hrk hsk c0
    rw [Nat.add_zero] at c0
    have HPP := shade (show (prt J f 0 t) = P by unfold prt; rw [hs0, h0]; exact hP)
    rw [HPP.out]
    by_cases a1 : 2 ≤ t
    · by_cases a2 : t ≤ 4
      · obtain rfl : P = t := by rw [← hP]; repeat' split <;> omega
        clear hP HPP hr hs hs0 h0
        have e1 : P - 2 + 2 = P := by omega
        go_enter Tryd.func47, Tryd.ntmps47
        go_wp2_with fail
        go_ret
        exact ⟨by first | rfl | (congr 2; omega), World.grownBy.refl _ _⟩
      · obtain rfl : P = -1 := by rw [← hP]; repeat' split <;> omega
        clear hP HPP hr hs hs0 h0
        have e0 : (t == 0) = false := by simp; omega
        have e1 : (t == 1) = false := by simp; omega
        go_enter Tryd.func47, Tryd.ntmps47
        go_wp2_with fail
        go_ret
        exact ⟨rfl, World.grownBy.refl _ _⟩
    · rcases (show t = 0 ∨ t = 1 by omega) with rfl | rfl
      · obtain rfl : P = 0 := by rw [← hP]; repeat' split <;> omega
        clear hP HPP hr hs hs0 h0
        go_enter Tryd.func47, Tryd.ntmps47
        go_wp2_with fail
        go_ret
        exact ⟨rfl, World.grownBy.refl _ _⟩
      · obtain rfl : P = 1 := by rw [← hP]; repeat' split <;> omega
        clear hP HPP hr hs hs0 h0
        go_enter Tryd.func47, Tryd.ntmps47
        go_wp2_with fail
        go_ret
        exact ⟨rfl, World.grownBy.refl _ _⟩
  · have c1 := hN.cell (show q < n by omega)
    have c2 := hj.cell (show q < n by omega)
    have hrq := hr q
    have hss := st_s J f q
    have HPP := shade (show (prt J f (q + 1) t) = P by unfold prt; exact hP)
    rw [HPP.out]
    clear HPP
    rw [hss] at hP hsk
    have j1 : (q : Int) < (n : Int) := by omega
    have j2 : (0 : Int) ≤ (q : Int) := by omega
    have j3 : (0 : Int) < (q : Int) + 1 := by omega
    clear hr hs hs0 h0 hss
    generalize f (q + 1) = fk at *
    generalize f q = fq at *
    rcases hjj : J q with _ | _
    · rw [hjj] at c2 hP hsk
      simp only [if_true, if_neg Bool.false_ne_true, Int.add_zero] at hP hsk
      clear hjj
      by_cases a1 : fk ≤ t
      · by_cases a2 : t < fk + 3
        · obtain rfl : P = t - fk + 2 := by rw [← hP]; repeat' split <;> omega
          clear hP
          go_enter Tryd.func47, Tryd.ntmps47
          go_wp2_with fail
          go_ret
          exact ⟨rfl, World.grownBy.refl _ _⟩
        · obtain rfl : P = -1 := by rw [← hP]; repeat' split <;> omega
          clear hP
          go_enter Tryd.func47, Tryd.ntmps47
          go_wp2_with fail
          go_ret
          exact ⟨rfl, World.grownBy.refl _ _⟩
      · by_cases a2 : fq ≤ t
        · obtain rfl : P = 1 := by rw [← hP]; repeat' split <;> omega
          clear hP
          go_enter Tryd.func47, Tryd.ntmps47
          go_wp2_with fail
          go_ret
          exact ⟨rfl, World.grownBy.refl _ _⟩
        · by_cases a3 : t = fq - 1
          · obtain rfl : P = 0 := by rw [← hP]; repeat' split <;> omega
            clear hP
            subst a3
            go_enter Tryd.func47, Tryd.ntmps47
            go_wp2_with fail
            go_ret
            exact ⟨rfl, World.grownBy.refl _ _⟩
          · obtain rfl : P = -1 := by rw [← hP]; repeat' split <;> omega
            clear hP
            go_enter Tryd.func47, Tryd.ntmps47
            go_wp2_with fail
            go_ret
            exact ⟨rfl, World.grownBy.refl _ _⟩
    · rw [hjj] at c2 hP hsk
      simp only [if_true, if_neg Bool.false_ne_true, Int.add_zero] at hP hsk
      clear hjj
      by_cases a1 : fk ≤ t
      · by_cases a2 : t < fk + 3
        · obtain rfl : P = t - fk + 2 := by rw [← hP]; repeat' split <;> omega
          clear hP
          go_enter Tryd.func47, Tryd.ntmps47
          go_wp2_with fail
          go_ret
          exact ⟨rfl, World.grownBy.refl _ _⟩
        · obtain rfl : P = -1 := by rw [← hP]; repeat' split <;> omega
          clear hP
          go_enter Tryd.func47, Tryd.ntmps47
          go_wp2_with fail
          go_ret
          exact ⟨rfl, World.grownBy.refl _ _⟩
      · by_cases a2 : fq + 2 ≤ t
        · obtain rfl : P = 1 := by rw [← hP]; repeat' split <;> omega
          clear hP
          go_enter Tryd.func47, Tryd.ntmps47
          go_wp2_with fail
          go_ret
          exact ⟨rfl, World.grownBy.refl _ _⟩
        · by_cases a3 : t = fq + 1
          · obtain rfl : P = 0 := by rw [← hP]; repeat' split <;> omega
            clear hP
            subst a3
            go_enter Tryd.func47, Tryd.ntmps47
            go_wp2_with fail
            go_ret
            exact ⟨rfl, World.grownBy.refl _ _⟩
          · obtain rfl : P = -1 := by rw [← hP]; repeat' split <;> omega
            clear hP
            go_enter Tryd.func47, Tryd.ntmps47
            go_wp2_with fail
            go_ret
            exact ⟨rfl, World.grownBy.refl _ _⟩
end Go.Proofs.YtlmjbflnfpccdaaDoor

namespace Go.Proofs.YtlmjbflnfpccdaaDoor
open Go.RowKit
set_option linter.unusedSimpArgs false
theorem info41 : (Tryd.prog.info? 25).map (fun i => (i.zero, i.size, i.bytes)) = some (some (.slice none 0 0), 1, 24) := by kernel_rfl
theorem slice_new (w : World) (t : TypeId) (u : Value) : ∀ j x, ([u] : List Value)[j]? = some x → (w.alloc (.cells #[u] t)).cell? ((⟨w.heap.size, 0, none⟩ : Addr).add j) = some x := by
  intro j x hx
  have : j = 0 := by
    have := (List.getElem?_eq_some_iff.1 hx).1
    simpa using this
  subst this
  rw [Addr.add_lit, World.cell?_alloc_new]
  simpa using hx
/-- The parts, tick by tick. -/
def ptR (F : Nat → Ins) (J : Nat → Bool) (fw : Bool) (k i : Nat) : Int := prt J (pk F J fw) k (i : Int)
/-- How many ticks. -/
def lnP (n : Nat) (F : Nat → Ins) (J : Nat → Bool) (fw : Bool) (_ : Nat) : Nat := (ptm n (pk F J fw)).toNat
theorem lnP_le {n : Nat} (hn : n ≤ 300) (F : Nat → Ins) (J : Nat → Bool) (fw : Bool) (j : Nat) : lnP n F J fw j ≤ 1000 := by
  unfold lnP ptm
  have := pk_rng F J fw (n - 1)
  split <;> omega
theorem pk_0 (F : Nat → Ins) (J : Nat → Bool) (fw : Bool) : pk F J fw 0 = 2 := (pk_eq F J fw 0).symm
theorem SPipeTable_no (A : Option Addr) (n c : Nat) (F : Nat → Ins) (AJ : Option Addr) (m cj : Nat) (fw : Bool) (len : Nat → Nat) (R : Nat → Nat → Int) (w : World) (hv : vpB n F m = false) (hn : n ≤ 9223372036854775807) (h : Code w A n F) :
    Calls Tryd.prog 25 #[.slice A n c, .slice AJ m cj, .bool fw] w (RwsRes 0 len R w) := by
  have HV := shade (validPipe_any A n c F AJ m cj w hn h)
  rw [hv] at HV
  clear h hv
  go_enter Tryd.func25, Tryd.ntmps25
  go_wp2_with fail
  refine HV.out.mono ?_
  rintro e w1 ⟨rfl, hg⟩
  have HG := shade hg
  clear hg HV
  go_wp2_with fail
  go_ret
  exact RwsRes.nil _ _ _ _ HG.out
/-- The rows so far. -/
structure Pts (w wr : World) (v : Value) (k : Nat) (AS : Nat → Value) (len : Nat → Nat) (R : Nat → Nat → Int) : Prop where
  rws : Rws wr w.heap.size wr.heap.size v k AS len R
  low : w.grownBy wr none
set_option maxRecDepth 100000 in
set_option maxHeartbeats 8000000 in
theorem SPipeTable_yes (A : Option Addr) (q c : Nat) (F : Nat → Ins) (AJ : Option Addr) (cj : Nat) (J : Nat → Bool) (fw : Bool) (w : World) (hv : vpB (q + 1) F (q + 1) = true) (h : Code w A (q + 1) F) (hj : Bols w AJ (q + 1) J) :
    Calls Tryd.prog 25 #[.slice A (q + 1) c, .slice AJ (q + 1) cj, .bool fw] w (RwsRes (q + 1) (lnP (q + 1) F J fw) (ptR F J fw) w) := by
  obtain ⟨h3, -, hI⟩ := vpB_yes hv
  have HV := shade (validPipe_any A (q + 1) c F AJ (q + 1) cj w (by omega) h)
  rw [hv] at HV
  have HP := shade (fun W (hW : w.grownBy W none) => sPipe_any A (q + 1) c F AJ cj J fw W h3 hI (h.on hW) (bols_on hj hW))
  have HBJ := shade hj
  have HR := shade (pk_rng F J fw)
  have HU := shade (pk_up F J fw)
  have H0 := shade (pk_0 F J fw)
  obtain ⟨len, hlen⟩ : ∃ len, lnP (q + 1) F J fw = len := ⟨_, rfl⟩
  obtain ⟨R, hRR⟩ : ∃ R, ptR F J fw = R := ⟨_, rfl⟩
  have HLN := shade (show ∀ j, (len j : Int) = pk F J fw q + 3 ∧ len j ≤ 1000 from fun j => by
    have h1 := lnP_le h3 F J fw j
    rw [hlen] at h1
    refine ⟨?_, h1⟩
    rw [← hlen]
    unfold lnP ptm
    rw [if_neg (by omega), show q + 1 - 1 = q from rfl]
    have := HR.out q
    omega)
  have HRE := shade (show ∀ k i, R k i = prt J (pk F J fw) k (i : Int) from fun k i => by rw [← hRR]; rfl)
  rw [hlen, hRR]
  clear h hv hj hI hlen hRR
  obtain ⟨f, hf⟩ : ∃ f, pk F J fw = f := ⟨_, rfl⟩
  rw [hf] at HP HR HU H0 HLN HRE
  clear hf
  obtain ⟨i0, hi0, hz0, hz1, hz2⟩ := info_parts info41
  obtain ⟨i1, hi1, hy0, hy1, hy2⟩ := info_parts info3p
  have HI := shade (And.intro hi0 (And.intro hz0 (And.intro hz1 hz2)))
  have HJ := shade (And.intro hi1 (And.intro hy0 (And.intro hy1 hy2)))
  clear hi0 hz0 hz1 hz2 hi1 hy0 hy1 hy2
  go_enter Tryd.func25, Tryd.ntmps25
  go_wp2_with fail
  refine HV.out.mono ?_
  rintro e w0 ⟨rfl, hg0⟩
  have HG0 := shade hg0
  clear hg0 HV
  go_wp2_with fail
  refine (HP.out _ HG0.out).mono ?_
  rintro e w1 h2
  obtain ⟨v, rfl, hRo, hg⟩ := NumRes.row h2
  obtain ⟨At, ct, rfl, hN⟩ := hRo.nums
  have HN := shade hN
  have HG := shade (grown_same HG0.out hg)
  clear h2 hRo hN hg HP
  have L0 := shade (show (w1.alloc (.cells #[] 25)).ownsRow w1.heap.size 25 1 (.slice (some ⟨w1.heap.size, 0, none⟩) 0 0) 0 [] from World.ownsRow_lit (base := w1.heap.size) (e := 25) (size := 1) w1 #[] 0 (by omega) (by decide) rfl)
  have G0 := shade (World.grownBy_alloc w1 (.cells #[] 25) none)
  obtain ⟨tb, tq, rfl, -⟩ := HN.out.resolve_left (by omega)
  go_wp2_with fail
  go_loopw [8, 9] (fun v k wr => ∃ (kk : Nat) (AS : Nat → Value), kk ≤ q + 1 ∧ k = .int .i64 kk ∧ Pts w1 wr v kk AS len R) (fun _ k _ => q + 1 - (intOf k).toNat)
  case atStart => exact ⟨0, fun _ => .slice none 0 0, Nat.zero_le _, rfl, ⟨⟨L0.out, fun b hb => (World.ownsRow.lt L0.out b hb).2⟩, fun j hj => absurd hj (Nat.not_lt_zero j), fun i _ _ hi => absurd hi (Nat.not_lt_zero i)⟩, G0.out⟩
  case round =>
    clear L0 G0
    obtain ⟨wo, hwo⟩ : ∃ wo : World, wo = wr := ⟨_, rfl⟩
    subst hwo
    obtain ⟨k, AS, hk, rfl, ho⟩ := hrel
    have HO := shade ho
    obtain ⟨A1, c1, rfl, -⟩ := ho.rws.shape
    clear ho
    by_cases hkn : k < q + 1
    · have hk2 : (k : Int) < (q : Int) + 1 := by omega
      have N0 := shade (show (wo.alloc (.cells #[] 3)).ownsRow wo.heap.size 3 1 (.slice (some ⟨wo.heap.size, 0, none⟩) 0 0) 0 [] from World.ownsRow_lit (base := wo.heap.size) (e := 3) (size := 1) wo #[] 0 (by omega) (by decide) rfl)
      go_wp2_with fail
      go_loopw [10, 11] (fun u i wq => ∃ ii : Nat, ii ≤ len k ∧ i = .int .i64 ii ∧ wq.ownsRow wo.heap.size 3 1 u ii (numL ii (R k)) ∧ wo.grownBy wq none) (fun _ i _ => len k - (intOf i).toNat)
      case atStart => exact ⟨0, Nat.zero_le _, rfl, N0.out, World.grownBy_alloc wo _ none⟩
      case round =>
        clear N0
        obtain ⟨i, hik, rfl, hu, hgq⟩ := hrel
        have HU2 := shade hu; have HGQ := shade hgq
        obtain ⟨A2, c2, rfl, -⟩ := ownsRow_slice hu
        clear hu hgq
        have hln := HLN.out k
        have c0 := (HN.out.grown (grown_same HO.out.low HGQ.out) (by intro _ _ _ e; cases e)).cell (show q < q + 1 by omega)
        have hfq := HR.out q
        have iq0 : (q : Int) < (q : Int) + 1 := by omega
        have iq1 : (0 : Int) ≤ (q : Int) := by omega
        obtain ⟨L, hL⟩ : ∃ L, len k = L := ⟨_, rfl⟩
        rw [hL] at hln hik ⊢
        obtain ⟨z, hz⟩ : ∃ z, f q = z := ⟨_, rfl⟩
        rw [hz] at hln c0 hfq
        clear hz
        have HL := shade hL
        clear hL
        by_cases hlt : i < L
        · have HPA := shade (fun W (hW : wo.grownBy W none) => part_any (some ⟨tb, tq, none⟩) ct AJ cj (q + 1) f J k (i : Int) W hkn h3 (by omega) (by omega) HR.out HU.out H0.out (HN.out.grown (grown_same HO.out.low hW) (by intro _ _ _ e; cases e)) (bols_on HBJ.out (grown_same HG.out (grown_same HO.out.low hW))))
          obtain ⟨x, hx⟩ : ∃ x, R k i = x := ⟨_, rfl⟩
          have hx2 := HRE.out k i
          rw [hx] at hx2
          rw [← hx2] at HPA
          have HX := shade hx
          clear hx hx2
          have hA2 : ∀ r, (Value.slice A2 i c2).ownBlock = some r → wo.heap.size ≤ r := fun r e => (World.ownsRow.lt HU2.out r e).1
          have HA2 := shade hA2
          clear hA2
          go_wp2_with fail
          refine (HPA.out _ HGQ.out).mono ?_
          rintro e w3 ⟨rfl, hg3⟩
          have HU3 := shade (ownsRow_on HU2.out hg3)
          have HGQ3 := shade (grown_same HGQ.out hg3)
          clear hg3
          go_wp2_with (first
            | (at_builtin; refine wpList_append_own _ rfl _ _ 25 rfl wo.heap.size 3 i1 (.int .i64 0) 1 8 Tryd.underlying25 HJ.out.1 HJ.out.2.1 HJ.out.2.2.1 HJ.out.2.2.2 rfl (by decide) _ _ _ rfl (World.ownsRow.alloc HU3.out _) ⟨w3.heap.size, 0, none⟩ 1 1 [.int .i64 x] rfl rfl (int_new _ _ _) (int_one _) (by unfold maxLen; omega) (by omega) (by have := HGQ3.out.size; simp; omega) ?_)
            | go_in)
          intro v8 w8 hown8 hgr8 hnil8
          rw [numL_snoc' i _ x HX.out] at hown8
          have HU8 := shade hown8
          have HG8 := shade (grown_row' (grown_same HGQ3.out (World.grownBy_alloc _ _ none)) hgr8 HA2.out)
          clear hown8 hgr8 hnil8
          go_wp2_with fail
          go_roundw
          case rel => exact ⟨i + 1, by omega, by go_num, HU8.out, HG8.out⟩
          case measure =>
            have := HL.out
            simp [intOf]
            omega
        · obtain rfl : i = L := by omega
          have HG9 := shade (grown_same HO.out.low HGQ.out)
          go_wp2_with (first
            | (at_builtin; refine wpList_append_own _ rfl _ _ 38 rfl w1.heap.size 25 i0 (.slice none 0 0) 1 24 Tryd.underlying38 HI.out.1 HI.out.2.1 HI.out.2.2.1 HI.out.2.2.2 rfl (by decide) _ _ _ rfl (World.ownsRow.alloc (ownsRow_on HO.out.rws.out.own HGQ.out) _) ⟨wr.heap.size, 0, none⟩ 1 1 [.slice A2 i c2] rfl rfl (slice_new _ _ _) (fun u hu => by rw [List.mem_singleton.1 hu]; rfl) (by unfold maxLen; omega) (by omega) (by have := HG9.out.size; simp; omega) ?_)
            | go_in)
          intro v8 w8 hown8 hgr8 hnil8
          have HN8 := shade (HO.out.rws.snoc (AS' := fun j => if j = k then .slice A2 i c2 else AS j) (R' := R) (Nat.le_refl _) HO.out.low.size (World.ownsRow.alloc (show wr.ownsRow wo.heap.size 3 1 (.slice A2 i c2) (len k) (numL (len k) (R k)) by rw [HL.out]; exact HU2.out) (.cells #[.slice A2 i c2] 25)) (grown_same HGQ.out (World.grownBy_alloc _ _ none)) hown8 hgr8 (fun _ _ => rfl) (fun j hj => if_neg (by omega)) (if_pos rfl))
          have HL8 := shade (grown_row' (grown_same HG9.out (World.grownBy_alloc _ _ none)) hgr8 (fun r e => (World.ownsRow.lt HO.out.rws.out.own r e).1))
          clear hown8 hgr8 hnil8
          go_wp2_with fail
          go_roundw
          case rel => exact ⟨k + 1, _, by omega, by go_num, HN8.out, HL8.out⟩
          case measure => simp [intOf]; omega
    · obtain rfl : k = q + 1 := by omega
      go_wp2_with fail
      go_ret
      exact ⟨_, AS, rfl, ⟨⟨World.ownsRow.mono HO.out.rws.out.own HG.out.size, HO.out.rws.out.hib⟩, fun j hj => ⟨World.ownsRow.mono (HO.out.rws.row j hj).own HG.out.size, (HO.out.rws.row j hj).hib⟩, HO.out.rws.sep⟩, grown_same HG.out HO.out.low⟩
theorem SPipeTable_zero (A : Option Addr) (c : Nat) (F : Nat → Ins) (AJ : Option Addr) (cj : Nat) (fw : Bool) (len : Nat → Nat) (R : Nat → Nat → Int) (w : World) :
    Calls Tryd.prog 25 #[.slice A 0 c, .slice AJ 0 cj, .bool fw] w (RwsRes 0 len R w) := by
  have HV := shade (validPipe_any A 0 c F AJ 0 cj w (by omega) (.inl rfl))
  rw [show vpB 0 F 0 = true from rfl] at HV
  have HP := shade (fun W => sPipe_zero A c AJ cj (fun _ => 0) fw W)
  go_enter Tryd.func25, Tryd.ntmps25
  go_wp2_with fail
  refine HV.out.mono ?_
  rintro e w0 ⟨rfl, hg0⟩
  have HG0 := shade hg0
  clear hg0 HV
  go_wp2_with fail
  refine (HP.out _).mono ?_
  rintro e w1 h2
  obtain ⟨v, rfl, hRo, hg⟩ := NumRes.row h2
  have HG := shade (grown_same HG0.out hg)
  clear h2 hRo hg HP
  have L0 := shade (show (w1.alloc (.cells #[] 25)).ownsRow w1.heap.size 25 1 (.slice (some ⟨w1.heap.size, 0, none⟩) 0 0) 0 [] from World.ownsRow_lit (base := w1.heap.size) (e := 25) (size := 1) w1 #[] 0 (by omega) (by decide) rfl)
  have G0 := shade (grown_same HG.out (World.grownBy_alloc w1 (.cells #[] 25) none))
  go_wp2_with fail
  refine wp_loop_rounds 1 ?_
  rw [rounds_succ]
  go_wp2_with fail
  go_ret
  exact ⟨_, fun _ => .slice none 0 0, rfl, ⟨⟨World.ownsRow.mono L0.out HG.out.size, fun b hb => (World.ownsRow.lt L0.out b hb).2⟩, fun j hj => absurd hj (Nat.not_lt_zero j), fun i _ _ hi => absurd hi (Nat.not_lt_zero i)⟩, G0.out⟩
theorem SPipeTable_any (A : Option Addr) (n c : Nat) (F : Nat → Ins) (AJ : Option Addr) (m cj : Nat) (J : Nat → Bool) (fw : Bool) (w : World) (hn : n ≤ 9223372036854775807) (h : Code w A n F) (hj : Bols w AJ m J) :
    Calls Tryd.prog 25 #[.slice A n c, .slice AJ m cj, .bool fw] w (RwsRes (nP n F m) (lnP n F J fw) (ptR F J fw) w) := by
  rcases hv : vpB n F m with _ | _
  · rw [nP_no hv]
    exact SPipeTable_no A n c F AJ m cj fw _ _ w hv hn h
  · rw [nP_yes hv]
    obtain ⟨-, rfl, -⟩ := vpB_yes hv
    rcases m with _ | q
    · exact SPipeTable_zero A c F AJ cj fw _ _ w
    · exact SPipeTable_yes A q c F AJ cj J fw w hv h hj
end Go.Proofs.YtlmjbflnfpccdaaDoor
