/- Stalls of a pipe, by the program. -/
import Derived.Test.YtlmjbflnfpccdaaDoorU36
namespace Go.Proofs.YtlmjbflnfpccdaaDoor
open Go.RowKit
set_option linter.unusedSimpArgs false
theorem Bols.sub0 {W : World} {b off n : Nat} {f : Nat → Bool} (h : Bols W (some ⟨b, off, none⟩) n f) (m : Nat) (hm : m ≤ n) : Bols W (some ⟨b, off, none⟩) m f := by
  by_cases h0 : m = 0
  · exact .inl h0
  · obtain ⟨b', off', e, hb, hc⟩ := h.resolve_left (by omega)
    exact .inr ⟨b', off', e, hb, fun j hj => hc j (by omega)⟩
set_option maxRecDepth 100000 in
set_option maxHeartbeats 8000000 in
theorem IStallsOf_any (A : Option Addr) (n c : Nat) (F : Nat → Ins) (AJ : Option Addr) (m cj : Nat) (J : Nat → Bool) (fw : Bool) (w : World) (hw : WT w) (hn : n ≤ 9223372036854775807) (hc : n ≤ c) (hcj : m ≤ cj) (h : Code w A n F) (hj : Bols w AJ m J) :
    Calls Tryd.prog 31 #[.slice A n c, .slice AJ m cj, .bool fw] w fun e w' => e = .returned (.tuple #[.int .i64 (saP n F m J), .int .i64 (sbP n F m J fw)]) ∧ w.grownBy w' none := by
  have HP := shade (pipeOf_any A n c F AJ m cj J fw w hw hn hc h hj)
  rcases hv : vpB n F m with _ | _
  · rw [saP_no hv, sbP_no hv]
    rw [hv] at HP
    clear hw hc h hj hv
    go_enter Tryd.func31, Tryd.ntmps31
    go_wp2_with fail
    refine HP.out.mono ?_
    rintro e w1 ⟨rv, wv, rfl, hr, hwk, hg⟩
    have HG := shade (grown_same hg (World.grownBy_alloc w1 (.cells #[rv, wv] 56) none))
    obtain ⟨A1, c1, rfl, -⟩ := ownsRow_slice hr
    obtain ⟨A2, c2, rfl, -⟩ := ownsRow_slice hwk
    clear hr hwk hg HP
    go_wp2_with fail
    go_ret2
    exact ⟨rfl, HG.out⟩
  · rw [saP_yes hv, sbP_yes hv]
    have hP := nP_yes hv
    rw [hv, hP] at HP
    obtain ⟨h3, rfl, -⟩ := vpB_yes hv
    have HBJ := shade hj
    clear hw hc h hj hv hP
    rcases m with _ | q
    · rw [if_pos rfl]
      go_enter Tryd.func31, Tryd.ntmps31
      go_wp2_with fail
      refine HP.out.mono ?_
      rintro e w1 ⟨rv, wv, rfl, hr, hwk, hg⟩
      have HG := shade (grown_same hg (World.grownBy_alloc w1 (.cells #[rv, wv] 56) none))
      obtain ⟨A1, c1, rfl, -⟩ := ownsRow_slice hr
      obtain ⟨A2, c2, rfl, -⟩ := ownsRow_slice hwk
      clear hr hwk hg HP
      go_wp2_with fail
      go_ret2
      exact ⟨rfl, HG.out⟩
    · rw [if_neg (by omega), show q + 1 - 1 = q from rfl]
      have hr := pk_rng F J fw q
      have hT : ptm (q + 1) (pk F J fw) = pk F J fw q + 3 := if_neg (by omega)
      rw [hT]
      obtain ⟨z, hz⟩ : ∃ z, pk F J fw q = z := ⟨_, rfl⟩
      rw [hz] at hr hT ⊢
      clear hz
      obtain ⟨jb, jo, rfl, hjb, -⟩ := HBJ.out.resolve_left (by omega)
      have s1 : (q : Int) ≤ (cj : Int) := by omega
      have s2 : (0 : Int) ≤ (q : Int) := by omega
      have s3 : (q : Int) + 1 ≤ (cj : Int) := by omega
      have s4 : (q : Int) ≤ (q : Int) + 1 := by omega
      go_enter Tryd.func31, Tryd.ntmps31
      go_wp2_with fail
      refine HP.out.mono ?_
      rintro e w1 ⟨rv, wv, rfl, hr, hwk, hg⟩
      have hg1 := World.grownBy_alloc w1 (.cells #[rv, wv] 56) none
      have HG := shade (grown_same hg hg1)
      obtain ⟨A1, c1, rfl, -⟩ := ownsRow_slice hr
      obtain ⟨A2, c2, rfl, -⟩ := ownsRow_slice hwk
      obtain ⟨A2', c2', e2, hN⟩ := (show RowO w1 w.heap.size w1.heap.size 3 (.slice A2 (q + 1) c2) (q + 1) (numL (q + 1) (pk F J fw)) from ⟨hwk, fun i hi => (World.ownsRow.lt hwk i hi).2⟩).nums
      injection e2 with e2 _ e3
      subst e2 e3
      have HT := shade (fun W (hW : w1.grownBy W none) => show Calls Tryd.prog 46 #[.agg #[.slice A1 (q + 1) c1, .slice A2 (q + 1) c2]] W (fun e w' => e = .returned (.int .i64 (z + 3)) ∧ W.grownBy w' none) from hT ▸ time_any A1 c1 A2 (q + 1) (q + 1) c2 (pk F J fw) W (pk_rng F J fw) h3 (hN.grown hW (by intro _ _ _ e; cases e)))
      have HB := shade (Holds5.fresh w1 56 #[.slice A1 (q + 1) c1, .slice A2 (q + 1) c2])
      have HG1 := shade hg1
      clear hr hwk hg HP hN hg1
      go_wp2_with fail
      go_loopw [10, 31] (fun v k wr => ∃ j : Nat, j ≤ q ∧ k = .int .i64 (j : Int) ∧ v = .int .i64 (bub J j) ∧ Holds5 wr w1.heap.size 56 #[.slice A1 (q + 1) c1, .slice A2 (q + 1) c2] ∧ w1.grownBy wr none ∧ w.grownBy wr none) (fun _ k _ => q - (intOf k).toNat)
      case atStart => exact ⟨0, Nat.zero_le _, rfl, rfl, HB.out, HG1.out, HG.out⟩
      case round =>
        clear HG HB HG1
        obtain ⟨j, hjq, rfl, rfl, hb, hg1, hg⟩ := hrel
        have HG := shade hg; have HG1 := shade hg1; have HB := shade hb
        clear hg hg1 hb
        have hb := bub_rng J j
        by_cases hlt : j < q
        · have hc := (bols_on HBJ.out HG.out).cell (show j < q + 1 by omega)
          have hs : bub J (j + 1) = bub J j + (if J j = true then 2 else 0) := rfl
          have i1 : (j : Int) < (q : Int) := by omega
          have i2 : (0 : Int) ≤ (j : Int) := by omega
          generalize bub J j = y at *
          have HS := shade hs
          rcases hjj : J j with _ | _
          all_goals
            rw [hjj] at hc HS
            clear hs hjj
            go_wp2_with fail
            go_roundw
            case rel => exact ⟨j + 1, by omega, by go_num, (by rw [HS.out]; simp), HB.out, HG1.out, HG.out⟩
            case measure => simp [intOf]; omega
        · obtain rfl : j = q := by omega
          have y0 := HB.out.look 0; have y1 := HB.out.look 1
          simp at y0 y1
          go_wp2_with fail
          refine (HT.out _ HG1.out).mono ?_
          rintro e w2 ⟨rfl, hg2⟩
          have HG2 := shade (grown_same HG.out hg2)
          clear hg2
          go_wp2_with fail
          have hfin : z + 3 - ((j : Int) + 1 + 5 - 1) - bub J j = z + 3 - ((j + 1 : Nat) : Int) - 4 - bub J j := by omega
          go_ret2
          refine ⟨?_, HG2.out⟩
          show Ending.returned (Value.tuple #[.int .i64 (bub J j), .int .i64 (z + 3 - ((j : Int) + 1 + 5 - 1) - bub J j)]) = _
          first
            | rw [hfin]
            | (congr 4; omega)
            | (congr 5; omega)
            | (congr 6; omega)
theorem stalls_both (n : Nat) (F : Nat → Ins) (m : Nat) (J : Nat → Bool) (fw : Bool) (hn : n ≤ 9223372036854775807) :
    ∃ (v0 v1 : Int), (∀ (A : Option Addr) (c : Nat) (AJ : Option Addr) (cj : Nat) (W : World), Code W A n F → Bols W AJ m J → Calls Tryd.prog 30 #[.slice A n c, .slice AJ m cj, .bool fw] W (fun e w' => e = .returned (.tuple #[.int .i64 v0, .int .i64 v1]) ∧ W.grownBy w' none)) ∧
      (∀ (A : Option Addr) (AJ : Option Addr) (W : World), WT W → Code W A n F → Bols W AJ m J → Calls Tryd.prog 31 #[.slice A n n, .slice AJ m m, .bool fw] W (fun e w' => e = .returned (.tuple #[.int .i64 v0, .int .i64 v1]) ∧ W.grownBy w' none)) :=
  ⟨_, _, fun A c AJ cj W h hj => SStallsOf_any A n c F AJ m cj J fw W hn h hj, fun A AJ W hW h hj => IStallsOf_any A n n F AJ m m J fw W hW hn (Nat.le_refl _) (Nat.le_refl _) h hj⟩
end Go.Proofs.YtlmjbflnfpccdaaDoor
