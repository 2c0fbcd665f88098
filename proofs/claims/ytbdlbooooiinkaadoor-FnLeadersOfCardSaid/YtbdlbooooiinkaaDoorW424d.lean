/- LeadersOf answers as its model for the drawn program; its numbers ascend from 0, and jumps lead to them. -/
import Derived.Test.YtbdlbooooiinkaaDoorW422d
import Derived.Test.YtbdlbooooiinkaaDoorW414d
import Derived.Test.YtbdlbooooiinkaaDoorW420d
namespace Go.Proofs.YtbdlbooooiinkaaDoor
open Go.RowKit
set_option linter.unusedSimpArgs false
theorem jkB_hit (F : Nat → Ins) (i y : Nat) (hj : jmpB (F i).op.toList = true) (hk : (F i).k = (y : Int)) : ∀ m, i < m → jkB F m y = true := by
  intro m
  induction m with
  | zero => intro h; omega
  | succ m ih =>
    intro h
    show (jkB F m y || (jmpB (F m).op.toList && ((F m).k == (y : Int)))) = true
    by_cases e : i = m
    · subst e
      rw [hj, hk]
      simp
    · rw [ih (by omega)]
      rfl
/-- Where what comes next is not one more, a block begins. -/
theorem nx_lead (F : Nat → Ins) (n i y : Nat) (hi : i < n) (hy : (y : Int) ∈ nxI (F i) i) (hne : (y : Int) ≠ (i : Int) + 1) : ldB F n y = true := by
  have hh : jmpB (F i).op.toList = true ∧ (F i).k = (y : Int) := by
    unfold nxI at hy
    split at hy
    · cases hy
    · split at hy
      · rename_i h8
        refine ⟨by unfold jmpB; rw [h8]; simp, ?_⟩
        have : (y : Int) = (F i).k := by simpa using hy
        exact this.symm
      · split at hy
        · rename_i h7
          have h : (y : Int) = (i : Int) + 1 ∨ (y : Int) = (F i).k := by
            split at hy
            · exact .inl (by simpa using hy)
            · simpa using hy
          refine ⟨by unfold jmpB; rw [h7]; rfl, ?_⟩
          rcases h with h | h
          · exact absurd h hne
          · exact h.symm
        · exact absurd (by simpa using hy) hne
  unfold ldB
  rw [jkB_hit F i y hh.1 hh.2 n hi]
  simp
theorem pickL_mem (g : Nat → Bool) (x : Nat) (hx : g x = true) : ∀ n, x < n → (x : Int) ∈ pickL g n := by
  intro n
  induction n with
  | zero => intro h; omega
  | succ n ih =>
    intro h
    show (x : Int) ∈ pickL g n ++ _
    by_cases e : x = n
    · subst e
      rw [if_pos hx]
      simp
    · exact List.mem_append_left _ (ih (by omega))
theorem pickL_lt (g : Nat → Bool) : ∀ n z, z ∈ pickL g n → z < (n : Int) := by
  intro n
  induction n with
  | zero => intro z hz; cases hz
  | succ n ih =>
    intro z hz
    have hz' : z ∈ pickL g n ++ (if g n = true then [(n : Int)] else []) := hz
    rcases List.mem_append.1 hz' with h | h
    · have := ih z h
      omega
    · split at h
      · have : z = (n : Int) := by simpa using h
        omega
      · cases h
theorem pickL_up (g : Nat → Bool) : ∀ n, (pickL g n).Pairwise (· < ·) := by
  intro n
  induction n with
  | zero => exact List.Pairwise.nil
  | succ n ih =>
    show (pickL g n ++ _).Pairwise _
    rw [List.pairwise_append]
    refine ⟨ih, ?_, fun a ha b hb => ?_⟩
    · split
      · exact List.pairwise_singleton _ _
      · exact List.Pairwise.nil
    · have h1 := pickL_lt g n a ha
      split at hb
      · have : b = (n : Int) := by simpa using hb
        omega
      · cases hb
theorem pickL_zero (g : Nat → Bool) (h0 : g 0 = true) : ∀ n, ∃ l, pickL g (n + 1) = 0 :: l := by
  intro n
  induction n with
  | zero =>
    refine ⟨[], ?_⟩
    show pickL g 0 ++ _ = _
    rw [if_pos h0]
    rfl
  | succ n ih =>
    obtain ⟨l, hl⟩ := ih
    refine ⟨l ++ (if g (n + 1) = true then [((n + 1 : Nat) : Int)] else []), ?_⟩
    show pickL g (n + 1) ++ _ = _
    rw [hl]
    rfl
/-- What is told of LeadersOf. -/
theorem ldA_told (n : Nat) (F : Nat → Ins) (h : (ldA n F).length ≠ 0) : vcB n F = true ∧ (ldA n F).getD 0 0 = 0 ∧ (∀ j, j + 1 < (ldA n F).length → (ldA n F).getD j 0 < (ldA n F).getD (j + 1) 0) ∧ (∀ y : Nat, y < n → ldB F n y = true → isInB (fun j => (ldA n F).getD j 0) (ldA n F).length (y : Int) = true) := by
  unfold ldA at h ⊢
  split at h
  · rename_i hv
    rw [if_pos hv]
    unfold ldL at h ⊢
    refine ⟨hv, ?_, fun j hj => ?_, fun y hy hb => ?_⟩
    · cases n with
      | zero => exact absurd rfl h
      | succ n =>
        obtain ⟨l, hl⟩ := pickL_zero (ldB F (n + 1)) rfl n
        rw [hl]
        rfl
    · have h1 := List.pairwise_iff_getElem.1 (pickL_up (ldB F n) n) j (j + 1) (by omega) hj (by omega)
      rw [List.getD_eq_getElem?_getD, List.getElem?_eq_getElem (by omega), List.getD_eq_getElem?_getD, List.getElem?_eq_getElem hj]
      exact h1
    · obtain ⟨j, hj, e⟩ := List.getElem_of_mem (pickL_mem (ldB F n) y hb n hy)
      exact isInB_hit _ _ _ j hj (by
        show (pickL (ldB F n) n).getD j 0 = _
        rw [List.getD_eq_getElem?_getD, List.getElem?_eq_getElem hj, e]
        rfl)
  · exact absurd rfl h
set_option maxRecDepth 100000 in
set_option maxHeartbeats 16000000 in
theorem fnLeadersOf_walk (A : Option Addr) (n cap : Nat) (zs : List Int) (w : World) (hg : WT w) (hB : Bys w A n cap zs) :
    Calls Tryd.prog 6 #[.slice A n cap] w fun e w' => e = .returned (.bool true) ∧ Below w.heap.size w w' := by
  have HG := shade hg
  have HBy := shade hB
  have hcap := hB.fits
  have hbig := hB.big
  unfold maxLen at hbig
  clear hg hB
  by_cases hl : 1048576 < n
  · go_enter Tryd.func6, Tryd.ntmps6
    go_wp2_with fail
    go_ret
    exact ⟨rfl, rfl, rfl, rfl, Nat.le_refl _, fun _ _ => rfl⟩
  · have HD := shade (DrawLeadersOf_any A n cap zs w HBy.out)
    go_enter Tryd.func6, Tryd.ntmps6
    go_wp2_with fail
    refine HD.out.mono ?_
    rintro e w1 ⟨Al, k, c, F, rfl, hk, hC, hgr⟩
    have hl40 := ldA_le k F
    have HT := shade (ldA_told k F)
    have HIM := shade (fun W (hW : WT W) (hc : Code W Al k F) => (ILeadersOf_any Al k c F W hW (by omega) hc).mono fun _ _ h => h.num)
    have HSP := shade (fun W (hc : Code W Al k F) => (SLeadersOf_any Al k c F W (by omega) hc).mono fun _ _ h => h.num)
    have HNX := shade (fun (i : Nat) W (hW : WT W) (hc : Code W Al k F) => (INextOf_any Al k c F i W hW (by omega) hc).mono fun _ _ h => h.num)
    obtain ⟨l0, hl0⟩ : ∃ l0, ldA k F = l0 := ⟨_, rfl⟩
    rw [hl0] at HIM HSP HT hl40
    clear hl0
    have HC := shade hC
    have HL := shade hgr
    clear hC hgr HD
    go_wp2_with fail
    refine (HIM.out _ (HG.out.below (below_of_grown HL.out) (wt_lt HG.out)) HC.out).mono ?_
    rintro e w2 h5
    obtain ⟨A5, c5, rfl, hN, hR, hgr⟩ := h5.num
    have HC2 := shade (HC.out.on hgr); have HL2 := shade (grown_same HL.out hgr); have HV2 := shade hR; have HN2 := shade hN
    clear hgr hR hN h5 HC HL
    go_wp2_with fail
    refine (HSP.out _ HC2.out).mono ?_
    rintro e w3 h5
    obtain ⟨v1, rfl, hR, hgr⟩ := NumRes.row h5
    have HC3 := shade (HC2.out.on hgr); have HL3 := shade (grown_same HL2.out hgr); have HV3 := shade (HV2.out.grown hgr); have HW3 := shade hR; have HN3 := shade (nums_on HN2.out hgr)
    clear hgr hR h5 HC2 HL2 HV2 HN2
    go_wp2_with fail
    refine (equalInts_rows _ _ _ _ _ _ _ _ _ (by omega) HV3.out HW3.out).mono ?_
    rintro e w4 ⟨rfl, hgr⟩
    have HC4 := shade (HC3.out.on hgr); have HL4 := shade (grown_same HL3.out hgr); have HV4 := shade (HV3.out.grown hgr); have HN4 := shade (nums_on HN3.out hgr)
    clear hgr HC3 HL3 HV3 HW3 HN3
    by_cases h0 : l0.length = 0
    · have h0b : ((l0.length : Int) == 0) = true := by rw [h0]; rfl
      clear h0
      go_wp2_with fail
      refine (HSP.out _ HC4.out).mono ?_
      rintro e w5 h5
      obtain ⟨v2, rfl, hR, hgr⟩ := NumRes.row h5
      have HL5 := shade (grown_same HL4.out hgr); have HV5 := shade (HV4.out.grown hgr); have HW5 := shade hR
      clear hgr hR h5
      go_wp2_with fail
      refine (equalInts_rows _ _ _ _ _ _ _ _ _ (by omega) HV5.out HW5.out).mono ?_
      rintro e w6 ⟨rfl, hgr⟩
      have HL6 := shade (grown_same HL5.out hgr)
      clear hgr
      go_wp2_with fail
      go_ret
      exact ⟨rfl, below_of_grown HL6.out⟩
    · have h0b : ((l0.length : Int) == 0) = false := by rw [beq_eq_false_iff_ne]; omega
      obtain ⟨hv, t0, t1, t2⟩ := HT.out h0
      have HVT := shade hv; have HT0 := shade t0; have HT1 := shade t1; have HT2 := shade t2
      obtain ⟨b5, o5, rfl, -⟩ := HN4.out.resolve_left h0
      clear HV4 HSP HIM HT hv t0 t1 t2
      go_wp2_with fail
      go_loopw [5] (fun r wr => ∃ i : Nat, i ≤ k ∧ r = .int .i64 (i : Int) ∧ w4.grownBy wr none) (fun r _ => k - (intOf r).toNat)
      case atStart => exact ⟨0, Nat.zero_le _, rfl, grown_refl _ _⟩
      case round =>
        obtain ⟨i, hi, rfl, hgw⟩ := hrel
        have HGW := shade hgw
        clear hgw
        by_cases hik : i < k
        · have hwt : WT wr := HG.out.below (below_of_grown (grown_same HL4.out HGW.out)) (wt_lt HG.out)
          have HX := shade (HNX.out i wr hwt (HC4.out.on HGW.out))
          have HTL := shade (nxA_told k F i)
          have HNL := shade (show ∀ y : Nat, (y : Int) ∈ nxA k F i → (y : Int) ≠ (i : Int) + 1 → ldB F k y = true from fun y hy hne => by
            unfold nxA at hy
            rw [if_pos ⟨HVT.out, by omega, by omega⟩, Int.toNat_natCast] at hy
            exact nx_lead F k i y hik hy hne)
          obtain ⟨l1, hl1⟩ : ∃ l1, nxA k F (i : Int) = l1 := ⟨_, rfl⟩
          rw [hl1] at HX HTL HNL
          clear hl1 hwt
          have hl2 := HTL.out.1
          go_wp2_with fail
          refine HX.out.mono ?_
          rintro e w5 h5
          obtain ⟨A6, c6, rfl, hN, -, hgr⟩ := h5.num
          have HN6 := shade hN
          have HL5 := shade (grown_same HGW.out hgr)
          have HN5 := shade (nums_on HN4.out HL5.out)
          clear hN hgr h5 HX HGW
          obtain ⟨wo, rfl⟩ : ∃ wo : World, wo = wr := ⟨_, rfl⟩
          go_wp2_with fail
          go_loopw [7] (fun r w6 => ∃ j m : Nat, j ≤ l1.length ∧ r = .int .i64 (j : Int) ∧ w6 = w5.drewN m) (fun r _ => l1.length - (intOf r).toNat)
          case atStart => exact ⟨0, 0, Nat.zero_le _, rfl, rfl⟩
          case round =>
            obtain ⟨j, m, hj, rfl, rfl⟩ := hrel
            by_cases hjl : j < l1.length
            · obtain ⟨b6, o6, rfl, -⟩ := HN6.out.resolve_left (by omega)
              have y0 := HN6.out.cell hjl
              obtain ⟨z0, z1⟩ := HTL.out.2.1 j hjl
              have HMEM := shade (show l1.getD j 0 ∈ l1 from by
                rw [List.getD_eq_getElem?_getD, List.getElem?_eq_getElem hjl]
                exact List.getElem_mem _)
              obtain ⟨z, hz⟩ : ∃ z, l1.getD j 0 = z := ⟨_, rfl⟩
              rw [hz] at y0 z0 z1 HMEM
              clear hz
              rcases hne : (z != (i : Int) + 1) with _ | _
              · go_wp2_with fail
                try (go_quiet (fail); go_wp2_with fail)
                go_roundw
                case rel => exact ⟨j + 1, _, by omega, by go_num, rfl⟩
                case measure => simp [intOf]; omega
              · by_cases hzk : z < k
                · have hzb : decide (z < (k : Int)) = true := decide_eq_true hzk
                  have hin : isInB (fun j => l0.getD j 0) l0.length z = true := by
                    obtain ⟨y, rfl⟩ := Int.eq_ofNat_of_zero_le z0
                    exact HT2.out y (by omega) (HNL.out y HMEM.out (by simpa using hne))
                  have HII := shade (fun W (hW : Nums W (some ⟨b5, o5, none⟩) l0.length (fun j => l0.getD j 0)) => show Calls Tryd.prog 14 #[.slice (some ⟨b5, o5, none⟩) l0.length c5, .int .i64 z] W fun e w' => e = .returned (.bool true) ∧ W = w' from by
                    have h := isIn_any (some ⟨b5, o5, none⟩) l0.length c5 (fun j => l0.getD j 0) z W (by omega) hW
                    rw [hin] at h
                    exact h)
                  clear hin
                  go_wp2_with (first | (go_at_call 14; refine (HII.out (w5.drewN m) (Nums.drewN HN5.out m)).mono ?_; rintro e w9 ⟨rfl, rfl⟩))
                  try (go_quiet ((go_at_call 14; exact Calls.quiet_of_same ((HII.out (w5.drewN m) (Nums.drewN HN5.out m)).mono fun _ _ h => ⟨h.1, h.2.symm⟩))); go_wp2_with fail)
                  go_roundw
                  case rel => exact ⟨j + 1, _, by omega, by go_num, rfl⟩
                  case measure => simp [intOf]; omega
                · have hzb : decide (z < (k : Int)) = false := decide_eq_false hzk
                  have hzk2 : (k : Int) ≤ z := by omega
                  go_wp2_with fail
                  try (go_quiet (fail); go_wp2_with fail)
                  go_roundw
                  case rel => exact ⟨j + 1, _, by omega, by go_num, rfl⟩
                  case measure => simp [intOf]; omega
            · obtain rfl : j = l1.length := by omega
              have HL6 := shade (grown_drewN HL5.out m)
              go_wp2_with fail
              go_roundw
              case rel => exact ⟨i + 1, by omega, by go_num, HL6.out⟩
              case measure => simp [intOf]; omega
        · obtain rfl : i = k := by omega
          have HN5 := shade (nums_on HN4.out HGW.out)
          have y0 := HN5.out.cell (show 0 < l0.length by omega)
          rw [Nat.add_zero] at y0
          have y1 : wr.cell? ⟨b5, o5, none⟩ = some (.int .i64 0) := by rw [y0, HT0.out]
          have hpos : 0 < l0.length := by omega
          clear y0 h0 h0b
          have HAS := shade (ascends_any (some ⟨b5, o5, none⟩) l0.length c5 (fun j => l0.getD j 0) wr (by omega) HN5.out HT1.out)
          go_wp2_with fail
          refine HAS.out.mono ?_
          rintro e w9 ⟨rfl, hg9⟩
          have HL9 := shade (grown_same (grown_same HL4.out HGW.out) hg9)
          clear hg9
          go_wp2_with fail
          go_ret
          exact ⟨rfl, below_of_grown HL9.out⟩
end Go.Proofs.YtbdlbooooiinkaaDoor
