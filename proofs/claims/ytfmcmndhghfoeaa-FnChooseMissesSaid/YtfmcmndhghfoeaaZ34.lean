/- PastMisses and ChooseMisses of the model. -/
import Derived.Test.YtfmcmndhghfoeaaZ33
namespace Go.Proofs.Ytfmcmndhghfoeaa
open Go.RowKit
set_option linter.unusedSimpArgs false
set_option maxRecDepth 100000 in
set_option maxHeartbeats 8000000 in
theorem SPast_in (AJ : Option Addr) (m cj : Nat) (J : Nat → Bool) (s : Nat) (w : World) (hj : Bols w AJ m J) (hm : m ≤ 300) (hs : s ≤ 4) :
    Calls Try.prog 22 #[.slice AJ m cj, .int .i64 (s : Int)] w fun e w' => e = .returned (.int .i64 (msB J (pg s J) m : Int)) ∧ w.grownBy w' none := by
  have HV := shade (validJumps_any AJ m cj w)
  rw [decide_eq_true hm] at HV
  have HI := shade (fun W => inRange_any (s : Int) 0 4 W)
  have hbi : inB (s : Int) 0 4 = true := by unfold inB; simp; omega
  rw [hbi] at HI
  have H := shade hj
  have HG := shade (fun W (hW : Bols W AJ m J) => pastGuesses_any AJ m cj J s W hm hs hW)
  clear hbi hj
  go_enter Try.func22, Try.ntmps22
  go_wp2_with fail
  refine HV.out.mono ?_
  rintro e w1 ⟨rfl, rfl⟩
  go_wp2_with fail
  refine (HI.out _).mono ?_
  rintro e w1 ⟨rfl, rfl⟩
  go_wp2_with fail
  refine (HG.out _ H.out).mono ?_
  intro e w2 hr
  obtain ⟨A, c, rfl, hB, hg⟩ := hr.bols
  have HB := shade hB; have HGR := shade hg
  clear hB hg hr
  go_wp2_with fail
  refine (wrong_any AJ A m cj c J (pg s J) _ hm (H.out.on HGR.out) HB.out).mono ?_
  rintro e w3 ⟨rfl, hg3⟩
  have HG3 := shade (grown_same HGR.out hg3)
  clear hg3
  go_wp2_with fail
  go_ret
  exact ⟨rfl, HG3.out⟩
theorem SPast_any (AJ : Option Addr) (m cj : Nat) (J : Nat → Bool) (s : Int) (w : World) (hj : Bols w AJ m J) :
    Calls Try.prog 22 #[.slice AJ m cj, .int .i64 s] w fun e w' => e = .returned (.int .i64 (pastV J m s)) ∧ w.grownBy w' none := by
  by_cases h : m ≤ 300 ∧ 0 ≤ s ∧ s ≤ 4
  · have hv : pastV J m s = (msB J (pg s.toNat J) m : Int) := if_pos h
    rw [hv]
    obtain ⟨k, rfl⟩ := Int.eq_ofNat_of_zero_le h.2.1
    exact SPast_in AJ m cj J k w hj h.1 (by omega)
  · have hv : pastV J m s = -1 := if_neg h
    rw [hv]
    clear hj hv
    have HV := shade (validJumps_any AJ m cj w)
    by_cases hm : m ≤ 300
    · rw [decide_eq_true hm] at HV
      have HI := shade (fun W => inRange_any s 0 4 W)
      have hbi : inB s 0 4 = false := by unfold inB; simp; omega
      rw [hbi] at HI
      clear hbi h
      go_enter Try.func22, Try.ntmps22
      go_wp2_with fail
      refine HV.out.mono ?_
      rintro e w1 ⟨rfl, rfl⟩
      go_wp2_with fail
      refine (HI.out _).mono ?_
      rintro e w1 ⟨rfl, rfl⟩
      go_wp2_with fail
      go_ret
      exact ⟨rfl, grown_refl _ _⟩
    · rw [decide_eq_false hm] at HV
      clear h
      go_enter Try.func22, Try.ntmps22
      go_wp2_with fail
      refine HV.out.mono ?_
      rintro e w1 ⟨rfl, rfl⟩
      go_wp2_with fail
      go_ret
      exact ⟨rfl, grown_refl _ _⟩
/-- What stands while guesses are chosen. -/
structure CG (w wr : World) (a b J : Nat → Bool) (j : Nat) (v : Value) : Prop where
  out : wr.ownsRow w.heap.size 4 1 v j (bolL j (chg9 a b J))
  low : w.grownBy wr none
set_option maxRecDepth 100000 in
set_option maxHeartbeats 8000000 in
theorem chooseGuesses_any (AJ AA AB : Option Addr) (m cj ca cb : Nat) (J a b : Nat → Bool) (w : World) (hm : m ≤ 300) (hj : Bols w AJ m J) (ha : Bols w AA m a) (hb : Bols w AB m b) :
    Calls Try.prog 50 #[.slice AJ m cj, .slice AA m ca, .slice AB m cb] w (BolRes m (chg9 a b J) w) := by
  have H := shade hj; have HA := shade ha; have HB := shade hb
  clear hj ha hb
  obtain ⟨j0, hi4, hy0, hy1, hy2⟩ := info_parts info4b
  go_enter Try.func50, Try.ntmps50
  go_wp2_with fail
  have hM : CG w (w.alloc (.cells #[] 4)) a b J 0 (.slice (some ⟨w.heap.size, 0, none⟩) 0 0) := ⟨⟨rfl, .inr ⟨w.heap.size, 0, #[], rfl, Nat.le_refl _, heap_alloc_new _ _, Nat.le_refl _, by unfold maxLen; omega, rfl, rfl⟩⟩, World.grownBy_alloc _ _ none⟩
  have HM := shade hM
  clear hM
  go_loopw [7, 8, 9] (fun n v i wx => ∃ j : Nat, j ≤ m ∧ i = .int .i64 (j : Int) ∧ n = .int .i64 (cn a b J j) ∧ CG w wx a b J j v) (fun _ _ i _ => m - (intOf i).toNat)
  case atStart => exact ⟨0, Nat.zero_le _, rfl, rfl, HM.out⟩
  case round =>
    clear HM
    obtain ⟨j, hj, rfl, rfl, hP⟩ := hrel
    obtain ⟨A4, c4, rfl, -⟩ := ownsRow_slice hP.out
    have HPG := shade hP
    by_cases hlt : j < m
    · obtain ⟨b1, o1, rfl, -⟩ := H.out.resolve_left (by omega)
      obtain ⟨b2, o2, rfl, -⟩ := HA.out.resolve_left (by omega)
      obtain ⟨b3, o3, rfl, -⟩ := HB.out.resolve_left (by omega)
      have c1 := (H.out.on hP.low).cell hlt
      have c2 := (HA.out.on hP.low).cell hlt
      have c3 := (HB.out.on hP.low).cell hlt
      have hr := cn_rng a b J j
      have HCO := shade (fun W => scount_any (cn a b J j) 3 (b j == J j) hr.1 hr.2 (by omega) W)
      have hpg : chg9 a b J j = if 2 ≤ cn a b J j then b j else a j := rfl
      have HPP := shade hpg
      have HTB := shade (show cn a b J (j + 1) = if a j = b j then cn a b J j else stp (cn a b J j) (b j == J j) 3 from rfl)
      clear hpg hP
      generalize cn a b J j = x at *
      obtain ⟨va, hva⟩ : ∃ va, a j = va := ⟨_, rfl⟩
      obtain ⟨vb, hvb⟩ : ∃ vb, b j = vb := ⟨_, rfl⟩
      obtain ⟨vj, hvj⟩ : ∃ vj, J j = vj := ⟨_, rfl⟩
      rw [hva] at c2; rw [hvb] at c3; rw [hvj] at c1
      rw [hva, hvb] at HPP
      rw [hva, hvb, hvj] at HTB
      rw [hvb, hvj] at HCO
      have HVA := shade hva; have HVB := shade hvb; have HVJ := shade hvj
      clear hva hvb hvj
      obtain ⟨hr0, hr1⟩ := hr
      have i1 : (j : Int) < (m : Int) := by omega
      have i2 : (0 : Int) ≤ (j : Int) := by omega
      have hle : j ≤ 300 := by omega
      by_cases hh : 2 ≤ x
      · rw [if_pos hh] at HPP
        go_wp2_with (first
          | (at_builtin; refine wpList_append_own _ rfl _ _ 23 rfl w.heap.size 4 j0 (.bool false) 1 1 Try.underlying23 hi4 hy0 hy1 hy2 rfl (by decide) _ _ _ rfl (World.ownsRow.alloc HPG.out.out _) ⟨wr.heap.size, 0, none⟩ 1 1 [.bool vb] rfl rfl (bool_new _ _ _) (bool_one _) (by unfold maxLen; omega) (by omega) (by have := HPG.out.low.size; simp; omega) ?_)
          | fail)
        intro v' w8 hown8 hgr8 hnil8
        have hpj : [Value.bool vb] = [.bool (chg9 a b J j)] := by rw [HPP.out]
        rw [hpj, bolL_snoc] at hown8
        have ho7 := HPG.out.out
        have hga := World.grownBy_alloc wr (.cells #[.bool vb] 4) none
        have hL8 : w.grownBy w8 none := grown_row (grown_same HPG.out.low hga) hgr8 (fun r e => (World.ownsRow.lt ho7 r e).1)
        have d1 := (H.out.on hL8).cell hlt
        have d2 := (HA.out.on hL8).cell hlt
        have d3 := (HB.out.on hL8).cell hlt
        rw [HVJ.out] at d1; rw [HVA.out] at d2; rw [HVB.out] at d3
        have HP8 := shade (show CG w w8 a b J (j + 1) v' from ⟨hown8, hL8⟩)
        have HL8 := shade hL8
        clear hgr8 hnil8 hown8 hpj ho7 hga hL8 HPG hi4 hy0 hy1 hy2 c1 c2 c3 HPP HVA HVB HVJ
        rcases va with _ | _ <;> rcases vb with _ | _ <;> rcases vj with _ | _
        all_goals
          go_wp2_with fail
          go_quiet (fail)
          generalize hw9 : World.drewN w8 _ = w9
          have e1 : w9.cell? ⟨b1, o1 + j, none⟩ = w8.cell? ⟨b1, o1 + j, none⟩ := by rw [← hw9]; rfl
          have e3 : w9.cell? ⟨b3, o3 + j, none⟩ = w8.cell? ⟨b3, o3 + j, none⟩ := by rw [← hw9]; rfl
          rw [d1] at e1; rw [d3] at e3
          have HP9 := shade (show CG w w9 a b J (j + 1) v' by rw [← hw9]; exact ⟨HP8.out.out, grown_drewN HP8.out.low _⟩)
          clear hw9 d1 d2 d3 HP8 HL8
          go_wp2_with fail
          first
            | (go_roundw
               case rel => exact ⟨j + 1, by omega, by go_num, by rw [HTB.out]; simp, HP9.out⟩
               case measure => simp [intOf]; omega)
            | (go_quiet ((go_at_call 42; exact Calls.quiet_of_same ((HCO.out _).mono fun _ _ h => ⟨h.1, h.2.symm⟩)))
               go_wp2_with fail
               go_roundw
               case rel => exact ⟨j + 1, by omega, by go_num, by rw [HTB.out]; simp, ⟨HP9.out.out, grown_drewN HP9.out.low _⟩⟩
               case measure => simp [intOf]; omega)
      · rw [if_neg hh] at HPP
        go_wp2_with (first
          | (at_builtin; refine wpList_append_own _ rfl _ _ 23 rfl w.heap.size 4 j0 (.bool false) 1 1 Try.underlying23 hi4 hy0 hy1 hy2 rfl (by decide) _ _ _ rfl (World.ownsRow.alloc HPG.out.out _) ⟨wr.heap.size, 0, none⟩ 1 1 [.bool va] rfl rfl (bool_new _ _ _) (bool_one _) (by unfold maxLen; omega) (by omega) (by have := HPG.out.low.size; simp; omega) ?_)
          | fail)
        intro v' w8 hown8 hgr8 hnil8
        have hpj : [Value.bool va] = [.bool (chg9 a b J j)] := by rw [HPP.out]
        rw [hpj, bolL_snoc] at hown8
        have ho7 := HPG.out.out
        have hga := World.grownBy_alloc wr (.cells #[.bool va] 4) none
        have hL8 : w.grownBy w8 none := grown_row (grown_same HPG.out.low hga) hgr8 (fun r e => (World.ownsRow.lt ho7 r e).1)
        have d1 := (H.out.on hL8).cell hlt
        have d2 := (HA.out.on hL8).cell hlt
        have d3 := (HB.out.on hL8).cell hlt
        rw [HVJ.out] at d1; rw [HVA.out] at d2; rw [HVB.out] at d3
        have HP8 := shade (show CG w w8 a b J (j + 1) v' from ⟨hown8, hL8⟩)
        have HL8 := shade hL8
        clear hgr8 hnil8 hown8 hpj ho7 hga hL8 HPG hi4 hy0 hy1 hy2 c1 c2 c3 HPP HVA HVB HVJ
        rcases va with _ | _ <;> rcases vb with _ | _ <;> rcases vj with _ | _
        all_goals
          go_wp2_with fail
          go_quiet (fail)
          generalize hw9 : World.drewN w8 _ = w9
          have e1 : w9.cell? ⟨b1, o1 + j, none⟩ = w8.cell? ⟨b1, o1 + j, none⟩ := by rw [← hw9]; rfl
          have e3 : w9.cell? ⟨b3, o3 + j, none⟩ = w8.cell? ⟨b3, o3 + j, none⟩ := by rw [← hw9]; rfl
          rw [d1] at e1; rw [d3] at e3
          have HP9 := shade (show CG w w9 a b J (j + 1) v' by rw [← hw9]; exact ⟨HP8.out.out, grown_drewN HP8.out.low _⟩)
          clear hw9 d1 d2 d3 HP8 HL8
          go_wp2_with fail
          first
            | (go_roundw
               case rel => exact ⟨j + 1, by omega, by go_num, by rw [HTB.out]; simp, HP9.out⟩
               case measure => simp [intOf]; omega)
            | (go_quiet ((go_at_call 42; exact Calls.quiet_of_same ((HCO.out _).mono fun _ _ h => ⟨h.1, h.2.symm⟩)))
               go_wp2_with fail
               go_roundw
               case rel => exact ⟨j + 1, by omega, by go_num, by rw [HTB.out]; simp, ⟨HP9.out.out, grown_drewN HP9.out.low _⟩⟩
               case measure => simp [intOf]; omega)

    · obtain rfl : j = m := by omega
      go_wp2_with fail
      go_ret
      exact ⟨_, rfl, HPG.out.out, HPG.out.low⟩
set_option maxRecDepth 100000 in
set_option maxHeartbeats 8000000 in
theorem SChoose_in (AJ : Option Addr) (m cj : Nat) (J : Nat → Bool) (s : Nat) (w : World) (hj : Bols w AJ m J) (hm : m ≤ 300) (hs : s ≤ 4) :
    Calls Try.prog 26 #[.slice AJ m cj, .int .i64 (s : Int)] w fun e w' => e = .returned (.int .i64 (msB J (chg9 (pg 0 J) (pg s J) J) m : Int)) ∧ w.grownBy w' none := by
  have HV := shade (validJumps_any AJ m cj w)
  rw [decide_eq_true hm] at HV
  have HI := shade (fun W => inRange_any (s : Int) 0 4 W)
  have hbi : inB (s : Int) 0 4 = true := by unfold inB; simp; omega
  rw [hbi] at HI
  have H := shade hj
  have HG := shade (fun (k : Nat) (hk : k ≤ 4) W (hW : Bols W AJ m J) => pastGuesses_any AJ m cj J k W hm hk hW)
  clear hbi hj
  go_enter Try.func26, Try.ntmps26
  go_wp2_with fail
  refine HV.out.mono ?_
  rintro e w1 ⟨rfl, rfl⟩
  go_wp2_with fail
  refine (HI.out _).mono ?_
  rintro e w1 ⟨rfl, rfl⟩
  go_wp2_with fail
  refine (HG.out 0 (by omega) _ H.out).mono ?_
  intro e w2 hr
  obtain ⟨A, c, rfl, hB, hg⟩ := hr.bols
  have HB := shade hB; have HGR := shade hg
  clear hB hg hr
  go_wp2_with fail
  refine (HG.out s hs _ (H.out.on HGR.out)).mono ?_
  intro e w3 hr
  obtain ⟨A2, c2, rfl, hB2, hg2⟩ := hr.bols
  have HB2 := shade hB2; have HB1 := shade (HB.out.on hg2); have HGR2 := shade (grown_same HGR.out hg2)
  clear hB2 hg2 hr HB HGR
  go_wp2_with fail
  refine (chooseGuesses_any AJ A A2 m cj c c2 J (pg 0 J) (pg s J) _ hm (H.out.on HGR2.out) HB1.out HB2.out).mono ?_
  intro e w4 hr
  obtain ⟨A3, c3, rfl, hB3, hg3⟩ := hr.bols
  have HB3 := shade hB3; have HGR3 := shade (grown_same HGR2.out hg3)
  clear hB3 hg3 hr
  go_wp2_with fail
  refine (wrong_any AJ A3 m cj c3 J (chg9 (pg 0 J) (pg s J) J) _ hm (H.out.on HGR3.out) HB3.out).mono ?_
  rintro e w5 ⟨rfl, hg5⟩
  have HG5 := shade (grown_same HGR3.out hg5)
  clear hg5
  go_wp2_with fail
  go_ret
  exact ⟨rfl, HG5.out⟩
theorem SChoose_any (AJ : Option Addr) (m cj : Nat) (J : Nat → Bool) (s : Int) (w : World) (hj : Bols w AJ m J) :
    Calls Try.prog 26 #[.slice AJ m cj, .int .i64 s] w fun e w' => e = .returned (.int .i64 (chooseV J m s)) ∧ w.grownBy w' none := by
  by_cases h : m ≤ 300 ∧ 0 ≤ s ∧ s ≤ 4
  · have hv : chooseV J m s = (msB J (chg9 (pg 0 J) (pg s.toNat J) J) m : Int) := if_pos h
    rw [hv]
    obtain ⟨k, rfl⟩ := Int.eq_ofNat_of_zero_le h.2.1
    exact SChoose_in AJ m cj J k w hj h.1 (by omega)
  · have hv : chooseV J m s = -1 := if_neg h
    rw [hv]
    clear hj hv
    have HV := shade (validJumps_any AJ m cj w)
    by_cases hm : m ≤ 300
    · rw [decide_eq_true hm] at HV
      have HI := shade (fun W => inRange_any s 0 4 W)
      have hbi : inB s 0 4 = false := by unfold inB; simp; omega
      rw [hbi] at HI
      clear hbi h
      go_enter Try.func26, Try.ntmps26
      go_wp2_with fail
      refine HV.out.mono ?_
      rintro e w1 ⟨rfl, rfl⟩
      go_wp2_with fail
      refine (HI.out _).mono ?_
      rintro e w1 ⟨rfl, rfl⟩
      go_wp2_with fail
      go_ret
      exact ⟨rfl, grown_refl _ _⟩
    · rw [decide_eq_false hm] at HV
      clear h
      go_enter Try.func26, Try.ntmps26
      go_wp2_with fail
      refine HV.out.mono ?_
      rintro e w1 ⟨rfl, rfl⟩
      go_wp2_with fail
      go_ret
      exact ⟨rfl, grown_refl _ _⟩
end Go.Proofs.Ytfmcmndhghfoeaa
