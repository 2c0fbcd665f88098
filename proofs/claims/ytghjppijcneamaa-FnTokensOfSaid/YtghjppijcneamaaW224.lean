/- The law of TokensOf, walked. -/
import Derived.Test.YtghjppijcneamaaW223
import Derived.Test.YtghjppijcneamaaW206
namespace Go.Proofs.Ytghjppijcneamaa
open Go.RowKit
set_option linter.unusedSimpArgs false
theorem cat_run (x y : List UInt8) (h : x.length + y.length ≤ 1000000) (W : World) : (Op.stringOp .add (tx x) (tx y)).run Try.prog W = .ok (.string (tx (x ++ y))) W := by
  rw [run_string_add_sum _ _ _ (by rw [tx_size, tx_size]; omega), tx_append]
set_option maxRecDepth 100000 in
set_option maxHeartbeats 8000000 in
theorem tokensOf_walk (A : Option Addr) (n cap : Nat) (zs : List Int) (w : World) (h : Bys w A n cap zs) :
    Calls Try.prog 3 #[.slice A n cap] w fun e w' => e = .returned (.bool true) ∧ Below w.heap.size w w' := by
  have hcap := h.fits
  have hbig := h.big
  unfold maxLen at hbig
  have HD := shade (DrawTokensOf_any A n cap zs w h)
  clear h
  by_cases hn : n > 1048576
  · go_enter Try.func3, Try.ntmps3
    go_wp2_with fail
    go_ret
    exact ⟨rfl, below_of_grown (grown_refl _ _)⟩
  go_enter Try.func3, Try.ntmps3
  go_wp2_with fail
  refine HD.out.mono ?_
  rintro e w1 ⟨l, hl, rfl, hgr⟩
  have HG1 := shade hgr
  clear hgr HD
  have hz := tx_size l
  obtain ⟨xs, hxs⟩ : ∃ xs, wordsL l = xs := ⟨_, rfl⟩
  have hK : xs.length ≤ 200 := by rw [← hxs]; exact wordsL_len l
  have HSp := shade (fun W => SpecTokensOf_res l W (by omega))
  have HIm := shade (fun W => TokensOf_res l W (by omega))
  rw [hxs] at HSp HIm
  have HXS := shade hxs
  clear hxs
  obtain ⟨K, hKx⟩ : ∃ K, xs.length = K := ⟨_, rfl⟩
  obtain ⟨f, hf⟩ : ∃ f, (fun j => tx (xs.getD j [])) = f := ⟨_, rfl⟩
  go_wp2_with fail
  refine (HIm.out _).mono ?_
  rintro e w2 h5
  obtain ⟨v1, rfl, hR, hgr⟩ := StrRes.row h5
  rw [hKx, hf] at hR
  have HG2 := shade (grown_same HG1.out hgr)
  have HV2 := shade hR
  clear hgr hR h5 HG1
  obtain ⟨A1, c1, rfl, hs1⟩ := HV2.out.strs
  have HS2 := shade hs1
  clear hs1
  go_wp2_with fail
  refine (HSp.out _).mono ?_
  rintro e w3 h5
  obtain ⟨v0, rfl, hR, hgr⟩ := StrRes.row h5
  rw [hKx, hf] at hR
  have HG3 := shade (grown_same HG2.out hgr)
  have HV3 := shade (HV2.out.grown hgr)
  have HW3 := shade hR
  clear hgr hR h5 HG2 HV2 HS2
  go_wp2_with fail
  refine (equalTexts_row _ _ _ _ K _ _ f _ (by omega) HV3.out HW3.out).mono ?_
  rintro e w4 ⟨rfl, hgr⟩
  have HG4 := shade (grown_same HG3.out hgr)
  have HV4 := shade (HV3.out.grown hgr)
  clear hgr HG3 HV3 HW3
  by_cases hK0 : K = 0
  · subst hK0
    go_wp2_with fail
    refine (HSp.out _).mono ?_
    rintro e w5 h5
    obtain ⟨v0, rfl, hR, hgr⟩ := StrRes.row h5
    rw [hKx, hf] at hR
    have HG5 := shade (grown_same HG4.out hgr)
    have HV5 := shade (HV4.out.grown hgr)
    have HW5 := shade hR
    clear hgr hR h5 HG4 HV4
    go_wp2_with fail
    refine (equalTexts_row _ _ _ _ 0 _ _ f _ (by omega) HV5.out HW5.out).mono ?_
    rintro e w6 ⟨rfl, hgr⟩
    have HG6 := shade (grown_same HG5.out hgr)
    clear hgr
    go_wp2_with fail
    go_ret
    exact ⟨rfl, below_of_grown HG6.out⟩
  · have hl200 : l.length ≤ 200 := by
      have h := HXS.out
      unfold wordsL at h
      split at h
      · assumption
      · rw [← h] at hKx
        exact absurd hKx.symm hK0
    have hxt : tkw [] l = xs := by
      have h := HXS.out
      unfold wordsL at h
      rwa [if_pos hl200] at h
    obtain ⟨hwo, hsum⟩ := words_ok l.length l (Nat.le_refl _)
    rw [hxt] at hwo hsum
    have HSX := shade (tkw_spaced xs hwo)
    have hsl := spaced_len xs
    have kpos : 0 < K := by omega
    have e0 : ((K : Int) == 0) = false := by simp; omega
    have HKX := shade hKx
    have HF := shade hf
    clear hwo hxt hKx hf
    obtain ⟨b, rfl, hbl, hcell⟩ : ∃ b, A1 = some ⟨b, 0, none⟩ ∧ b < w4.heap.size ∧ ∀ j, j < K → w4.cell? ⟨b, j, none⟩ = some (.string (f j)) := by
      obtain ⟨A2, c2, e2, hs2⟩ := HV4.out.strs
      injection e2 with e2 _ _
      rw [e2]
      exact hs2.resolve_left hK0
    have HC := shade hcell
    clear hcell hbl hK0
    go_wp2_with fail
    go_loopw [5, 6, 7] (fun q t i wr => ∃ j : Nat, j ≤ K ∧ i = .int .i64 j ∧ q = .int .i64 (sumL (xs.take j)) ∧ t = .string (tx (spacedL (xs.take j))) ∧ w4.grownBy wr none) (fun _ _ i _ => K - (intOf i).toNat)
    case atStart => exact ⟨0, Nat.zero_le _, rfl, rfl, rfl, grown_refl _ _⟩
    case round =>
      obtain ⟨j, hj, rfl, rfl, rfl, hgr⟩ := hrel
      by_cases hjn : j < K
      · have hjx : j < xs.length := by rw [HKX.out]; exact hjn
        have q1 := hgr.cell (HC.out j hjn) (by intro e; cases e)
        have hfj : f j = tx xs[j] := by rw [← HF.out]; simp [hjx]
        rw [hfj] at q1
        have hts := take_sum xs j hjx
        have htp := take_spaced xs j hjx
        have hle := sum_take_le xs (j + 1)
        have hsl2 := spaced_len (xs.take j)
        rw [List.length_take] at hsl2
        obtain ⟨x, hx⟩ : ∃ x, xs[j] = x := ⟨_, rfl⟩
        rw [hx] at q1 hts htp
        have hzx := tx_size x
        have t0 := fun W => (show (Op.stringOp .add (tx (spacedL (xs.take j))) (tx x)).run Try.prog W = .ok (.string (tx (spacedL (xs.take j) ++ x))) W from cat_run _ _ (by omega) W)
        obtain ⟨A0, hA0⟩ : ∃ A0, A0 = spacedL (xs.take j) ++ x := ⟨_, rfl⟩
        rw [← hA0] at t0 htp
        have l0 : A0.length = (spacedL (xs.take j)).length + x.length := by rw [hA0, List.length_append]
        have t1 := fun W => (show (Op.stringOp .add (tx A0) (⟨#[32]⟩ : ByteArray)).run Try.prog W = .ok (.string (tx (spacedL (xs.take (j + 1))))) W from by rw [htp]; exact cat_run A0 [32] (by simp; omega) W)
        have hb1 : (sumL (xs.take j) : Int) ≤ 200 := by omega
        have hb2 : (x.length : Int) ≤ 200 := by omega
        have HTS := shade hts
        have HR := shade hgr
        clear hA0 l0 hfj hx htp hts hle hsl2 hgr
        have i0 : (0 : Int) ≤ (j : Int) := by omega
        have i1 : (j : Int) < (K : Int) := by omega
        go_wp2_with fail
        go_roundw
        case rel => exact ⟨j + 1, by omega, by go_num, by rw [HTS.out]; go_num, rfl, HR.out⟩
        case measure => simp [intOf]; omega
      · obtain rfl : j = K := by omega
        have HR := shade hgr
        clear hgr
        have hj200 : j ≤ 200 := by rw [← HKX.out]; exact hK
        have htk : xs.take j = xs := by rw [← HKX.out, List.take_length]
        rw [htk]
        have hz2 := tx_size (spacedL xs)
        have s1 : (sumL xs : Int) ≤ (l.length : Int) := by omega
        by_cases hsp : (spacedL xs).length > 200
        · have s2 : (200 : Int) < ((spacedL xs).length : Int) := by omega
          go_wp2_with fail
          go_ret
          exact ⟨rfl, below_of_grown (grown_same HG4.out HR.out)⟩
        · have s2 : ¬ (200 : Int) < ((spacedL xs).length : Int) := by omega
          have hwl : wordsL (spacedL xs) = xs := by
            unfold wordsL
            rw [if_pos (by omega), HSX.out]
          have HI2 := shade (fun W => TokensOf_res (spacedL xs) W (by omega))
          rw [hwl] at HI2
          clear hwl htk
          go_wp2_with fail
          refine (HI2.out _).mono ?_
          rintro e w5 h5
          obtain ⟨v5, rfl, hR5, hgr⟩ := StrRes.row h5
          rw [HKX.out, HF.out] at hR5
          have HG5 := shade (grown_same HG4.out (grown_same HR.out hgr))
          have HV5 := shade (HV4.out.grown (grown_same HR.out hgr))
          have HW5 := shade hR5
          clear hgr hR5 h5
          go_wp2_with fail
          refine (equalTexts_row _ _ _ _ j _ _ f _ (by omega) HW5.out HV5.out).mono ?_
          rintro e w6 ⟨rfl, hgr⟩
          have HG6 := shade (grown_same HG5.out hgr)
          clear hgr
          go_wp2_with fail
          go_ret
          exact ⟨rfl, below_of_grown HG6.out⟩
end Go.Proofs.Ytghjppijcneamaa
