/- TokensOf's exact law, walked. -/
import Derived.Test.YtghjppijcneamaaW204
namespace Go.Proofs.Ytghjppijcneamaa
open Go.RowKit
theorem StrRes.row {xs : List (List UInt8)} {w w' : World} {e : Ending} (h : StrRes xs w e w') : ∃ v, e = .returned v ∧ RowS w' w.heap.size w'.heap.size v xs.length (fun j => tx (xs.getD j [])) ∧ w.grownBy w' none := by
  obtain ⟨v, he, ho, hg⟩ := h
  rw [strL_F] at ho
  exact ⟨v, he, RowS.of_own ho, hg⟩
set_option maxRecDepth 100000 in
set_option maxHeartbeats 4000000 in
theorem exactTokensOf_walk (s : ByteArray) (w : World) :
    Calls Try.prog 4 #[.string s] w fun e w' => e = .returned (.bool true) ∧ Below w.heap.size w w' := by
  obtain ⟨l, rfl⟩ : ∃ l, s = tx l := ⟨_, tx_of s⟩
  have hz := tx_size l
  by_cases hb : l.length > 1048576
  · go_enter Try.func4, Try.ntmps4
    go_wp2
    go_ret
    exact ⟨rfl, below_of_grown (grown_refl _ _)⟩
  have hlen : l.length ≤ 1048576 := by omega
  obtain ⟨xs, hxs⟩ : ∃ xs, wordsL l = xs := ⟨_, rfl⟩
  have hK : xs.length ≤ 200 := by rw [← hxs]; exact wordsL_len l
  have HSp := shade (fun W => SpecTokensOf_res l W hlen)
  have HIm := shade (fun W => TokensOf_res l W hlen)
  rw [hxs] at HSp HIm
  clear hxs
  obtain ⟨K, hKx⟩ : ∃ K, xs.length = K := ⟨_, rfl⟩
  obtain ⟨f, hf⟩ : ∃ f, (fun j => tx (xs.getD j [])) = f := ⟨_, rfl⟩
  go_enter Try.func4, Try.ntmps4
  go_wp2_with fail
  refine (HSp.out _).mono ?_
  rintro e w1 h5
  obtain ⟨v0, rfl, hR, hgr⟩ := StrRes.row h5
  rw [hKx, hf] at hR
  have HG1 := shade hgr
  have HP1 := shade hR
  clear hgr hR h5 HSp
  go_wp2_with fail
  refine (HIm.out _).mono ?_
  rintro e w2 h5
  obtain ⟨v1, rfl, hR, hgr⟩ := StrRes.row h5
  rw [hKx, hf] at hR
  have l2 := HG1.out.size
  have HG2 := shade (grown_same HG1.out hgr)
  have HP2 := shade (HP1.out.grown hgr)
  have HV2 := shade hR
  clear hgr hR h5 HG1 HP1
  go_wp2_with fail
  refine (eqStringS_row _ _ _ _ K _ _ f _ (by omega) HV2.out HP2.out).mono ?_
  rintro e w3 ⟨rfl, hgr⟩
  have HP3 := shade (HP2.out.grown hgr)
  have HG3 := shade (grown_same HG2.out hgr)
  have HV3 := shade (HV2.out.grown hgr)
  clear hgr HP2 HG2 HV2
  go_wp2_with fail
  refine (markStringS_row _ _ K _ f 1 _ (by omega) (by omega) HV3.out).mono ?_
  rintro e w4 ⟨rfl, hm, hgr⟩
  have HP4 := shade (HP3.out.row hgr (fun b e => by have := (HV3.out.rng e).1; omega))
  have HG4 := shade (grown_row HG3.out hgr (fun b e => by have := (HV3.out.rng e).1; omega))
  have HV4 := shade hm
  clear hgr hm HP3 HG3 HV3
  go_wp2_with fail
  refine (heldStringS_row _ _ K _ 1 _ (by omega) (by omega) HV4.out).mono ?_
  rintro e w5 ⟨rfl, hgr⟩
  have HP5 := shade (HP4.out.grown hgr)
  have HG5 := shade (grown_same HG4.out hgr)
  have HV5 := shade (HV4.out.grown hgr)
  clear hgr HP4 HG4 HV4
  go_wp2_with fail
  refine (HIm.out _).mono ?_
  rintro e w6 h5
  obtain ⟨v2, rfl, hR, hgr⟩ := StrRes.row h5
  rw [hKx, hf] at hR
  have HP6 := shade (HP5.out.grown hgr)
  have HG6 := shade (grown_same HG5.out hgr)
  have HV6 := shade (HV5.out.grown hgr)
  have HH6 := shade hR
  clear hgr hR h5 HP5 HG5 HV5
  go_wp2_with fail
  refine (eqStringS_row _ _ _ _ K _ _ f _ (by omega) HH6.out HP6.out).mono ?_
  rintro e w7 ⟨rfl, hgr⟩
  have HG7 := shade (grown_same HG6.out hgr)
  have HV7 := shade (HV6.out.grown hgr)
  clear hgr HG6 HV6 HP6 HH6
  go_wp2_with fail
  refine (heldStringS_row _ _ K _ 1 _ (by omega) (by omega) HV7.out).mono ?_
  rintro e w8 ⟨rfl, hgr⟩
  have HG8 := shade (grown_same HG7.out hgr)
  clear hgr
  go_wp2_with fail
  go_ret
  exact ⟨rfl, below_of_grown HG8.out⟩
end Go.Proofs.Ytghjppijcneamaa
