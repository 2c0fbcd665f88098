/- BestTable answers as its model at the drawn jumps; of one more it is no more, it is no more than what either guess gets wrong, and of size 0 just that; no condition. -/
import Derived.Test.YtfmcmndhghfoeaaZ40
import Derived.Test.YtfmcmndhghfoeaaZ52
import Derived.Test.YtfmcmndhghfoeaaZ35
namespace Go.Proofs.Ytfmcmndhghfoeaa
open Go.ChangeShapes Go.WideShapes Go.ChangeAt Go.WideMaps Go.WideElems Go.RowKit
set_option linter.unusedSimpArgs false
set_option maxRecDepth 100000 in
set_option maxHeartbeats 8000000 in
theorem fnBestTable_walk (A : Option Addr) (n cap : Nat) (zs : List Int) (w : World) (h : Bys w A n cap zs) :
    Calls Try.prog 7 #[.slice A n cap] w fun e w' => e = .returned (.bool true) ∧ Below w.heap.size w w' := by
  have HD := shade (DrawBestTable_any A n cap zs w h)
  have hbig := h.big
  unfold maxLen at hbig
  clear h
  by_cases hn : 1048576 < n
  · go_enter Try.func7, Try.ntmps7
    go_wp2_with fail
    go_ret
    exact ⟨rfl, Below.refl _ _⟩
  have hn2 : (n : Int) ≤ 1048576 := by omega
  go_enter Try.func7, Try.ntmps7
  go_wp2_with fail
  refine HD.out.mono ?_
  rintro e w2 ⟨AJ, m, cj, J, s, rfl, hm, hJ, hg⟩
  have HJ2 := shade hJ; have HG2 := shade hg
  have hm3 : m ≤ 300 := by omega
  clear hJ hg HD
  by_cases hin : 0 ≤ s ∧ s ≤ 4
  · obtain ⟨k, rfl⟩ := Int.eq_ofNat_of_zero_le hin.1
    have hk : k ≤ 4 := by omega
    have hv : bestV J m (k : Int) = (bt k J m : Int) := if_pos ⟨hm3, hin⟩
    have hst : ∀ y, stillV J m y = (msB J (fun _ => y) m : Int) := fun y => if_pos hm3
    obtain ⟨r, hr⟩ : ∃ r : Int, bestV J m ((k : Int) + 1) = r := ⟨_, rfl⟩
    have l1 : r ≤ (bt k J m : Int) := by
      rw [← hr]
      unfold bestV
      split
      · rw [show ((k : Int) + 1).toNat = k + 1 by omega]
        exact Int.ofNat_le.2 (best_more k J m)
      · omega
    have l2 := best_still k J m
    have l3 : k = 0 → bt k J m = min (msB J (fun _ => true) m) (msB J (fun _ => false) m) := by rintro rfl; exact best_zero J m
    have l4 := msB_le J (fun _ => true) m
    have l5 := msB_le J (fun _ => false) m
    obtain ⟨c, hc⟩ : ∃ c : Nat, bt k J m = c := ⟨_, rfl⟩
    obtain ⟨t, ht⟩ : ∃ t : Nat, msB J (fun _ => true) m = t := ⟨_, rfl⟩
    obtain ⟨u, hu⟩ : ∃ u : Nat, msB J (fun _ => false) m = u := ⟨_, rfl⟩
    rw [hc] at hv l1 l2 l3
    rw [ht, hu] at l2 l3
    rw [ht] at l4
    rw [hu] at l5
    have CI := shade (show ∀ W, Bols W AJ m J → Calls Try.prog 23 #[.slice AJ m cj, .int .i64 (k : Int)] W (fun e w' => e = .returned (.int .i64 ((c : Int))) ∧ W.grownBy w' none) from fun W hW => by have := IBestTable_any AJ m cj J k W hW; rw [hv] at this; exact this)
    have CS := shade (show ∀ W, Bols W AJ m J → Calls Try.prog 28 #[.slice AJ m cj, .int .i64 (k : Int)] W (fun e w' => e = .returned (.int .i64 ((c : Int))) ∧ W.grownBy w' none) from fun W hW => by have := SBest_any AJ m cj J k W hW; rw [hv] at this; exact this)
    have CM := shade (show ∀ W, Bols W AJ m J → Calls Try.prog 23 #[.slice AJ m cj, .int .i64 ((k : Int) + 1)] W (fun e w' => e = .returned (.int .i64 (r)) ∧ W.grownBy w' none) from fun W hW => by have := IBestTable_any AJ m cj J ((k : Int) + 1) W hW; rw [hr] at this; exact this)
    have CT := shade (show ∀ W, Bols W AJ m J → Calls Try.prog 14 #[.slice AJ m cj, .bool true] W (fun e w' => e = .returned (.int .i64 ((t : Int))) ∧ W.grownBy w' none) from fun W hW => by have := IStillMisses_any AJ m cj J true W hW; rw [hst, ht] at this; exact this)
    have CU := shade (show ∀ W, Bols W AJ m J → Calls Try.prog 14 #[.slice AJ m cj, .bool false] W (fun e w' => e = .returned (.int .i64 ((u : Int))) ∧ W.grownBy w' none) from fun W hW => by have := IStillMisses_any AJ m cj J false W hW; rw [hst, hu] at this; exact this)
    have HL3 := shade l3
    clear hv hst hr hc ht hu l3
    rcases (show t < u ∨ t = u ∨ u < t by omega) with hq | hq | hq
    all_goals
      (try subst hq)
      (try have i5 : (t : Int) < (u : Int) := by omega)
      (try have i6 : (u : Int) < (t : Int) := by omega)
      (try have i7 : (c : Int) ≤ (t : Int) := by omega)
      (try have i8 : (c : Int) ≤ (u : Int) := by omega)
      clear l2
      by_cases hk0 : k = 0
      · subst hk0
        have hcc := HL3.out rfl
        (try have i9 : (c : Int) = (t : Int) := by omega)
        (try have i10 : (c : Int) = (u : Int) := by omega)
        clear hcc
        go_wp2_with fail
        refine (CI.out _ HJ2.out).mono ?_
        rintro e w3 ⟨rfl, hg⟩
        have HJ3 := shade (HJ2.out.on hg); have HG3 := shade (grown_same HG2.out hg)
        clear hg HJ2 HG2
        go_wp2_with fail
        refine (CS.out _ HJ3.out).mono ?_
        rintro e w4 ⟨rfl, hg⟩
        have HJ4 := shade (HJ3.out.on hg); have HG4 := shade (grown_same HG3.out hg)
        clear hg HJ3 HG3
        go_wp2_with fail
        refine (CM.out _ HJ4.out).mono ?_
        rintro e w5 ⟨rfl, hg⟩
        have HJ5 := shade (HJ4.out.on hg); have HG5 := shade (grown_same HG4.out hg)
        clear hg HJ4 HG4
        go_wp2_with fail
        refine (CT.out _ HJ5.out).mono ?_
        rintro e w6 ⟨rfl, hg⟩
        have HJ6 := shade (HJ5.out.on hg); have HG6 := shade (grown_same HG5.out hg)
        clear hg HJ5 HG5
        go_wp2_with fail
        refine (CU.out _ HJ6.out).mono ?_
        rintro e w7 ⟨rfl, hg⟩
        have HJ7 := shade (HJ6.out.on hg); have HG7 := shade (grown_same HG6.out hg)
        clear hg HJ6 HG6
        go_wp2_with fail
        all_goals (first | (exfalso; omega) | skip)
        all_goals
          go_ret
          exact ⟨rfl, below_of_grown HG7.out⟩
      · have i2 : (0 : Int) < (k : Int) := by omega
        go_wp2_with fail
        refine (CI.out _ HJ2.out).mono ?_
        rintro e w3 ⟨rfl, hg⟩
        have HJ3 := shade (HJ2.out.on hg); have HG3 := shade (grown_same HG2.out hg)
        clear hg HJ2 HG2
        go_wp2_with fail
        refine (CS.out _ HJ3.out).mono ?_
        rintro e w4 ⟨rfl, hg⟩
        have HJ4 := shade (HJ3.out.on hg); have HG4 := shade (grown_same HG3.out hg)
        clear hg HJ3 HG3
        go_wp2_with fail
        refine (CM.out _ HJ4.out).mono ?_
        rintro e w5 ⟨rfl, hg⟩
        have HJ5 := shade (HJ4.out.on hg); have HG5 := shade (grown_same HG4.out hg)
        clear hg HJ4 HG4
        go_wp2_with fail
        refine (CT.out _ HJ5.out).mono ?_
        rintro e w6 ⟨rfl, hg⟩
        have HJ6 := shade (HJ5.out.on hg); have HG6 := shade (grown_same HG5.out hg)
        clear hg HJ5 HG5
        go_wp2_with fail
        refine (CU.out _ HJ6.out).mono ?_
        rintro e w7 ⟨rfl, hg⟩
        have HJ7 := shade (HJ6.out.on hg); have HG7 := shade (grown_same HG6.out hg)
        clear hg HJ6 HG6
        go_wp2_with fail
        all_goals (first | (exfalso; omega) | skip)
        all_goals
          go_ret
          exact ⟨rfl, below_of_grown HG7.out⟩
  · have hv : bestV J m s = -1 := if_neg (fun h => hin h.2)
    have CI := shade (show ∀ W, Bols W AJ m J → Calls Try.prog 23 #[.slice AJ m cj, .int .i64 s] W (fun e w' => e = .returned (.int .i64 (-1)) ∧ W.grownBy w' none) from fun W hW => by have := IBestTable_any AJ m cj J s W hW; rw [hv] at this; exact this)
    have CS := shade (show ∀ W, Bols W AJ m J → Calls Try.prog 28 #[.slice AJ m cj, .int .i64 s] W (fun e w' => e = .returned (.int .i64 (-1)) ∧ W.grownBy w' none) from fun W hW => by have := SBest_any AJ m cj J s W hW; rw [hv] at this; exact this)
    clear hv hin
    go_wp2_with fail
    refine (CI.out _ HJ2.out).mono ?_
    rintro e w3 ⟨rfl, hg⟩
    have HJ3 := shade (HJ2.out.on hg); have HG3 := shade (grown_same HG2.out hg)
    clear hg HJ2 HG2
    go_wp2_with fail
    refine (CS.out _ HJ3.out).mono ?_
    rintro e w4 ⟨rfl, hg⟩
    have HJ4 := shade (HJ3.out.on hg); have HG4 := shade (grown_same HG3.out hg)
    clear hg HJ3 HG3
    go_wp2_with fail
    refine (CS.out _ HJ4.out).mono ?_
    rintro e w5 ⟨rfl, hg⟩
    have HJ5 := shade (HJ4.out.on hg); have HG5 := shade (grown_same HG4.out hg)
    clear hg HJ4 HG4
    go_wp2_with fail
    go_ret
    exact ⟨rfl, below_of_grown HG5.out⟩
theorem cells5 : Try.prog.cellsOf 5 = 1 := by kernel_rfl
theorem open_bytes {H : Type} {enc : TypeId × Value → H} {W : World} {base : Nat} {v1 : Value} {d1 : DataW H} {p1 : List MemPlace} (hval : Value.okWide Try.prog W .any base 22 v1) (h1 : DataW.Trod enc Try.prog W 0 (fun _ => true) true 22 v1 d1 p1) :
    ∃ A n cap zs, v1 = .slice A n cap ∧ Bys W A n cap zs := by
  obtain ⟨a1, len, cap, rfl⟩ := okWide_slice Try.underlying22 hval
  obtain ⟨fuel, hf⟩ := h1
  rcases open_ints Try.underlying22 Try.underlying5 cells5 hf with ⟨hcs, hx⟩ | ⟨a, len', cap', zs, hcs, _, hl, hm, hz, hx, hcell, hwz⟩
  · simp [Value.cells] at hcs
    obtain ⟨rfl, rfl, rfl⟩ := hcs
    exact ⟨none, 0, 0, [], rfl, Nat.le_refl _, Nat.zero_le _, fun h => absurd h (by omega), fun j h => by omega⟩
  · simp [Value.cells] at hcs
    obtain ⟨rfl, rfl, rfl⟩ := hcs
    simp only [if_true] at hz
    refine ⟨some a, len, cap, zs, rfl, hl, hm, fun hn => ?_, fun j hj => ?_⟩
    · obtain ⟨ab, ao, spot⟩ := a
      have hspot : spot = none := by simpa [Addr.add] using World.cell?_spot (hcell 0 (by omega))
      subst hspot
      refine ⟨ab, ao, rfl, ?_, fun j hj => ?_⟩
      · have := hcell 0 (by omega)
        rw [Addr.add_lit] at this
        exact World.block_lt_of_cell? W _ this
      · have := hcell j (by omega)
        rw [Addr.add_lit] at this
        exact this
    · have := range_u8 hwz j
      rwa [← List.getD_eq_getElem?_getD] at this

set_option maxRecDepth 100000 in
theorem fnBestTable_lifted (os : Os) (started : os.Started) (H : Type) (enc : TypeId × Value → H) :
    ReturnsInHanded {} Try.checked os 7 .any (Rows.fnBestTableSpec.pre6 enc Try.prog Try.f7 Rows.fnBestTableRow.domain false) (Rows.fnBestTableSpec.post enc Try.prog Try.f7 false true false false) := by
  refine returnsInHanded_of_change (C := Try.checked) own started (by kernel_rfl) Try.func7
    (ChangeSpec.witness6 (enc := enc) (C := Try.checked) false ⟨#[], #[.slice none 0 0], []⟩ 8 (by kernel_rfl) (by kernel_rfl) (by kernel_rfl) (by kernel_rfl)) ?_
  intro W base args ds gs before hval0 hW hcnd _
  have hval : ∀ (j : Nat) t v, Try.f7.params[j]? = some t → args[j]? = some v → Value.okWide Try.prog W .any base t v := hval0
  have hW' := hW
  obtain ⟨p, q, hA0, hV, rfl, hfz, hnd⟩ := hW
  have hA : DataW.TrodAll enc Try.prog W 0 (fun _ => true) true Try.f7.params.toList args.toList ds p := hA0
  rw [Try.params7] at hA hval
  have hlt := hW'.lt
  obtain ⟨v0, d0, rfl, rfl, h0⟩ := trodAll_one hA
  obtain ⟨rfl, rfl⟩ := trodVars_none hV
  clear hA0 hval0
  have h0' := h0
  obtain ⟨A, n, cap, zs, rfl, hBy⟩ := open_bytes (hval 0 22 v0 rfl rfl) h0
  refine (fnBestTable_walk A n cap zs W hBy).mono fun e W' ⟨he, hb⟩ => ?_
  subst he
  exact ⟨_, rfl, _, _, _, [] ++ [], _, [], hW', trodAll_mk1 (shut_bool Try.underlying4 _), trodAll_mk1 (Below.trod laidOut (by kernel_rfl) (of_decide_eq_true (by kernel_rfl)) h0' hb (fun x hx => hlt x (List.mem_append_left _ hx))), rfl, hb.frame _, fun h => by cases h⟩
/-- The statement of FnBestTable. -/
theorem fnBestTable_holds : Rows.FnBestTableSaid :=
  OpenClaim.holds_of_wide 7 Try.f7 rfl rfl rfl rfl rfl rfl rfl ⟨rfl, rfl, rfl, rfl, rfl⟩ rfl rfl rfl rfl rfl (by kernel_rfl) Try.func7 (by kernel_rfl)
    (of_decide_eq_true (by kernel_rfl)) (by unfold Func.isWrapper; first | (rw [if_pos (by decide +kernel)]; kernel_rfl) | (rw [if_neg (by decide +kernel)]; exact ⟨rfl, rfl⟩))
    (fun os started H enc _ => fnBestTable_lifted os started H enc)
#print axioms fnBestTable_holds
end Go.Proofs.Ytfmcmndhghfoeaa
