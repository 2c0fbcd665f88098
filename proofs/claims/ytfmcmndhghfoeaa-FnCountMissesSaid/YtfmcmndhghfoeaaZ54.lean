/- CountMisses answers as its model at the drawn jumps, and is at most twice what either guess gets wrong, and half of the power, and all; no condition. -/
import Derived.Test.YtfmcmndhghfoeaaZ40
import Derived.Test.YtfmcmndhghfoeaaZ52
import Derived.Test.YtfmcmndhghfoeaaZ31
import Derived.Test.YtfmcmndhghfoeaaZ20
namespace Go.Proofs.Ytfmcmndhghfoeaa
open Go.ChangeShapes Go.WideShapes Go.ChangeAt Go.WideMaps Go.WideElems Go.RowKit
set_option linter.unusedSimpArgs false
theorem lpow_half (b half : Int) (hb : b = 1 ∧ half = 1 ∨ b = 2 ∧ half = 2 ∨ b = 3 ∧ half = 4) (W : World) :
    Calls Try.prog 19 #[.int .i64 (b - 1)] W fun e w' => e = .returned (.int .i64 half) ∧ W = w' := by
  rcases hb with ⟨rfl, rfl⟩ | ⟨rfl, rfl⟩ | ⟨rfl, rfl⟩
  · exact lpower_any 0 (by omega) W
  · exact lpower_any 1 (by omega) W
  · exact lpower_any 2 (by omega) W
set_option maxRecDepth 100000 in
set_option maxHeartbeats 8000000 in
theorem fnCountMisses_walk (A : Option Addr) (n cap : Nat) (zs : List Int) (w : World) (h : Bys w A n cap zs) :
    Calls Try.prog 4 #[.slice A n cap] w fun e w' => e = .returned (.bool true) ∧ Below w.heap.size w w' := by
  have HD := shade (DrawCountMisses_any A n cap zs w h)
  have hbig := h.big
  unfold maxLen at hbig
  clear h
  by_cases hn : 1048576 < n
  · go_enter Try.func4, Try.ntmps4
    go_wp2_with fail
    go_ret
    exact ⟨rfl, Below.refl _ _⟩
  have hn2 : (n : Int) ≤ 1048576 := by omega
  go_enter Try.func4, Try.ntmps4
  go_wp2_with fail
  refine HD.out.mono ?_
  rintro e w2 ⟨AJ, m, cj, J, b, f, rfl, hm, hJ, hg⟩
  have HJ2 := shade hJ; have HG2 := shade hg
  have hm3 : m ≤ 300 := by omega
  clear hJ hg HD
  by_cases hin : ∃ half : Int, (b = 1 ∧ half = 1 ∨ b = 2 ∧ half = 2 ∨ b = 3 ∧ half = 4) ∧ 0 ≤ f ∧ f ≤ 2 * half - 1
  · obtain ⟨half, hb, hf0, hf1⟩ := hin
    have hv : countV J m b f = (msB J (cg (2 * half - 1) f half J) m : Int) := by
      unfold countV
      rcases hb with ⟨rfl, rfl⟩ | ⟨rfl, rfl⟩ | ⟨rfl, rfl⟩
      all_goals
        simp only [show (1 : Int).toNat = 1 from rfl, show (2 : Int).toNat = 2 from rfl, show (3 : Int).toNat = 3 from rfl, Int.reducePow, Int.reduceSub, Int.reduceMul, Nat.reduceSub] at hf1 ⊢
        rw [if_pos ⟨hm3, by omega, by omega, hf0, hf1⟩]
    have hst : ∀ y, stillV J m y = (msB J (fun _ => y) m : Int) := fun y => if_pos hm3
    have l1 := count_law (2 * half - 1) f half J m true hf0 hf1 rfl
    have l2 := count_law (2 * half - 1) f half J m false hf0 hf1 rfl
    have l3 := msB_le J (cg (2 * half - 1) f half J) m
    have l4 := msB_le J (fun _ => true) m
    have l5 := msB_le J (fun _ => false) m
    obtain ⟨c, hc⟩ : ∃ c : Nat, msB J (cg (2 * half - 1) f half J) m = c := ⟨_, rfl⟩
    obtain ⟨t, ht⟩ : ∃ t : Nat, msB J (fun _ => true) m = t := ⟨_, rfl⟩
    obtain ⟨u, hu⟩ : ∃ u : Nat, msB J (fun _ => false) m = u := ⟨_, rfl⟩
    rw [hc] at hv l1 l2 l3
    rw [ht] at l1 l4
    rw [hu] at l2 l5
    have CI := shade (show ∀ W, Bols W AJ m J → Calls Try.prog 17 #[.slice AJ m cj, .int .i64 b, .int .i64 f] W (fun e w' => e = .returned (.int .i64 ((c : Int))) ∧ W.grownBy w' none) from fun W hW => by have := ICountMisses_any AJ m cj J b f W hW; rw [hv] at this; exact this)
    have CS := shade (show ∀ W, Bols W AJ m J → Calls Try.prog 18 #[.slice AJ m cj, .int .i64 b, .int .i64 f] W (fun e w' => e = .returned (.int .i64 ((c : Int))) ∧ W.grownBy w' none) from fun W hW => by have := SCountMisses_any AJ m cj J b f W hW; rw [hv] at this; exact this)
    have CT := shade (show ∀ W, Bols W AJ m J → Calls Try.prog 14 #[.slice AJ m cj, .bool true] W (fun e w' => e = .returned (.int .i64 ((t : Int))) ∧ W.grownBy w' none) from fun W hW => by have := IStillMisses_any AJ m cj J true W hW; rw [hst, ht] at this; exact this)
    have CU := shade (show ∀ W, Bols W AJ m J → Calls Try.prog 14 #[.slice AJ m cj, .bool false] W (fun e w' => e = .returned (.int .i64 ((u : Int))) ∧ W.grownBy w' none) from fun W hW => by have := IStillMisses_any AJ m cj J false W hW; rw [hst, hu] at this; exact this)
    have CP := shade (fun W => lpow_half b half hb W)
    have b1 : 1 ≤ b := by omega
    have b2 : b ≤ 3 := by omega
    have h1 : 1 ≤ half := by omega
    have h2 : half ≤ 4 := by omega
    have i3 : (c : Int) ≤ (m : Int) := by omega
    clear hv hst hc ht hu hb hf0 hf1
    go_wp2_with fail
    refine (CI.out _ HJ2.out).mono ?_
    rintro e w3 ⟨rfl, hg⟩
    have HJ3 := shade (HJ2.out.on hg); have HG3 := shade (grown_same HG2.out hg)
    clear hg HJ2 HG2
    go_wp2_with fail
    refine (CS.out _ HJ3.out).mono ?_
    rintro e w4 ⟨rfl, hg⟩
    have HJ4 := shade (HJ3.out.on hg); have HG4 := shade (grown_same HG3.out hg)
    clear hg HJ3 HG3
    go_wp2_with fail
    refine (CT.out _ HJ4.out).mono ?_
    rintro e w5 ⟨rfl, hg⟩
    have HJ5 := shade (HJ4.out.on hg); have HG5 := shade (grown_same HG4.out hg)
    clear hg HJ4 HG4
    go_wp2_with fail
    refine (CP.out _).mono ?_
    rintro e w' ⟨rfl, rfl⟩
    go_wp2_with fail
    refine (CU.out _ HJ5.out).mono ?_
    rintro e w6 ⟨rfl, hg⟩
    have HJ6 := shade (HJ5.out.on hg); have HG6 := shade (grown_same HG5.out hg)
    clear hg HJ5 HG5
    go_wp2_with fail
    refine (CP.out _).mono ?_
    rintro e w' ⟨rfl, rfl⟩
    go_wp2_with fail
    go_ret
    exact ⟨rfl, below_of_grown HG6.out⟩
  · have hv : countV J m b f = -1 := by
      refine if_neg (fun hh => hin ?_)
      obtain ⟨_, h1, h2, h3, h4⟩ := hh
      rcases (show b = 1 ∨ b = 2 ∨ b = 3 by omega) with rfl | rfl | rfl
      · exact ⟨1, .inl ⟨rfl, rfl⟩, h3, by have h4' : f ≤ 2 ^ 1 - 1 := h4; simp only [Int.reducePow, Int.reduceSub] at h4'; omega⟩
      · exact ⟨2, .inr (.inl ⟨rfl, rfl⟩), h3, by have h4' : f ≤ 2 ^ 2 - 1 := h4; simp only [Int.reducePow, Int.reduceSub] at h4'; omega⟩
      · exact ⟨4, .inr (.inr ⟨rfl, rfl⟩), h3, by have h4' : f ≤ 2 ^ 3 - 1 := h4; simp only [Int.reducePow, Int.reduceSub] at h4'; omega⟩
    have CI := shade (show ∀ W, Bols W AJ m J → Calls Try.prog 17 #[.slice AJ m cj, .int .i64 b, .int .i64 f] W (fun e w' => e = .returned (.int .i64 (-1)) ∧ W.grownBy w' none) from fun W hW => by have := ICountMisses_any AJ m cj J b f W hW; rw [hv] at this; exact this)
    have CS := shade (show ∀ W, Bols W AJ m J → Calls Try.prog 18 #[.slice AJ m cj, .int .i64 b, .int .i64 f] W (fun e w' => e = .returned (.int .i64 (-1)) ∧ W.grownBy w' none) from fun W hW => by have := SCountMisses_any AJ m cj J b f W hW; rw [hv] at this; exact this)
    clear hv hin
    go_wp2_with fail
    refine (CI.out _ HJ2.out).mono ?_
    rintro e w3 ⟨rfl, hg⟩
    have HJ3 := shade (HJ2.out.on hg); have HG3 := shade (grown_same HG2.out hg)
    clear hg HJ2 HG2
    go_wp2_with fail
    refine (CS.out _ HJ3.out).mono ?_
    rintro e w4 ⟨rfl, hg⟩
    have HJ4 := shade (HJ3.out.on hg); have HG4 := shade (grown_same HG3.out hg)
    clear hg HJ3 HG3
    go_wp2_with fail
    refine (CS.out _ HJ4.out).mono ?_
    rintro e w5 ⟨rfl, hg⟩
    have HJ5 := shade (HJ4.out.on hg); have HG5 := shade (grown_same HG4.out hg)
    clear hg HJ4 HG4
    go_wp2_with fail
    go_ret
    exact ⟨rfl, below_of_grown HG5.out⟩
theorem cells5 : Try.prog.cellsOf 5 = 1 := by kernel_rfl
theorem open_bytes {H : Type} {enc : TypeId × Value → H} {W : World} {base : Nat} {v1 : Value} {d1 : DataW H} {p1 : List MemPlace} (hval : Value.okWide Try.prog W .any base 22 v1) (h1 : DataW.Trod enc Try.prog W 0 (fun _ => true) true 22 v1 d1 p1) :
    ∃ A n cap zs, v1 = .slice A n cap ∧ Bys W A n cap zs := by
  obtain ⟨a1, len, cap, rfl⟩ := okWide_slice Try.underlying22 hval
  obtain ⟨fuel, hf⟩ := h1
  rcases open_ints Try.underlying22 Try.underlying5 cells5 hf with ⟨hcs, hx⟩ | ⟨a, len', cap', zs, hcs, _, hl, hm, hz, hx, hcell, hwz⟩
  · simp [Value.cells] at hcs
    obtain ⟨rfl, rfl, rfl⟩ := hcs
    exact ⟨none, 0, 0, [], rfl, Nat.le_refl _, Nat.zero_le _, fun h => absurd h (by omega), fun j h => by omega⟩
  · simp [Value.cells] at hcs
    obtain ⟨rfl, rfl, rfl⟩ := hcs
    simp only [if_true] at hz
    refine ⟨some a, len, cap, zs, rfl, hl, hm, fun hn => ?_, fun j hj => ?_⟩
    · obtain ⟨ab, ao, spot⟩ := a
      have hspot : spot = none := by simpa [Addr.add] using World.cell?_spot (hcell 0 (by omega))
      subst hspot
      refine ⟨ab, ao, rfl, ?_, fun j hj => ?_⟩
      · have := hcell 0 (by omega)
        rw [Addr.add_lit] at this
        exact World.block_lt_of_cell? W _ this
      · have := hcell j (by omega)
        rw [Addr.add_lit] at this
        exact this
    · have := range_u8 hwz j
      rwa [← List.getD_eq_getElem?_getD] at this

set_option maxRecDepth 100000 in
theorem fnCountMisses_lifted (os : Os) (started : os.Started) (H : Type) (enc : TypeId × Value → H) :
    ReturnsInHanded {} Try.checked os 4 .any (Rows.fnCountMissesSpec.pre6 enc Try.prog Try.f4 Rows.fnCountMissesRow.domain false) (Rows.fnCountMissesSpec.post enc Try.prog Try.f4 false true false false) := by
  refine returnsInHanded_of_change (C := Try.checked) own started (by kernel_rfl) Try.func4
    (ChangeSpec.witness6 (enc := enc) (C := Try.checked) false ⟨#[], #[.slice none 0 0], []⟩ 8 (by kernel_rfl) (by kernel_rfl) (by kernel_rfl) (by kernel_rfl)) ?_
  intro W base args ds gs before hval0 hW hcnd _
  have hval : ∀ (j : Nat) t v, Try.f4.params[j]? = some t → args[j]? = some v → Value.okWide Try.prog W .any base t v := hval0
  have hW' := hW
  obtain ⟨p, q, hA0, hV, rfl, hfz, hnd⟩ := hW
  have hA : DataW.TrodAll enc Try.prog W 0 (fun _ => true) true Try.f4.params.toList args.toList ds p := hA0
  rw [Try.params4] at hA hval
  have hlt := hW'.lt
  obtain ⟨v0, d0, rfl, rfl, h0⟩ := trodAll_one hA
  obtain ⟨rfl, rfl⟩ := trodVars_none hV
  clear hA0 hval0
  have h0' := h0
  obtain ⟨A, n, cap, zs, rfl, hBy⟩ := open_bytes (hval 0 22 v0 rfl rfl) h0
  refine (fnCountMisses_walk A n cap zs W hBy).mono fun e W' ⟨he, hb⟩ => ?_
  subst he
  exact ⟨_, rfl, _, _, _, [] ++ [], _, [], hW', trodAll_mk1 (shut_bool Try.underlying4 _), trodAll_mk1 (Below.trod laidOut (by kernel_rfl) (of_decide_eq_true (by kernel_rfl)) h0' hb (fun x hx => hlt x (List.mem_append_left _ hx))), rfl, hb.frame _, fun h => by cases h⟩
/-- The statement of FnCountMisses. -/
theorem fnCountMisses_holds : Rows.FnCountMissesSaid :=
  OpenClaim.holds_of_wide 4 Try.f4 rfl rfl rfl rfl rfl rfl rfl ⟨rfl, rfl, rfl, rfl, rfl⟩ rfl rfl rfl rfl rfl (by kernel_rfl) Try.func4 (by kernel_rfl)
    (of_decide_eq_true (by kernel_rfl)) (by unfold Func.isWrapper; first | (rw [if_pos (by decide +kernel)]; kernel_rfl) | (rw [if_neg (by decide +kernel)]; exact ⟨rfl, rfl⟩))
    (fun os started H enc _ => fnCountMisses_lifted os started H enc)
#print axioms fnCountMisses_holds
end Go.Proofs.Ytfmcmndhghfoeaa
