/- The new machine is what its model says, is valid, is at 0 and holds noughts alone; no condition. -/
import Derived.Test.YtghpgpklhenleaaW39
import Derived.Test.YtghpgpklhenleaaW36
import Derived.Test.YtghpgpklhenleaaRows
import Derived.WalkKit
import Derived.ProofKit
import Derived.OpenShut
import Derived.Carry
import Derived.ChangeSlices
namespace Go.Proofs.Ytghpgpklhenleaa
open Go.ChangeShapes Go.WideShapes Go.ChangeAt Go.WideMaps Go.WideElems Go.RowKit


theorem cells5 : Try.prog.cellsOf 5 = 1 := by kernel_rfl
/-- Bytes that came in. -/
structure Bys (w : World) (A : Option Addr) (n cap : Nat) (zs : List Int) : Prop where
  fits : n ≤ cap
  big : cap ≤ maxLen
  cells : 0 < n → ∃ b off, A = some ⟨b, off, none⟩ ∧ b < w.heap.size ∧ ∀ j, j < n → w.cell? ⟨b, off + j, none⟩ = some (.int .u8 (zs.getD j 0))
  rng : ∀ j, j < n → 0 ≤ zs.getD j 0 ∧ zs.getD j 0 ≤ 255
set_option maxRecDepth 100000 in
/-- Bytes that came in, opened. -/
theorem open_bytes {H : Type} {enc : TypeId × Value → H} {W : World} {base : Nat} {v1 : Value} {d1 : DataW H} {p1 : List MemPlace} (hval : Value.okWide Try.prog W .any base 22 v1) (h1 : DataW.Trod enc Try.prog W 0 (fun _ => true) true 22 v1 d1 p1) :
    ∃ A n cap zs, v1 = .slice A n cap ∧ Bys W A n cap zs := by
  obtain ⟨a1, len, cap, rfl⟩ := okWide_slice Try.underlying22 hval
  obtain ⟨fuel, hf⟩ := h1
  rcases open_ints Try.underlying22 Try.underlying5 cells5 hf with ⟨hcs, hx⟩ | ⟨a, len', cap', zs, hcs, _, hl, hm, hz, hx, hcell, hwz⟩
  · simp [Value.cells] at hcs
    obtain ⟨rfl, rfl, rfl⟩ := hcs
    exact ⟨none, 0, 0, [], rfl, Nat.le_refl _, Nat.zero_le _, fun h => absurd h (by omega), fun j h => by omega⟩
  · simp [Value.cells] at hcs
    obtain ⟨rfl, rfl, rfl⟩ := hcs
    simp only [if_true] at hz
    refine ⟨some a, len, cap, zs, rfl, hl, hm, fun hn => ?_, fun j hj => ?_⟩
    · obtain ⟨ab, ao, spot⟩ := a
      have hspot : spot = none := by simpa [Addr.add] using World.cell?_spot (hcell 0 (by omega))
      subst hspot
      refine ⟨ab, ao, rfl, ?_, fun j hj => ?_⟩
      · have := hcell 0 (by omega)
        rw [Addr.add_lit] at this
        exact World.block_lt_of_cell? W _ this
      · have := hcell j (by omega)
        rw [Addr.add_lit] at this
        exact this
    · have := range_u8 hwz j
      rwa [← List.getD_eq_getElem?_getD] at this
set_option maxHeartbeats 2000000 in
theorem equalMachine_any (at' : Int) (A1 A2 B1 B2 : Option Addr) (n1 n2 c1 c2 d1 d2 : Nat) (f1 f2 : Nat → Int) (w : World) (hn1 : n1 ≤ 9223372036854775807) (hn2 : n2 ≤ 9223372036854775807)
    (h1 : Nums w A1 n1 f1) (h2 : Nums w A2 n2 f2) (k1 : Nums w B1 n1 f1) (k2 : Nums w B2 n2 f2) :
    Calls Try.prog 11 #[MV at' A1 n1 c1 A2 n2 c2, MV at' B1 n1 d1 B2 n2 d2] w fun e w' => e = .returned (.bool true) ∧ w.grownBy w' none := by
  have H1 := shade h1
  have H2 := shade h2
  have K1 := shade k1
  have K2 := shade k2
  clear h1 h2 k1 k2
  go_enter Try.func11, Try.ntmps11
  go_wp2_with fail
  refine (equalInts_any A1 B1 c1 d1 n1 f1 f1 _ hn1 ((H1.out.alloc _).alloc _) ((K1.out.alloc _).alloc _) (fun _ _ => rfl)).mono ?_
  rintro e w1 ⟨rfl, m1, rfl⟩
  go_wp2_with fail
  refine (equalInts_any A2 B2 c2 d2 n2 f2 f2 _ hn2 (((H2.out.alloc _).alloc _).drewN m1) (((K2.out.alloc _).alloc _).drewN m1) (fun _ _ => rfl)).mono ?_
  rintro e w2 ⟨rfl, m2, rfl⟩
  go_wp2_with fail
  go_ret
  exact ⟨rfl, grown_drewN (grown_same (World.grownBy_alloc _ _ _) (World.grownBy_alloc _ _ _)) (m1 + m2)⟩
set_option maxHeartbeats 1000000 in
theorem lawOnes_0 (w : World) : Calls Try.prog 13 #[.int .i64 0] w fun e w' => e = .returned (.int .i64 0) ∧ w = w' := by
  go_enter Try.func13, Try.ntmps13
  go_wp2
  refine wp_loop_rounds 2 ?_
  iterate 2 (try any_goals (rw [rounds_succ]; go_wp2))
  go_ret
  exact ⟨rfl, rfl⟩
theorem keep4 {w w' : World} (hg : w.grownBy w' none) {a b : Nat} {x0 x1 x2 y0 : Value}
    (h : w.cell? ⟨a, 0, none⟩ = some x0 ∧ w.cell? ⟨a, 1, none⟩ = some x1 ∧ w.cell? ⟨a, 2, none⟩ = some x2 ∧ w.cell? ⟨b, 0, none⟩ = some y0) :
    w'.cell? ⟨a, 0, none⟩ = some x0 ∧ w'.cell? ⟨a, 1, none⟩ = some x1 ∧ w'.cell? ⟨a, 2, none⟩ = some x2 ∧ w'.cell? ⟨b, 0, none⟩ = some y0 :=
  ⟨hg.cell h.1 (by simp), hg.cell h.2.1 (by simp), hg.cell h.2.2.1 (by simp), hg.cell h.2.2.2 (by simp)⟩
theorem vmB_new : vmB 0 4 8 (fun _ => 0) (fun _ => 0) = true := by decide +kernel
set_option maxHeartbeats 4000000 in
theorem fnNewMachine_walk (A : Option Addr) (n cap : Nat) (w : World) (_hcap : n ≤ cap) (_hbig : cap ≤ 9223372036854775807) :
    Calls Try.prog 4 #[.slice A n cap] w fun e w' => e = .returned (.bool true) ∧ Below w.heap.size w w' := by
  by_cases hl : 1048576 < n
  · go_enter Try.func4, Try.ntmps4
    go_wp2
    go_ret
    exact ⟨rfl, by go_grown⟩
  go_enter Try.func4, Try.ntmps4
  go_wp2_with fail
  refine (newMachine_any _).mono ?_
  rintro e w1 ⟨g1, c1, g2, c2, rfl, hne, ho1, ho2, hgr⟩
  obtain ⟨W2, hW2⟩ : ∃ W2 : World, w1.alloc (.cells #[.int .i64 0, .slice (some ⟨g1, 0, none⟩) 4 c1, .slice (some ⟨g2, 0, none⟩) 8 c2] 25) = W2 := ⟨_, rfl⟩
  have hP := Holds5.fresh w1 25 #[.int .i64 0, .slice (some ⟨g1, 0, none⟩) 4 c1, .slice (some ⟨g2, 0, none⟩) 8 c2]
  have hA := World.grownBy_alloc w1 (.cells #[.int .i64 0, .slice (some ⟨g1, 0, none⟩) 4 c1, .slice (some ⟨g2, 0, none⟩) 8 c2] 25) none
  rw [hW2] at hP hA
  have hN0 := grown_drewN (grown_refl W2 none) 1
  have hm := (ho2.on (grown_same hA hN0)).nums.cell (j := 0) (by omega)
  rw [Nat.add_zero] at hm
  have S0 := shade (show W2.drew.cell? ⟨w1.heap.size, 0, none⟩ = some (.int .i64 0) ∧ W2.drew.cell? ⟨w1.heap.size, 1, none⟩ = some (.slice (some ⟨g1, 0, none⟩) 4 c1) ∧ W2.drew.cell? ⟨w1.heap.size, 2, none⟩ = some (.slice (some ⟨g2, 0, none⟩) 8 c2) ∧ W2.drew.cell? ⟨g2, 0, none⟩ = some (.int .i64 0) from
    ⟨cell_drew ((hP.look 0).trans rfl), cell_drew ((hP.look 1).trans rfl), cell_drew ((hP.look 2).trans rfl), hm⟩)
  have N1 := shade (ho1.on (grown_same hA hN0)).nums
  have N2 := shade (ho2.on (grown_same hA hN0)).nums
  have HG := shade (grown_same hgr (grown_same hA hN0))
  have HW2 := shade hW2
  clear hW2 hP hA hN0 hm ho1 ho2 hgr
  go_wp2_with fail
  rw [HW2.out]
  clear HW2
  go_region_held3 (fun w' => w'.cell? ⟨w1.heap.size, 0, none⟩ = some (.int .i64 0) ∧ w'.cell? ⟨w1.heap.size, 1, none⟩ = some (.slice (some ⟨g1, 0, none⟩) 4 c1) ∧ w'.cell? ⟨w1.heap.size, 2, none⟩ = some (.slice (some ⟨g2, 0, none⟩) 8 c2) ∧ w'.cell? ⟨g2, 0, none⟩ = some (.int .i64 0)) (first | exact S0.out | exact S3.out | exact S4.out | exact S5.out)
    (first
      | (go_at_call 12; refine (specNewMachine_any _).mono ?_; rintro e w3 ⟨h1, d1, h2, d2, rfl, hne3, hp1, hp2, hgr3⟩; have S3 := shade (keep4 hgr3 S0.out); have M1 := shade (N1.out.grown hgr3 (by intro _ _ _ e; cases e)); have M2 := shade (N2.out.grown hgr3 (by intro _ _ _ e; cases e)); have HG3 := shade (grown_same HG.out hgr3); have K1 := shade hp1.nums; have K2 := shade hp2.nums; clear hp1 hp2 hgr3)
      | (go_at_call 11; refine (equalMachine_any 0 _ _ _ _ 4 8 _ _ _ _ (fun _ => 0) (fun _ => 0) _ (by omega) (by omega) M1.out M2.out K1.out K2.out).mono ?_; rintro e w4 ⟨rfl, hgr4⟩; have S4 := shade (keep4 hgr4 S3.out); have L1 := shade (M1.out.grown hgr4 (by intro _ _ _ e; cases e)); have L2 := shade (M2.out.grown hgr4 (by intro _ _ _ e; cases e)); have HG4 := shade (grown_same HG3.out hgr4); clear hgr4)
      | (go_at_call 8; refine (ValidMachine_any 0 _ _ 4 8 _ _ (fun _ => 0) (fun _ => 0) _ L1.out L2.out).mono ?_; rw [vmB_new]; rintro e w5 ⟨rfl, hgr5⟩; have S5 := shade (keep4 hgr5 S4.out); have HG5 := shade (grown_same HG4.out hgr5); clear hgr5)
      | (go_at_call 13; refine (lawOnes_0 _).mono ?_; rintro e w6 ⟨rfl, rfl⟩))
  rename_i hHeld
  clear hHeld
  go_wp2_with fail
  go_ret
  exact ⟨rfl, below_of_grown HG5.out⟩


set_option maxRecDepth 100000 in
theorem fnNewMachine_lifted (os : Os) (started : os.Started) (H : Type) (enc : TypeId × Value → H) :
    ReturnsInHanded {} Try.checked os 4 .any (Rows.fnNewMachineSpec.pre6 enc Try.prog Try.f4 Rows.fnNewMachineRow.domain false) (Rows.fnNewMachineSpec.post enc Try.prog Try.f4 false true false false) := by
  refine returnsInHanded_of_change (C := Try.checked) own started (by kernel_rfl) Try.func4
    (ChangeSpec.witness6 (enc := enc) (C := Try.checked) false ⟨#[], #[.slice none 0 0], []⟩ 8 (by kernel_rfl) (by kernel_rfl) (by kernel_rfl) (by kernel_rfl)) ?_
  intro W base args ds gs before hval0 hW hcnd _
  have hval : ∀ (j : Nat) t v, Try.f4.params[j]? = some t → args[j]? = some v → Value.okWide Try.prog W .any base t v := hval0
  have hW' := hW
  obtain ⟨p, q, hA0, hV, rfl, hfz, hnd⟩ := hW
  have hA : DataW.TrodAll enc Try.prog W 0 (fun _ => true) true Try.f4.params.toList args.toList ds p := hA0
  rw [Try.params4] at hA hval
  have hlt := hW'.lt
  obtain ⟨v0, d0, rfl, rfl, h0⟩ := trodAll_one hA
  obtain ⟨rfl, rfl⟩ := trodVars_none hV
  clear hA0 hval0
  have h0' := h0
  obtain ⟨A, n, cap, zs, rfl, hBy⟩ := open_bytes (hval 0 22 v0 rfl rfl) h0
  refine (fnNewMachine_walk A n cap W hBy.fits (by have := hBy.big; unfold maxLen at this; omega)).mono fun e W' ⟨he, hb⟩ => ?_
  subst he
  exact ⟨_, rfl, _, _, _, [] ++ [], _, [], hW', trodAll_mk1 (shut_bool Try.underlying4 _), trodAll_mk1 (Below.trod laidOut (by kernel_rfl) (of_decide_eq_true (by kernel_rfl)) h0' hb (fun x hx => hlt x (List.mem_append_left _ hx))), rfl, hb.frame _, fun h => by cases h⟩
/-- The statement of FnNewMachine. -/
theorem fnNewMachine_holds : Rows.FnNewMachineSaid :=
  OpenClaim.holds_of_wide 4 Try.f4 rfl rfl rfl rfl rfl rfl rfl ⟨rfl, rfl, rfl, rfl, rfl⟩ rfl rfl rfl rfl rfl (by kernel_rfl) Try.func4 (by kernel_rfl)
    (of_decide_eq_true (by kernel_rfl)) (by unfold Func.isWrapper; first | (rw [if_pos (by decide +kernel)]; kernel_rfl) | (rw [if_neg (by decide +kernel)]; exact ⟨rfl, rfl⟩))
    (fun os started H enc _ => fnNewMachine_lifted os started H enc)
#print axioms fnNewMachine_holds

end Go.Proofs.Ytghpgpklhenleaa
