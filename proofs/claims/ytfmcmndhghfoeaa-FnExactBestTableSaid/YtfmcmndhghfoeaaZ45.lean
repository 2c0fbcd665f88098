/- BestTable answers as its model at every row of jumps and size, and writes into no argument; no condition. -/
import Derived.Test.YtfmcmndhghfoeaaZ40
import Derived.Test.YtfmcmndhghfoeaaZ35
namespace Go.Proofs.Ytfmcmndhghfoeaa
open Go.ChangeShapes Go.WideShapes Go.ChangeAt Go.WideMaps Go.WideElems Go.RowKit
set_option linter.unusedSimpArgs false
set_option maxRecDepth 100000 in
set_option maxHeartbeats 4000000 in
theorem fnExactBestTable_walk (AJ : Option Addr) (m cj : Nat) (J : Nat → Bool) (x1 : Int) (w : World) (hj : Bols w AJ m J) (hm : m ≤ 9223372036854775807) :
    Calls Try.prog 12 #[.slice AJ m cj, .int .i64 x1] w fun e w' => e = .returned (.bool true) ∧ Below w.heap.size w w' := by
  have H := shade hj
  clear hj
  obtain ⟨v, HSp, HIm⟩ : ∃ v : Int, Hid (∀ (A : Option Addr) (c : Nat) (W : World), Bols W A m J → Calls Try.prog 28 #[.slice A m c, .int .i64 x1] W (fun e w' => e = .returned (.int .i64 v) ∧ W.grownBy w' none)) ∧ Hid (∀ (A : Option Addr) (c : Nat) (W : World), Bols W A m J → Calls Try.prog 23 #[.slice A m c, .int .i64 x1] W (fun e w' => e = .returned (.int .i64 v) ∧ W.grownBy w' none)) :=
    ⟨bestV J m x1, shade (fun A c W h => SBest_any A m c J x1 W h), shade (fun A c W h => IBestTable_any A m c J x1 W h)⟩
  by_cases hm0 : 1048576 < m
  · go_enter Try.func12, Try.ntmps12
    go_wp2_with fail
    go_ret
    exact ⟨rfl, Below.refl _ _⟩
  · have hmb : m ≤ 1048576 := by omega
    go_enter Try.func12, Try.ntmps12
    go_wp2_with fail
    refine (toBoolS_any AJ m cj J _ hmb H.out).mono ?_
    rintro e w1 ⟨rfl, ho, hg⟩
    have HB1 := shade ho.bols; have HG1 := shade hg
    clear ho hg
    go_wp2_with fail
    refine (HSp.out _ _ _ HB1.out).mono ?_
    rintro e w2 ⟨rfl, hg⟩
    have HG2 := shade (grown_same HG1.out hg)
    clear hg HB1 HG1
    go_wp2_with fail
    refine (toBoolS_any AJ m cj J _ hmb (H.out.on HG2.out)).mono ?_
    rintro e w3 ⟨rfl, ho, hg⟩
    have HX3 := shade ho.bols; have HG3 := shade (grown_same HG2.out hg)
    clear ho hg HG2
    go_wp2_with fail
    refine (HIm.out _ _ _ HX3.out).mono ?_
    rintro e w4 ⟨rfl, hg⟩
    have HX4 := shade (HX3.out.on hg); have HG4 := shade (grown_same HG3.out hg)
    clear hg HX3 HG3
    go_wp2_with fail
    refine (toBoolS_any AJ m cj J _ hmb (H.out.on HG4.out)).mono ?_
    rintro e w5 ⟨rfl, ho, hg⟩
    have HY5 := shade ho.bols; have HX5 := shade (HX4.out.on hg); have HG5 := shade (grown_same HG4.out hg)
    clear ho hg HX4 HG4
    go_wp2_with fail
    refine (eqBoolS_any _ _ m m m J J _ hm HX5.out HY5.out (fun _ _ => rfl)).mono ?_
    rintro e w6 ⟨rfl, km, rfl⟩
    have HG6 := shade (grown_drewN HG5.out km)
    clear HX5 HY5 HG5
    go_wp2_with fail
    go_ret
    exact ⟨rfl, below_of_grown HG6.out⟩

set_option maxRecDepth 100000 in
theorem fnExactBestTable_lifted (os : Os) (started : os.Started) (H : Type) (enc : TypeId × Value → H) :
    ReturnsInHanded {} Try.checked os 12 .any (Rows.fnExactBestTableSpec.pre6 enc Try.prog Try.f12 Rows.fnExactBestTableRow.domain false) (Rows.fnExactBestTableSpec.post enc Try.prog Try.f12 false true false false) := by
  refine returnsInHanded_of_change (C := Try.checked) own started (by kernel_rfl) Try.func12
    (ChangeSpec.witness6 (enc := enc) (C := Try.checked) false ⟨#[], #[.slice none 0 0, .int .i64 0], []⟩ 8 (by kernel_rfl) (by kernel_rfl) (by kernel_rfl) (by kernel_rfl)) ?_
  intro W base args ds gs before hval0 hW hcnd _
  have hval : ∀ (j : Nat) t v, Try.f12.params[j]? = some t → args[j]? = some v → Value.okWide Try.prog W .any base t v := hval0
  have hW' := hW
  obtain ⟨p, q, hA0, hV, rfl, hfz, hnd⟩ := hW
  have hA : DataW.TrodAll enc Try.prog W 0 (fun _ => true) true Try.f12.params.toList args.toList ds p := hA0
  rw [Try.params12] at hA hval
  have hlt := hW'.lt
  obtain ⟨v0, v1, d0, d1, pA, pB, rfl, rfl, rfl, h0, h1⟩ := trodAll_two hA
  obtain ⟨rfl, rfl⟩ := trodVars_none hV
  clear hA0 hval0
  have h0' := h0
  have h1' := h1
  obtain ⟨AJ, m, cj, J, rfl, hJo, hJn⟩ := open_bols (hval 0 23 v0 rfl rfl) h0
  obtain ⟨x1, rfl, rfl, rfl, wx1⟩ := open_int Try.underlying3 (hval 1 3 v1 rfl rfl) h1
  refine (fnExactBestTable_walk AJ m cj J x1 W hJo hJn).mono fun e W' ⟨he, hb⟩ => ?_
  subst he
  exact ⟨_, rfl, _, _, _, [] ++ [], _, [], hW', trodAll_mk1 (shut_bool Try.underlying4 _), trodAll_mk2 (Below.trod laidOut (by kernel_rfl) (of_decide_eq_true (by kernel_rfl)) h0' hb (fun x hx => hlt x (List.mem_append_left _ (List.mem_append_left _ hx)))) (Below.trod laidOut (by kernel_rfl) (of_decide_eq_true (by kernel_rfl)) h1' hb (fun x hx => by cases hx)), rfl, hb.frame _, fun h => by cases h⟩
/-- The statement of FnExactBestTable. -/
theorem fnExactBestTable_holds : Rows.FnExactBestTableSaid :=
  OpenClaim.holds_of_wide 12 Try.f12 rfl rfl rfl rfl rfl rfl rfl ⟨rfl, rfl, rfl, rfl, rfl⟩ rfl rfl rfl rfl rfl (by kernel_rfl) Try.func12 (by kernel_rfl)
    (of_decide_eq_true (by kernel_rfl)) (by unfold Func.isWrapper; first | (rw [if_pos (by decide +kernel)]; kernel_rfl) | (rw [if_neg (by decide +kernel)]; exact ⟨rfl, rfl⟩))
    (fun os started H enc _ => fnExactBestTable_lifted os started H enc)
#print axioms fnExactBestTable_holds
end Go.Proofs.Ytfmcmndhghfoeaa
