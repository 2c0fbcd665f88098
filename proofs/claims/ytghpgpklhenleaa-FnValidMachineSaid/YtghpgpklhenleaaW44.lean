/- ValidMachine answers as its model for the drawn machine, and a valid machine is valid at the beginning; no condition. -/
import Derived.Test.YtghpgpklhenleaaW43
import Derived.Test.YtghpgpklhenleaaRows
import Derived.WalkKit
import Derived.ProofKit
import Derived.OpenShut
import Derived.Carry
import Derived.ChangeSlices
namespace Go.Proofs.Ytghpgpklhenleaa
open Go.ChangeShapes Go.WideShapes Go.ChangeAt Go.WideMaps Go.WideElems Go.RowKit


/-- What is drawn: some machine whose numbers can be read; nothing that was there has changed. -/
def DrawM (w : World) (e : Ending) (w' : World) : Prop :=
  ∃ (at' : Int) (A1 : Option Addr) (n1 c1 : Nat) (A2 : Option Addr) (n2 c2 : Nat) (f1 f2 : Nat → Int), e = .returned (MV at' A1 n1 c1 A2 n2 c2) ∧ Nums w' A1 n1 f1 ∧ Nums w' A2 n2 f2 ∧ (n1 ≤ 8 ∧ n2 ≤ 8) ∧ w.grownBy w' none
set_option maxHeartbeats 1000000 in
theorem DrawValidMachine_any (A : Option Addr) (n cap : Nat) (zs : List Int) (w : World) (h : Bys (w.alloc (.cells #[.int .i64 0, .slice none 0 0, .slice none 0 0] 25)) A n cap zs) :
    Calls Try.prog 7 #[.slice A n cap] w (DrawM w) := by
  have HN := shade (newReader_any A n cap zs _ h)
  clear h
  go_enter Try.func7, Try.ntmps7
  go_wp2_with fail
  refine HN.out.mono ?_
  rintro e w1 ⟨m, rfl, hR, hb1⟩
  rw [World.size_alloc] at hR
  have hZ := (Holds5.fresh w 25 #[.int .i64 0, .slice none 0 0, .slice none 0 0]).below hb1 (by simp)
  have HR := shade hR
  have HG1 := shade (show w.grownBy w1 none from grown_same (World.grownBy_alloc _ _ _) (grown_of_below hb1))
  clear hR hb1
  go_wp2_with fail
  refine (someMachine_any HR.out (by omega)).mono ?_
  rintro e w2 ⟨at', A1, n1, c1, A2, n2, c2, f1, f2, rfl, N1, N2, hn, ⟨low1, low2⟩, hG⟩
  have hZ2 := hZ.grown hG (by intro e; injection e; omega)
  have b0 := hZ2.look 0; have b1 := hZ2.look 1; have b2 := hZ2.look 2; have t0 := hZ2.free 0; have t1 := hZ2.free 1; have t2 := hZ2.free 2
  simp at b0 b1 b2
  have hz := hZ.inside
  have HG2 := shade (grown_put (r := w.heap.size) (grown_put (r := w.heap.size) (grown_put (r := w.heap.size) (grown_then HG1.out hG (by omega)) (Nat.le_refl _) 0 (.int .i64 at')) (Nat.le_refl _) 1 (.slice A1 n1 c1)) (Nat.le_refl _) 2 (.slice A2 n2 c2))
  have M1 := shade (((N1.far (r := w.heap.size) (fun b off e => by have := low1 b off e; omega) 0 (.int .i64 at')).far (r := w.heap.size) (fun b off e => by have := low1 b off e; omega) 1 (.slice A1 n1 c1)).far (r := w.heap.size) (fun b off e => by have := low1 b off e; omega) 2 (.slice A2 n2 c2))
  have M2 := shade (((N2.far (r := w.heap.size) (fun b off e => by have := low2 b off e; omega) 0 (.int .i64 at')).far (r := w.heap.size) (fun b off e => by have := low2 b off e; omega) 1 (.slice A1 n1 c1)).far (r := w.heap.size) (fun b off e => by have := low2 b off e; omega) 2 (.slice A2 n2 c2))
  have hH := ((hZ2.put 0 (.int .i64 at')).put 1 (.slice A1 n1 c1)).put 2 (.slice A2 n2 c2)
  simp at hH
  have HH := shade hH
  clear hG N1 N2 low1 low2 hZ hZ2 hH
  go_wp2_with fail
  refine bodyPost_ret (results_cell_row rfl _ _ _ _ _ (0, 0) _ rfl HH.out Try.underlying25 rfl (by kernel_rfl)) rfl ?_
  exact ⟨at', A1, n1, c1, A2, n2, c2, f1, f2, rfl, M1.out, M2.out, hn, HG2.out⟩

theorem Bys.alloc {w : World} {A : Option Addr} {n cap : Nat} {zs : List Int} (h : Bys w A n cap zs) (o : Obj) : Bys (w.alloc o) A n cap zs := by
  refine ⟨h.fits, h.big, fun hn => ?_, h.rng⟩
  obtain ⟨b, off, hA, hb, hc⟩ := h.cells hn
  exact ⟨b, off, hA, by simp; omega, fun j hj => (World.cell?_alloc_some w _ o (by rw [hc j hj]; rfl)).trans (hc j hj)⟩


theorem vmB_at0 {at' : Int} {n1 n2 : Nat} {f1 f2 : Nat → Int} (h : vmB at' n1 n2 f1 f2 = true) : vmB 0 n1 n2 f1 f2 = true := by
  simp only [vmB, Bool.and_eq_true] at h ⊢
  exact ⟨⟨by decide, h.1.2⟩, h.2⟩
set_option maxHeartbeats 4000000 in
theorem fnValidMachine_walk (A : Option Addr) (n cap : Nat) (zs : List Int) (w : World) (hB : Bys w A n cap zs) :
    Calls Try.prog 3 #[.slice A n cap] w fun e w' => e = .returned (.bool true) ∧ Below w.heap.size w w' := by
  have HBy := shade hB
  have hcap := hB.fits
  have hbig := hB.big
  unfold maxLen at hbig
  clear hB
  by_cases hl : 1048576 < n
  · go_enter Try.func3, Try.ntmps3
    go_wp2
    go_ret
    exact ⟨rfl, by go_grown⟩
  · go_enter Try.func3, Try.ntmps3
    go_wp2_with fail
    refine (DrawValidMachine_any A n cap zs _ (HBy.out.alloc _)).mono ?_
    rintro e w1 ⟨at', A1, n1, c1, A2, n2, c2, f1, f2, rfl, N1, N2, ⟨m1, m2⟩, hG⟩
    have HG1 := shade hG
    have HN1 := shade N1
    have HN2 := shade N2
    clear hG N1 N2
    go_wp2_with fail
    rcases hv : vmB at' n1 n2 f1 f2 with _ | _
    · have HV := shade hv
      clear hv
      refine (ValidMachine_any at' _ _ n1 n2 c1 c2 f1 f2 _ (HN1.out.alloc _) (HN2.out.alloc _)).mono ?_
      rw [HV.out]
      rintro e w2 ⟨rfl, hgr⟩
      have HP := shade ((Holds5.fresh w1 25 #[.int .i64 at', .slice A1 n1 c1, .slice A2 n2 c2]).grown hgr (by intro e; cases e))
      have HG2 := shade (grown_same HG1.out (grown_same (World.grownBy_alloc _ _ _) hgr))
      have K1 := shade ((HN1.out.alloc (.cells #[.int .i64 at', .slice A1 n1 c1, .slice A2 n2 c2] 25)).grown hgr (by intro _ _ _ e; cases e))
      have K2 := shade ((HN2.out.alloc (.cells #[.int .i64 at', .slice A1 n1 c1, .slice A2 n2 c2] 25)).grown hgr (by intro _ _ _ e; cases e))
      clear hgr HN1 HN2 HG1
      have x0 := HP.out.look 0; have x1 := HP.out.look 1; have x2 := HP.out.look 2
      simp at x0 x1 x2
      go_wp2_with fail
      refine (SpecValidMachine_any at' _ _ n1 n2 c1 c2 f1 f2 _ (by omega) (by omega) K1.out K2.out).mono ?_
      rw [HV.out]
      rintro e w3 ⟨rfl, hgr⟩
      have HP3 := shade (HP.out.grown hgr (by intro e; cases e))
      have HG3 := shade (grown_same HG2.out hgr)
      have J1 := shade (K1.out.grown hgr (by intro _ _ _ e; cases e))
      have J2 := shade (K2.out.grown hgr (by intro _ _ _ e; cases e))
      clear hgr K1 K2 HG2 HP x0 x1 x2
      have x0 := HP3.out.look 0; have x1 := HP3.out.look 1; have x2 := HP3.out.look 2
      simp at x0 x1 x2
      go_wp2_with fail
      refine (SpecValidMachine_any at' _ _ n1 n2 c1 c2 f1 f2 _ (by omega) (by omega) J1.out J2.out).mono ?_
      rw [HV.out]
      rintro e w4 ⟨rfl, hgr⟩
      have HG4 := shade (grown_same HG3.out hgr)
      clear hgr
      go_wp2_with fail
      go_ret
      exact ⟨rfl, below_of_grown HG4.out⟩
    · have HV := shade hv
      have HV0 := shade (vmB_at0 hv)
      clear hv
      refine (ValidMachine_any at' _ _ n1 n2 c1 c2 f1 f2 _ (HN1.out.alloc _) (HN2.out.alloc _)).mono ?_
      rw [HV.out]
      rintro e w2 ⟨rfl, hgr⟩
      have HP := shade ((Holds5.fresh w1 25 #[.int .i64 at', .slice A1 n1 c1, .slice A2 n2 c2]).grown hgr (by intro e; cases e))
      have HG2 := shade (grown_same HG1.out (grown_same (World.grownBy_alloc _ _ _) hgr))
      have K1 := shade ((HN1.out.alloc (.cells #[.int .i64 at', .slice A1 n1 c1, .slice A2 n2 c2] 25)).grown hgr (by intro _ _ _ e; cases e))
      have K2 := shade ((HN2.out.alloc (.cells #[.int .i64 at', .slice A1 n1 c1, .slice A2 n2 c2] 25)).grown hgr (by intro _ _ _ e; cases e))
      clear hgr HN1 HN2 HG1
      have x0 := HP.out.look 0; have x1 := HP.out.look 1; have x2 := HP.out.look 2
      simp at x0 x1 x2
      go_wp2_with fail
      refine (SpecValidMachine_any at' _ _ n1 n2 c1 c2 f1 f2 _ (by omega) (by omega) K1.out K2.out).mono ?_
      rw [HV.out]
      rintro e w3 ⟨rfl, hgr⟩
      have HP3 := shade (HP.out.grown hgr (by intro e; cases e))
      have HG3 := shade (grown_same HG2.out hgr)
      have J1 := shade (K1.out.grown hgr (by intro _ _ _ e; cases e))
      have J2 := shade (K2.out.grown hgr (by intro _ _ _ e; cases e))
      clear hgr K1 K2 HG2 HP x0 x1 x2
      have x0 := HP3.out.look 0; have x1 := HP3.out.look 1; have x2 := HP3.out.look 2
      simp at x0 x1 x2
      go_wp2_with fail
      refine (ValidMachine_any 0 _ _ n1 n2 c1 c2 f1 f2 _ J1.out J2.out).mono ?_
      rw [HV0.out]
      rintro e w4 ⟨rfl, hgr⟩
      have HG4 := shade (grown_same HG3.out hgr)
      clear hgr
      go_wp2_with fail
      go_ret
      exact ⟨rfl, below_of_grown HG4.out⟩


set_option maxRecDepth 100000 in
theorem fnValidMachine_lifted (os : Os) (started : os.Started) (H : Type) (enc : TypeId × Value → H) :
    ReturnsInHanded {} Try.checked os 3 .any (Rows.fnValidMachineSpec.pre6 enc Try.prog Try.f3 Rows.fnValidMachineRow.domain false) (Rows.fnValidMachineSpec.post enc Try.prog Try.f3 false true false false) := by
  refine returnsInHanded_of_change (C := Try.checked) own started (by kernel_rfl) Try.func3
    (ChangeSpec.witness6 (enc := enc) (C := Try.checked) false ⟨#[], #[.slice none 0 0], []⟩ 8 (by kernel_rfl) (by kernel_rfl) (by kernel_rfl) (by kernel_rfl)) ?_
  intro W base args ds gs before hval0 hW hcnd _
  have hval : ∀ (j : Nat) t v, Try.f3.params[j]? = some t → args[j]? = some v → Value.okWide Try.prog W .any base t v := hval0
  have hW' := hW
  obtain ⟨p, q, hA0, hV, rfl, hfz, hnd⟩ := hW
  have hA : DataW.TrodAll enc Try.prog W 0 (fun _ => true) true Try.f3.params.toList args.toList ds p := hA0
  rw [Try.params3] at hA hval
  have hlt := hW'.lt
  obtain ⟨v0, d0, rfl, rfl, h0⟩ := trodAll_one hA
  obtain ⟨rfl, rfl⟩ := trodVars_none hV
  clear hA0 hval0
  have h0' := h0
  obtain ⟨A, n, cap, zs, rfl, hBy⟩ := open_bytes (hval 0 22 v0 rfl rfl) h0
  refine (fnValidMachine_walk A n cap zs W hBy).mono fun e W' ⟨he, hb⟩ => ?_
  subst he
  exact ⟨_, rfl, _, _, _, [] ++ [], _, [], hW', trodAll_mk1 (shut_bool Try.underlying4 _), trodAll_mk1 (Below.trod laidOut (by kernel_rfl) (of_decide_eq_true (by kernel_rfl)) h0' hb (fun x hx => hlt x (List.mem_append_left _ hx))), rfl, hb.frame _, fun h => by cases h⟩
/-- The statement of FnValidMachine. -/
theorem fnValidMachine_holds : Rows.FnValidMachineSaid :=
  OpenClaim.holds_of_wide 3 Try.f3 rfl rfl rfl rfl rfl rfl rfl ⟨rfl, rfl, rfl, rfl, rfl⟩ rfl rfl rfl rfl rfl (by kernel_rfl) Try.func3 (by kernel_rfl)
    (of_decide_eq_true (by kernel_rfl)) (by unfold Func.isWrapper; first | (rw [if_pos (by decide +kernel)]; kernel_rfl) | (rw [if_neg (by decide +kernel)]; exact ⟨rfl, rfl⟩))
    (fun os started H enc _ => fnValidMachine_lifted os started H enc)
#print axioms fnValidMachine_holds

end Go.Proofs.Ytghpgpklhenleaa
