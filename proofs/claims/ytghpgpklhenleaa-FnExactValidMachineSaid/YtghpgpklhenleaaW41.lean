/- ValidMachine answers as its model at every machine, whatever the machine; no condition. -/
import Derived.Test.YtghpgpklhenleaaW40
import Derived.Test.YtghpgpklhenleaaW36
import Derived.Test.YtghpgpklhenleaaRows
import Derived.WalkKit
import Derived.ProofKit
import Derived.OpenShut
import Derived.Carry
import Derived.ChangeSlices
namespace Go.Proofs.Ytghpgpklhenleaa
open Go.ChangeShapes Go.WideShapes Go.ChangeAt Go.WideMaps Go.WideElems Go.RowKit


theorem cells3 : Try.prog.cellsOf 3 = 1 := by kernel_rfl
theorem cellsI : Try.prog.cellsOf 23 = 1 := by kernel_rfl
theorem cellsL : Try.prog.cellsOf 32 = 3 := by kernel_rfl
set_option maxRecDepth 100000 in
/-- A machine that came in, opened. -/
theorem open_machine {H : Type} {enc : TypeId × Value → H} {W : World} {r : Reach} {b0 : Nat} {v : Value} {dt : DataW H} {ps : List MemPlace}
    (hv : Value.okWide Try.prog W r b0 32 v) (h : DataW.Trod enc Try.prog W 0 (fun _ => true) true 32 v dt ps) :
    ∃ (at' : Int) (A1 : Option Addr) (n1 c1 : Nat) (f1 : Nat → Int) (A2 : Option Addr) (n2 c2 : Nat) (f2 : Nat → Int), v = MV at' A1 n1 c1 A2 n2 c2 ∧ Nums W A1 n1 f1 ∧ Nums W A2 n2 f2 ∧ n1 ≤ 9223372036854775807 ∧ n2 ≤ 9223372036854775807 := by
  obtain ⟨cs, rfl, hsz⟩ := okWide_struct Try.underlying32 hv
  rw [cellsL] at hsz
  obtain ⟨fuel, hf⟩ := h
  obtain ⟨xs, n, _, hx, _, hlen, hfd⟩ := DataW.trod_struct Try.underlying32 hf
  obtain ⟨l⟩ := cs
  have hs : ∀ (c : Value) (x : DataW H × List MemPlace), DataW.trod enc Try.prog W 0 (fun _ => true) true n 23 [c] = some x → ∃ A m k f, c = .slice A m k ∧ Nums W A m f ∧ m ≤ 9223372036854775807 := by
    intro c x hc
    rcases open_ints Try.underlying23 Try.underlying3 cells3 hc with ⟨hcs, hx⟩ | ⟨a, len, cap, zs, hcs, _, hl, hm, hz, hx, hcell, hwz⟩
    · simp at hcs
      exact ⟨none, 0, 0, fun _ => 0, hcs, .inl rfl, by omega⟩
    · simp at hcs
      simp only [if_true] at hz
      unfold maxLen at hm
      refine ⟨some a, len, cap, fun j => zs.getD j 0, hcs, ?_, by omega⟩
      by_cases h0 : len = 0
      · exact .inl h0
      · obtain ⟨ab, ao, spot⟩ := a
        have hspot : spot = none := by simpa [Addr.add] using World.cell?_spot (hcell 0 (by omega))
        subst hspot
        refine .inr ⟨ab, ao, rfl, ?_, fun j hj => ?_⟩
        · have := hcell 0 (by omega)
          rw [Addr.add_lit] at this
          exact World.block_lt_of_cell? W _ this
        · have := hcell j (by omega)
          rw [Addr.add_lit] at this
          exact this
  match l, hsz, xs, hlen with
  | [x0, x1, x2], _, [y0, y1, y2], _ =>
    have g0 := hfd 0 _ rfl
    have g1 := hfd 1 _ rfl
    have g2 := hfd 2 _ rfl
    simp [Value.cells, cells3, cellsI] at g0 g1 g2
    obtain ⟨at', e0, _⟩ := DataW.trod_int Try.underlying3 g0
    obtain ⟨A1, n1, c1, f1, rfl, N1, m1⟩ := hs _ _ g1
    obtain ⟨A2, n2, c2, f2, rfl, N2, m2⟩ := hs _ _ g2
    simp at e0
    subst e0
    exact ⟨at', A1, n1, c1, f1, A2, n2, c2, f2, rfl, N1, N2, m1, m2⟩


/-- The machine that came in, in its box at B; its numbers can be read; nothing that was there has changed. -/
structure EX (w wr : World) (B : Nat) (at' : Int) (A1 : Option Addr) (n1 c1 : Nat) (A2 : Option Addr) (n2 c2 : Nat) (f1 f2 : Nat → Int) : Prop where
  box : Holds5 wr B 32 #[.int .i64 at', .slice A1 n1 c1, .slice A2 n2 c2]
  N1 : Nums wr A1 n1 f1
  N2 : Nums wr A2 n2 f2
  low : w.grownBy wr none
theorem EX.grown {w wr w2 : World} {B : Nat} {at' : Int} {A1 : Option Addr} {n1 c1 : Nat} {A2 : Option Addr} {n2 c2 : Nat} {f1 f2 : Nat → Int} (h : EX w wr B at' A1 n1 c1 A2 n2 c2 f1 f2) (hg : wr.grownBy w2 none) : EX w w2 B at' A1 n1 c1 A2 n2 c2 f1 f2 :=
  ⟨h.box.grown hg (by intro e; cases e), h.N1.grown hg (by intro _ _ _ e; cases e), h.N2.grown hg (by intro _ _ _ e; cases e), grown_same h.low hg⟩
theorem keep6 {w w' : World} (hg : w.grownBy w' none) {a b : Nat} {x0 x1 x2 y0 y1 y2 : Value}
    (h : w.cell? ⟨a, 0, none⟩ = some x0 ∧ w.cell? ⟨a, 1, none⟩ = some x1 ∧ w.cell? ⟨a, 2, none⟩ = some x2 ∧ w.cell? ⟨b, 0, none⟩ = some y0 ∧ w.cell? ⟨b, 1, none⟩ = some y1 ∧ w.cell? ⟨b, 2, none⟩ = some y2) :
    w'.cell? ⟨a, 0, none⟩ = some x0 ∧ w'.cell? ⟨a, 1, none⟩ = some x1 ∧ w'.cell? ⟨a, 2, none⟩ = some x2 ∧ w'.cell? ⟨b, 0, none⟩ = some y0 ∧ w'.cell? ⟨b, 1, none⟩ = some y1 ∧ w'.cell? ⟨b, 2, none⟩ = some y2 :=
  ⟨hg.cell h.1 (by simp), hg.cell h.2.1 (by simp), hg.cell h.2.2.1 (by simp), hg.cell h.2.2.2.1 (by simp), hg.cell h.2.2.2.2.1 (by simp), hg.cell h.2.2.2.2.2 (by simp)⟩
set_option maxHeartbeats 4000000 in
theorem exactValidMachine_walk (at' : Int) (A1 : Option Addr) (n1 c1 : Nat) (A2 : Option Addr) (n2 c2 : Nat) (f1 f2 : Nat → Int) (w : World) (h1 : Nums w A1 n1 f1) (h2 : Nums w A2 n2 f2) (hn1 : n1 ≤ 9223372036854775807) (hn2 : n2 ≤ 9223372036854775807) :
    Calls Try.prog 5 #[MV at' A1 n1 c1 A2 n2 c2] w fun e w' => e = .returned (.bool true) ∧ Below w.heap.size w w' := by
  have HSZ := shade (fun W => szMachine_any at' A1 n1 c1 A2 n2 c2 1048576 W (by omega) (by omega) hn1 hn2)
  by_cases hbig : (1048576 : Int) - n1 < 0 ∨ (1048576 : Int) - n1 - n2 < 0
  · obtain ⟨x, hx, hx0⟩ : ∃ x : Int, (if (1048576 : Int) - n1 < 0 then -1 else if (1048576 : Int) - n1 - n2 < 0 then -1 else (1048576 : Int) - n1 - n2) = x ∧ x < 0 := ⟨_, rfl, by
      split
      · omega
      · split <;> omega⟩
    rw [hx] at HSZ
    clear hx hbig h1 h2
    go_enter Try.func5, Try.ntmps5
    go_wp2_with fail
    refine (HSZ.out _).mono ?_
    rintro e w1 ⟨rfl, hgr⟩
    have HG := shade (grown_same (World.grownBy_alloc _ _ _) hgr)
    clear hgr
    go_wp2_with fail
    go_ret
    exact ⟨rfl, below_of_grown HG.out⟩
  · obtain ⟨x, hx, hx0⟩ : ∃ x : Int, (if (1048576 : Int) - n1 < 0 then -1 else if (1048576 : Int) - n1 - n2 < 0 then -1 else (1048576 : Int) - n1 - n2) = x ∧ 0 ≤ x := ⟨_, rfl, by
      split
      · omega
      · split <;> omega⟩
    rw [hx] at HSZ
    have m1 : n1 ≤ 1048576 := by omega
    have m2 : n2 ≤ 1048576 := by omega
    clear hx hbig
    have HE0 := shade (show EX w (w.alloc (.cells #[.int .i64 at', .slice A1 n1 c1, .slice A2 n2 c2] 32)) w.heap.size at' A1 n1 c1 A2 n2 c2 f1 f2 from ⟨Holds5.fresh _ _ _, h1.alloc _, h2.alloc _, World.grownBy_alloc _ _ _⟩)
    clear h1 h2
    go_enter Try.func5, Try.ntmps5
    go_wp2_with fail
    refine (HSZ.out _).mono ?_
    rintro e w1 ⟨rfl, hgr⟩
    have HE1 := shade (HE0.out.grown hgr)
    clear hgr HE0
    have q0 := HE1.out.box.look 0; have q1 := HE1.out.box.look 1; have q2 := HE1.out.box.look 2
    simp at q0 q1 q2
    go_wp2_with fail
    refine (toMachine_any at' A1 A2 n1 n2 c1 c2 f1 f2 _ m1 m2 HE1.out.N1 HE1.out.N2).mono ?_
    rintro e w2 ⟨g1, k1, g2, k2, rfl, hne, ho1, ho2, hgr⟩
    have HE2 := shade (HE1.out.grown hgr)
    have HO1 := shade ho1.nums
    have HO2 := shade ho2.nums
    clear hgr HE1 q0 q1 q2 ho1 ho2
    go_wp2_with fail
    refine (SpecValidMachine_any at' _ _ n1 n2 k1 k2 f1 f2 _ hn1 hn2 HO1.out HO2.out).mono ?_
    rintro e w3 ⟨rfl, hgr⟩
    have HE3 := shade (HE2.out.grown hgr)
    clear hgr HE2 HO1 HO2
    generalize hv : vmB at' n1 n2 f1 f2 = v
    have HV := shade hv
    clear hv
    have q0 := HE3.out.box.look 0; have q1 := HE3.out.box.look 1; have q2 := HE3.out.box.look 2
    simp at q0 q1 q2
    go_wp2_with fail
    refine (toMachine_any at' A1 A2 n1 n2 c1 c2 f1 f2 _ m1 m2 HE3.out.N1 HE3.out.N2).mono ?_
    rintro e w4 ⟨r1, l1, r2, l2, rfl, hne2, ho1, ho2, hgr⟩
    have HE4 := shade (HE3.out.grown (grown_same hgr (World.grownBy_alloc _ (.cells #[.int .i64 at', .slice (some ⟨r1, 0, none⟩) n1 l1, .slice (some ⟨r2, 0, none⟩) n2 l2] 25) none)))
    have HO1 := shade (ho1.nums.alloc (.cells #[.int .i64 at', .slice (some ⟨r1, 0, none⟩) n1 l1, .slice (some ⟨r2, 0, none⟩) n2 l2] 25))
    have HO2 := shade (ho2.nums.alloc (.cells #[.int .i64 at', .slice (some ⟨r1, 0, none⟩) n1 l1, .slice (some ⟨r2, 0, none⟩) n2 l2] 25))
    clear hgr HE3 q0 q1 q2 ho1 ho2
    go_wp2_with fail
    refine (ValidMachine_any at' _ _ n1 n2 l1 l2 f1 f2 _ HO1.out HO2.out).mono ?_
    rw [HV.out]
    rintro e w5 ⟨rfl, hgr⟩
    have HP5 := shade ((Holds5.fresh w4 25 #[.int .i64 at', .slice (some ⟨r1, 0, none⟩) n1 l1, .slice (some ⟨r2, 0, none⟩) n2 l2]).grown hgr (by intro e; cases e))
    have HE5 := shade (HE4.out.grown hgr)
    have HN1 := shade (HO1.out.grown hgr (by intro _ _ _ e; cases e))
    have HN2 := shade (HO2.out.grown hgr (by intro _ _ _ e; cases e))
    clear hgr HE4 HO1 HO2
    go_wp2_with fail
    have hN0 : w5.grownBy w5.drew none := grown_drewN (grown_refl w5 none) 1
    have HS0 := shade (keep6 hN0 ⟨(HP5.out.look 0).trans rfl, (HP5.out.look 1).trans rfl, (HP5.out.look 2).trans rfl, (HE5.out.box.look 0).trans rfl, (HE5.out.box.look 1).trans rfl, (HE5.out.box.look 2).trans rfl⟩)
    have HE6 := shade (HE5.out.grown hN0)
    have HM1 := shade (HN1.out.grown hN0 (by intro _ _ _ e; cases e))
    have HM2 := shade (HN2.out.grown hN0 (by intro _ _ _ e; cases e))
    clear hN0 HE5 HN1 HN2 HP5
    go_region_held3 (fun w' => w'.cell? ⟨w4.heap.size, 0, none⟩ = some (.int .i64 at') ∧ w'.cell? ⟨w4.heap.size, 1, none⟩ = some (.slice (some ⟨r1, 0, none⟩) n1 l1) ∧ w'.cell? ⟨w4.heap.size, 2, none⟩ = some (.slice (some ⟨r2, 0, none⟩) n2 l2) ∧ w'.cell? ⟨w.heap.size, 0, none⟩ = some (.int .i64 at') ∧ w'.cell? ⟨w.heap.size, 1, none⟩ = some (.slice A1 n1 c1) ∧ w'.cell? ⟨w.heap.size, 2, none⟩ = some (.slice A2 n2 c2)) (first | exact HS0.out | exact HS6.out | exact HS7.out)
      (first
        | (have hq := HS6; go_at_call 16; refine (eqMachine_any at' _ _ _ _ n1 n2 _ _ _ _ f1 f2 _ hn1 hn2 HK1.out HK2.out ho1.nums ho2.nums).mono ?_; rintro e w7 ⟨rfl, hgr7⟩; have HS7 := shade (keep6 hgr7 HS6.out); have HG7 := shade (grown_same HG6.out hgr7))
        | (go_at_call 15; refine (toMachine_any at' A1 A2 n1 n2 c1 c2 f1 f2 _ m1 m2 HE6.out.N1 HE6.out.N2).mono ?_; rintro e w6 ⟨u1, t1, u2, t2, rfl, hne3, ho1, ho2, hgr6⟩; have HS6 := shade (keep6 hgr6 HS0.out); have HK1 := shade (HM1.out.grown hgr6 (by intro _ _ _ e; cases e)); have HK2 := shade (HM2.out.grown hgr6 (by intro _ _ _ e; cases e)); have HG6 := shade (grown_same HE6.out.low hgr6)))
    rename_i hHeld
    clear hHeld
    go_wp2_with fail
    go_ret
    exact ⟨rfl, below_of_grown HG7.out⟩


set_option maxRecDepth 100000 in
theorem fnExactValidMachine_lifted (os : Os) (started : os.Started) (H : Type) (enc : TypeId × Value → H) :
    ReturnsInHanded {} Try.checked os 5 .any (Rows.fnExactValidMachineSpec.pre6 enc Try.prog Try.f5 Rows.fnExactValidMachineRow.domain false) (Rows.fnExactValidMachineSpec.post enc Try.prog Try.f5 false true false false) := by
  refine returnsInHanded_of_change (C := Try.checked) own started (by kernel_rfl) Try.func5
    (ChangeSpec.witness6 (enc := enc) (C := Try.checked) false ⟨#[], #[.agg #[.int .i64 0, .slice none 0 0, .slice none 0 0]], []⟩ 8 (by kernel_rfl) (by kernel_rfl) (by kernel_rfl) (by kernel_rfl)) ?_
  intro W base args ds gs before hval0 hW hcnd _
  have hval : ∀ (j : Nat) t v, Try.f5.params[j]? = some t → args[j]? = some v → Value.okWide Try.prog W .any base t v := hval0
  have hW' := hW
  obtain ⟨p, q, hA0, hV, rfl, hfz, hnd⟩ := hW
  have hA : DataW.TrodAll enc Try.prog W 0 (fun _ => true) true Try.f5.params.toList args.toList ds p := hA0
  rw [Try.params5] at hA hval
  have hlt := hW'.lt
  obtain ⟨v0, d0, rfl, rfl, h0⟩ := trodAll_one hA
  obtain ⟨rfl, rfl⟩ := trodVars_none hV
  clear hA0 hval0
  have h0' := h0
  obtain ⟨at', A1, n1, c1, f1, A2, n2, c2, f2, rfl, hM1, hM2, hw⟩ := open_machine (hval 0 32 v0 rfl rfl) h0
  refine (exactValidMachine_walk at' A1 n1 c1 A2 n2 c2 f1 f2 W hM1 hM2 hw.1 hw.2).mono fun e W' ⟨he, hb⟩ => ?_
  subst he
  exact ⟨_, rfl, _, _, _, [] ++ [], _, [], hW', trodAll_mk1 (shut_bool Try.underlying4 _), trodAll_mk1 (Below.trod laidOut (by kernel_rfl) (of_decide_eq_true (by kernel_rfl)) h0' hb (fun x hx => hlt x (List.mem_append_left _ hx))), rfl, hb.frame _, fun h => by cases h⟩
/-- The statement of FnExactValidMachine. -/
theorem fnExactValidMachine_holds : Rows.FnExactValidMachineSaid :=
  OpenClaim.holds_of_wide 5 Try.f5 rfl rfl rfl rfl rfl rfl rfl ⟨rfl, rfl, rfl, rfl, rfl⟩ rfl rfl rfl rfl rfl (by kernel_rfl) Try.func5 (by kernel_rfl)
    (of_decide_eq_true (by kernel_rfl)) (by unfold Func.isWrapper; first | (rw [if_pos (by decide +kernel)]; kernel_rfl) | (rw [if_neg (by decide +kernel)]; exact ⟨rfl, rfl⟩))
    (fun os started H enc _ => fnExactValidMachine_lifted os started H enc)
#print axioms fnExactValidMachine_holds

end Go.Proofs.Ytghpgpklhenleaa
