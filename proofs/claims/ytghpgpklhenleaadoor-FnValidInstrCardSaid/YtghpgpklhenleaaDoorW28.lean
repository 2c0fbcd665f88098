/- ValidInstr answers as its model for the drawn instruction, and a valid one has a number and uses registers in range, for every list of bytes, under the conditions of the row. -/
import Derived.Test.YtghpgpklhenleaaDoorW25
namespace Go.Proofs.YtghpgpklhenleaaDoor
open Go.ChangeShapes Go.WideShapes Go.ChangeAt Go.WideMaps Go.WideElems Go.RowKit


theorem sh_is (d : Int) (h0 : 0 ≤ d) (h1 : d ≤ 3) : sh d = 1 ∨ sh d = 2 ∨ sh d = 4 ∨ sh d = 8 := by
  rcases (show d = 0 ∨ d = 1 ∨ d = 2 ∨ d = 3 by omega) with rfl | rfl | rfl | rfl
  · exact .inl (by decide +kernel)
  · exact .inr (.inl (by decide +kernel))
  · exact .inr (.inr (.inl (by decide +kernel)))
  · exact .inr (.inr (.inr (by decide +kernel)))
theorem or_small (x y : Int) (hx : x = 1 ∨ x = 2 ∨ x = 4 ∨ x = 8) (hy : y = 1 ∨ y = 2 ∨ y = 4 ∨ y = 8) : 0 ≤ bits .or .i64 x y ∧ bits .or .i64 x y < 16 := by
  rcases hx with rfl | rfl | rfl | rfl <;> rcases hy with rfl | rfl | rfl | rfl <;> decide +kernel
theorem usesR_lt (n : Nat) (d a b : Int) (b1 : 0 ≤ d) (b1' : d ≤ 3) (b2 : 0 ≤ a) (b2' : a ≤ 3) (b3 : 0 ≤ b) (b3' : b ≤ 3) : 0 ≤ usesR n d a b ∧ usesR n d a b < 16 := by
  have hd := sh_is d b1 b1'
  have ha := sh_is a b2 b2'
  have hb := sh_is b b3 b3'
  have k1 := or_small _ _ ha hb
  have k2 := or_small _ _ hd ha
  unfold usesR
  repeat' split
  all_goals omega
theorem usesW_is (n : Nat) (d : Int) (b1 : 0 ≤ d) (b1' : d ≤ 3) : usesW n d = 0 ∨ usesW n d = 1 ∨ usesW n d = 2 ∨ usesW n d = 4 ∨ usesW n d = 8 := by
  have hd := sh_is d b1 b1'
  unfold usesW
  split
  · omega
  · omega
set_option maxHeartbeats 1000000 in
theorem lawPower4 (w : World) : Calls Tryd.prog 16 #[.int .i64 4] w fun e w' => e = .returned (.int .i64 16) ∧ w = w' := by
  go_enter Tryd.func16, Tryd.ntmps16
  go_wp2
  refine wp_loop_rounds 6 ?_
  iterate 6 (try any_goals (rw [rounds_succ]; go_wp2))
  go_ret
  exact ⟨rfl, rfl⟩


set_option maxHeartbeats 1000000 in
theorem lawOnes_0 (w : World) : Calls Tryd.prog 17 #[.int .i64 0] w fun e w' => e = .returned (.int .i64 0) ∧ w = w' := by
  go_enter Tryd.func17, Tryd.ntmps17
  go_wp2
  refine wp_loop_rounds 6 ?_
  iterate 6 (try any_goals (rw [rounds_succ]; go_wp2))
  go_ret
  exact ⟨rfl, rfl⟩


set_option maxHeartbeats 1000000 in
theorem lawOnes_1 (w : World) : Calls Tryd.prog 17 #[.int .i64 1] w fun e w' => e = .returned (.int .i64 1) ∧ w = w' := by
  go_enter Tryd.func17, Tryd.ntmps17
  go_wp2
  refine wp_loop_rounds 6 ?_
  iterate 6 (try any_goals (rw [rounds_succ]; go_wp2))
  go_ret
  exact ⟨rfl, rfl⟩


set_option maxHeartbeats 1000000 in
theorem lawOnes_2 (w : World) : Calls Tryd.prog 17 #[.int .i64 2] w fun e w' => e = .returned (.int .i64 1) ∧ w = w' := by
  go_enter Tryd.func17, Tryd.ntmps17
  go_wp2
  refine wp_loop_rounds 6 ?_
  iterate 6 (try any_goals (rw [rounds_succ]; go_wp2))
  go_ret
  exact ⟨rfl, rfl⟩


set_option maxHeartbeats 1000000 in
theorem lawOnes_4 (w : World) : Calls Tryd.prog 17 #[.int .i64 4] w fun e w' => e = .returned (.int .i64 1) ∧ w = w' := by
  go_enter Tryd.func17, Tryd.ntmps17
  go_wp2
  refine wp_loop_rounds 6 ?_
  iterate 6 (try any_goals (rw [rounds_succ]; go_wp2))
  go_ret
  exact ⟨rfl, rfl⟩


set_option maxHeartbeats 1000000 in
theorem lawOnes_8 (w : World) : Calls Tryd.prog 17 #[.int .i64 8] w fun e w' => e = .returned (.int .i64 1) ∧ w = w' := by
  go_enter Tryd.func17, Tryd.ntmps17
  go_wp2
  refine wp_loop_rounds 6 ?_
  iterate 6 (try any_goals (rw [rounds_succ]; go_wp2))
  go_ret
  exact ⟨rfl, rfl⟩


theorem lawOnes_any (x : Int) (h : x = 0 ∨ x = 1 ∨ x = 2 ∨ x = 4 ∨ x = 8) : ∃ r : Int, r ≤ 1 ∧ ∀ w, Calls Tryd.prog 17 #[.int .i64 x] w fun e w' => e = .returned (.int .i64 r) ∧ w = w' := by
  rcases h with rfl | rfl | rfl | rfl | rfl
  · exact ⟨0, by omega, lawOnes_0⟩
  · exact ⟨1, by omega, lawOnes_1⟩
  · exact ⟨1, by omega, lawOnes_2⟩
  · exact ⟨1, by omega, lawOnes_4⟩
  · exact ⟨1, by omega, lawOnes_8⟩


set_option maxHeartbeats 4000000 in
theorem fnValidInstr_walk (A : Option Addr) (n cap : Nat) (zs : List Int) (w : World) (hg : WT w) (hB : Bys w A n cap zs) :
    Calls Tryd.prog 3 #[.slice A n cap] w fun e w' => e = .returned (.bool true) ∧ Below w.heap.size w w' := by
  have HG := shade hg
  have HBy := shade hB
  have hcap := hB.fits
  have hbig := hB.big
  unfold maxLen at hbig
  clear hg hB
  by_cases hl : 1048576 < n
  · go_enter Tryd.func3, Tryd.ntmps3
    go_wp2
    go_ret
    exact ⟨rfl, by go_grown⟩
  · go_enter Tryd.func3, Tryd.ntmps3
    go_wp2_with fail
    refine (DrawValidInstr_any A n cap zs _ (HBy.out.alloc _)).mono ?_
    rintro e w1 ⟨op, d, a, b, k, rfl, hb1⟩
    have HB1 := shade hb1
    have hd0 := hb1.size
    clear hb1
    rcases Bool.eq_false_or_eq_true (vB op.toList d a b k) with hv | hv
    · obtain ⟨x, q, hx, x0, x1, x2, hq, hop, p1, p2, p3, p4, hdec⟩ := enc_parts op d a b k hv
      obtain ⟨⟨n0, n1⟩, ⟨b1, b1'⟩, ⟨b2, b2'⟩, ⟨b3, b3'⟩, _⟩ := VI_bounds (vB_true.1 hv)
      obtain ⟨nn, hnn⟩ := Int.eq_ofNat_of_zero_le n0
      have HU := shade (fun W hW => UsesOf_yes op d a b k W hW hv nn (by omega) hnn)
      obtain ⟨r0, r1⟩ := usesR_lt nn d a b b1 b1' b2 b2' b3 b3'
      have hW := usesW_is nn d b1 b1'
      obtain ⟨ro, hro, HOn⟩ := lawOnes_any _ hW
      have s1 : usesW nn d < 16 := by omega
      generalize usesR nn d a b = ur at *
      generalize usesW nn d = uw at *
      have HOn := shade HOn
      have HX := shade hx
      have HV := shade hv
      clear hv hx hop p1 p2 p3 p4 hdec x2 x1 hW b1 b1' b2 b2' b3 b3' n0 n1 hnn
      go_wp2_with fail
      refine (ValidInstr_any _ _ _ _ _ _ ((HG.out.below HB1.out (wt_lt HG.out)).alloc _)).mono ?_
      rw [HV.out]
      rintro e w2 ⟨rfl, hb2⟩
      have H2 := shade ((Holds5.fresh w1 24 #[.string op, .int .i64 d, .int .i64 a, .int .i64 b, .int .i64 k]).below hb2 (by simp))
      have HB2 := shade (show Below w.heap.size w w2 from (HB1.out.alloc hd0 _).trans (hb2.mono (by simp; omega)))
      have q0 := H2.out.look 0; have q1 := H2.out.look 1; have q2 := H2.out.look 2; have q3 := H2.out.look 3; have q4 := H2.out.look 4
      simp at q0 q1 q2 q3 q4
      clear hb2
      go_wp2_with fail
      refine (SpecValidInstr_any _ _ _ _ _ _).mono ?_
      rw [HV.out]
      rintro e w3 ⟨rfl, hb3⟩
      have H3 := shade (H2.out.below hb3 H2.out.inside)
      have HB3 := shade (below_then HB2.out hb3)
      clear q0 q1 q2 q3 q4 hb3 H2 HB2
      have q0 := H3.out.look 0; have q1 := H3.out.look 1; have q2 := H3.out.look 2; have q3 := H3.out.look 3; have q4 := H3.out.look 4
      simp at q0 q1 q2 q3 q4
      go_wp2_with fail
      refine (HU.out _ (HG.out.below HB3.out (wt_lt HG.out))).mono ?_
      rintro e w4 ⟨rfl, hb4⟩
      have H4 := shade (H3.out.below hb4 H3.out.inside)
      have HB4 := shade (below_then HB3.out hb4)
      clear q0 q1 q2 q3 q4 hb4 H3 HB3
      have q0 := H4.out.look 0; have q1 := H4.out.look 1; have q2 := H4.out.look 2; have q3 := H4.out.look 3; have q4 := H4.out.look 4
      simp at q0 q1 q2 q3 q4
      go_wp2_with fail
      refine (EncodeInstr_any _ _ _ _ _ _ (HG.out.below HB4.out (wt_lt HG.out))).mono ?_
      rw [HX.out]
      rintro e w5 ⟨rfl, hb5⟩
      have HB5 := shade (below_then HB4.out hb5)
      clear q0 q1 q2 q3 q4 hb5 H4 HB4
      go_wp2_with (first | (go_at_call 16; refine (lawPower4 _).mono ?_; rintro e w' ⟨rfl, rfl⟩) | (go_at_call 17; refine (HOn.out _).mono ?_; rintro e w' ⟨rfl, rfl⟩))
      go_ret
      exact ⟨rfl, HB5.out⟩
    · have HV := shade hv
      clear hv
      go_wp2_with fail
      refine (ValidInstr_any _ _ _ _ _ _ ((HG.out.below HB1.out (wt_lt HG.out)).alloc _)).mono ?_
      rw [HV.out]
      rintro e w2 ⟨rfl, hb2⟩
      have H2 := shade ((Holds5.fresh w1 24 #[.string op, .int .i64 d, .int .i64 a, .int .i64 b, .int .i64 k]).below hb2 (by simp))
      have HB2 := shade (show Below w.heap.size w w2 from (HB1.out.alloc hd0 _).trans (hb2.mono (by simp; omega)))
      have q0 := H2.out.look 0; have q1 := H2.out.look 1; have q2 := H2.out.look 2; have q3 := H2.out.look 3; have q4 := H2.out.look 4
      simp at q0 q1 q2 q3 q4
      clear hb2
      go_wp2_with fail
      refine (SpecValidInstr_any _ _ _ _ _ _).mono ?_
      rw [HV.out]
      rintro e w3 ⟨rfl, hb3⟩
      have H3 := shade (H2.out.below hb3 H2.out.inside)
      have HB3 := shade (below_then HB2.out hb3)
      clear q0 q1 q2 q3 q4 hb3 H2 HB2
      have q0 := H3.out.look 0; have q1 := H3.out.look 1; have q2 := H3.out.look 2; have q3 := H3.out.look 3; have q4 := H3.out.look 4
      simp at q0 q1 q2 q3 q4
      go_wp2_with fail
      refine (SpecValidInstr_any _ _ _ _ _ _).mono ?_
      rw [HV.out]
      rintro e w4 ⟨rfl, hb4⟩
      have HB4 := shade (below_then HB3.out hb4)
      clear hb4
      go_wp2_with fail
      go_ret
      exact ⟨rfl, HB4.out⟩


set_option maxRecDepth 100000 in
theorem fnValidInstr_lifted (os : Os) (started : os.Started) (H : Type) (enc : TypeId × Value → H) :
    ReturnsInHanded {} Tryd.checked os 3 .any (fun w args => (Rows.fnValidInstrSpec.pre enc Tryd.prog Tryd.f3 [] false w args ∧ laidMetH Tryd.prog LD w) ∧ sizedMet enc Tryd.prog Tryd.f3 (OpenSpec.ofChange Rows.fnValidInstrSpec) false w args)
      (Rows.fnValidInstrSpec.post enc Tryd.prog Tryd.f3 false true false false) := by
  refine returnsInHanded_of_change_and (C := Tryd.checked) (X := fun w _ => laidMetH Tryd.prog LD w) (fun _ _ _ hh h => h.of_heap hh) own started (by kernel_rfl) Tryd.func3
    (ChangeSpec.witness_shaped (enc := enc) (C := Tryd.checked) (os := os) (X := fun w _ => laidMetH Tryd.prog LD w) false (World.doorLaid Tryd.prog 400 os) #[.slice none 0 0] 8 rfl (World.shaped_of_RefB (by kernel_rfl) (by kernel_rfl)) (by kernel_rfl) (by kernel_rfl) (by kernel_rfl) (door_met os _)) ?_
  intro W base args ds gs before hval0 hW _ _ hL _
  have hval : ∀ (j : Nat) t v, Tryd.f3.params[j]? = some t → args[j]? = some v → Value.okWide Tryd.prog W .any base t v := hval0
  have hW' := hW
  have hlt := hW.lt
  obtain ⟨p, q, hA0, hV0, rfl, hfz, hnd⟩ := hW
  have hA : DataW.TrodAll enc Tryd.prog W 0 (fun _ => true) true Tryd.f3.params.toList args.toList ds p := hA0
  have hV : DataW.TrodVars enc Tryd.prog W (fun _ => true) ["loop.example/smallmachines/impl.wordTexts"] gs q := hV0
  rw [Tryd.params3] at hA hval
  obtain ⟨v0, d0, rfl, rfl, h0⟩ := trodAll_one hA
  have hwt := wt_of_var (var_of_laid hL)
  obtain ⟨g, t, cs, fuel, dd, p', rfl, hg, ht, hvar, hd, rfl⟩ := trodVars_one hV
  obtain rfl := Option.some.inj (gWT.symm.trans hg)
  obtain rfl := Option.some.inj (tWT.symm.trans ht)
  obtain rfl : cs = wtCells := Option.some.inj (hvar.symm.trans (var_of_laid hL))
  obtain ⟨rfl, rfl⟩ := DataW.Trod.unique (v := .agg wtCells) ⟨fuel, hd⟩ ⟨3, reads_table enc W _⟩
  have h0' := h0
  obtain ⟨A, n, cap, zs, rfl, hBy⟩ := open_bytes (hval 0 22 v0 rfl rfl) h0
  clear hA0 hV0 hval0
  refine (fnValidInstr_walk A n cap zs W hwt hBy).mono fun e W' ⟨he, hb⟩ => ?_
  subst he
  refine ⟨_, rfl, post_off (pa := p) hW' (fun _ _ _ => trodAll_mk1 (shut_bool Tryd.underlying4 _)) (trodAll_mk1 (Below.trod laidOut (by kernel_rfl) (of_decide_eq_true (by kernel_rfl)) h0' hb (fun x hx => hlt x (List.mem_append_left _ hx)))) ⟨0, 67, wtCells, 3, [], [], hg, ht, var_of_wt (hwt.below hb (wt_lt hwt)), reads_table enc W' _, rfl, rfl⟩ rfl hb⟩
theorem fnValidInstr_holds : Rows.FnValidInstrSaid :=
  OpenClaim.holds_of_wide 3 Tryd.f3 rfl rfl rfl rfl rfl rfl rfl ⟨rfl, rfl, rfl, rfl, rfl⟩ rfl rfl rfl rfl rfl (by kernel_rfl) Tryd.func3 (by kernel_rfl)
    (of_decide_eq_true (by kernel_rfl)) (by unfold Func.isWrapper; rw [if_neg (of_decide_eq_false (by kernel_rfl))]; exact ⟨rfl, rfl⟩)
    (fun os started H enc _ => fnValidInstr_lifted os started H enc)
/-- The tied card of FnValidInstr. -/
theorem fnValidInstr_card : Rows.FnValidInstrCardSaid :=
  Claim7.holds_tied_plain_at .later [] [.data] true (true, "ff96c6f6f89e4ec2bb02e13cb710e4578bd0830db7a4beb2f681030b5e5aac29") false
    fnValidInstr_holds (fun _ h => by cases h) (by kernel_rfl) (fun _ h => by cases h) fnValidInstr_row_tie rfl ⟨rfl, rfl⟩ (by kernel_rfl) rfl
    (fun f fn hf hfn => by
      obtain rfl : f = 3 := Option.some.inj ((show Tryd.prog.funcNamed "loop.example/smallmachines/laws.FnValidInstr" = some 3 by kernel_rfl).symm.trans hf) |>.symm
      obtain rfl : fn = Tryd.f3 := (Option.some.inj (Tryd.func3.symm.trans hfn)).symm
      exact ⟨by kernel_rfl, fun j t ht => by
        rw [Tryd.params3] at ht
        have hm : t ∈ [22] := by simpa using Array.mem_of_getElem? ht
        have hall : ([22].all fun u => !Tryd.prog.wantsStandIn u) = true := by kernel_rfl
        exact (show Tryd.prog.wantsStandIn t = false by simpa using List.all_eq_true.1 hall t hm)⟩)
    (by kernel_rfl)

#print axioms fnValidInstr_card
end Go.Proofs.YtghpgpklhenleaaDoor
