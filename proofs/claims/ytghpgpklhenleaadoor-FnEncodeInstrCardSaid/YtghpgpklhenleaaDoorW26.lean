/- What EncodeInstr gives for the drawn instruction is what its model gives, and DecodeInstr gives the instruction back, for every list of bytes, under the conditions of the row. -/
import Derived.Test.YtghpgpklhenleaaDoorW25
namespace Go.Proofs.YtghpgpklhenleaaDoor
open Go.ChangeShapes Go.WideShapes Go.ChangeAt Go.WideMaps Go.WideElems Go.RowKit


set_option maxHeartbeats 2000000 in
theorem fnEncodeInstr_walk (A : Option Addr) (n cap : Nat) (zs : List Int) (w : World) (hg : WT w) (hB : Bys w A n cap zs) :
    Calls Tryd.prog 4 #[.slice A n cap] w fun e w' => e = .returned (.bool true) ∧ Below w.heap.size w w' := by
  have HG := shade hg
  have HBy := shade hB
  have hcap := hB.fits
  have hbig := hB.big
  unfold maxLen at hbig
  clear hg hB
  by_cases hl : 1048576 < n
  · go_enter Tryd.func4, Tryd.ntmps4
    go_wp2
    go_ret
    exact ⟨rfl, by go_grown⟩
  · go_enter Tryd.func4, Tryd.ntmps4
    go_wp2_with fail
    refine (DrawEncodeInstr_any A n cap zs _ (HBy.out.alloc _)).mono ?_
    rintro e w1 ⟨op, d, a, b, k, rfl, hb1⟩
    have HB1 := shade hb1
    clear hb1
    go_wp2_with fail
    have hd0 := HB1.out.size
    rcases Bool.eq_false_or_eq_true (vB op.toList d a b k) with hv | hv
    · obtain ⟨x, q, hx, x0, x1, x2, hq, hop, p1, p2, p3, p4, hdec⟩ := enc_parts op d a b k hv
      have HD := shade (show ∀ W, WT W → Calls Tryd.prog 20 #[.int .i64 x] W fun e w' => e = .returned (.tuple #[IV op d a b k, .bool true]) ∧ Below W.heap.size W w' from fun W hW => (DecodeInstr_in x x0 x1 q x2 W hW true hdec).mono fun e w' h => by
        rw [hop, p1, p2, p3, p4] at h
        exact h)
      have HX := shade hx
      clear hv hx hop p1 p2 p3 p4 hdec x2 x1
      refine (EncodeInstr_any _ _ _ _ _ _ ((HG.out.below HB1.out (wt_lt HG.out)).alloc _)).mono ?_
      rw [HX.out]
      rintro e w2 ⟨rfl, hb2⟩
      have H2 := shade ((Holds5.fresh w1 24 #[.string op, .int .i64 d, .int .i64 a, .int .i64 b, .int .i64 k]).below hb2 (by simp))
      have HB2 := shade (show Below w.heap.size w w2 from (HB1.out.alloc hd0 _).trans (hb2.mono (by simp; omega)))
      have q0 := H2.out.look 0; have q1 := H2.out.look 1; have q2 := H2.out.look 2; have q3 := H2.out.look 3; have q4 := H2.out.look 4
      simp at q0 q1 q2 q3 q4
      clear hb2
      go_wp2_with fail
      refine (SpecEncodeInstr_any _ _ _ _ _ _).mono ?_
      rw [HX.out]
      rintro e w3 ⟨rfl, hb3⟩
      have H3 := shade (H2.out.below hb3 H2.out.inside)
      have HB3 := shade (below_then HB2.out hb3)
      clear q0 q1 q2 q3 q4 hb3
      go_wp2_with fail
      refine (HD.out _ (HG.out.below HB3.out (wt_lt HG.out))).mono ?_
      rintro e w4 ⟨rfl, hb4⟩
      have H4 := H3.out.below hb4 H3.out.inside
      have hB4 := below_then HB3.out hb4
      have q0 := H4.look 0; have q1 := H4.look 1; have q2 := H4.look 2; have q3 := H4.look 3; have q4 := H4.look 4
      simp at q0 q1 q2 q3 q4
      have HB4 := shade hB4
      have z := H4.inside
      clear hb4 hB4 H4
      go_wp2_with fail
      go_ret
      have hB := HB4.out
      exact ⟨rfl, by go_grown⟩
    · have HE := shade (enc_no hv)
      clear hv
      refine (EncodeInstr_any _ _ _ _ _ _ ((HG.out.below HB1.out (wt_lt HG.out)).alloc _)).mono ?_
      rw [HE.out]
      rintro e w2 ⟨rfl, hb2⟩
      have H2 := shade ((Holds5.fresh w1 24 #[.string op, .int .i64 d, .int .i64 a, .int .i64 b, .int .i64 k]).below hb2 (by simp))
      have HB2 := shade (show Below w.heap.size w w2 from (HB1.out.alloc hd0 _).trans (hb2.mono (by simp; omega)))
      have q0 := H2.out.look 0; have q1 := H2.out.look 1; have q2 := H2.out.look 2; have q3 := H2.out.look 3; have q4 := H2.out.look 4
      simp at q0 q1 q2 q3 q4
      clear hb2
      go_wp2_with fail
      refine (SpecEncodeInstr_any _ _ _ _ _ _).mono ?_
      rw [HE.out]
      rintro e w3 ⟨rfl, hb3⟩
      have H3 := H2.out.below hb3 H2.out.inside
      have HB3 := shade (below_then HB2.out hb3)
      clear q0 q1 q2 q3 q4 hb3
      have q0 := H3.look 0; have q1 := H3.look 1; have q2 := H3.look 2; have q3 := H3.look 3; have q4 := H3.look 4
      simp at q0 q1 q2 q3 q4
      clear H3
      go_wp2_with fail
      refine (SpecEncodeInstr_any _ _ _ _ _ _).mono ?_
      rw [HE.out]
      rintro e w4 ⟨rfl, hb4⟩
      have HB4 := shade (below_then HB3.out hb4)
      clear hb4
      go_wp2_with fail
      go_ret
      exact ⟨rfl, HB4.out⟩


set_option maxRecDepth 100000 in
theorem fnEncodeInstr_lifted (os : Os) (started : os.Started) (H : Type) (enc : TypeId × Value → H) :
    ReturnsInHanded {} Tryd.checked os 4 .any (fun w args => (Rows.fnEncodeInstrSpec.pre enc Tryd.prog Tryd.f4 [] false w args ∧ laidMetH Tryd.prog LD w) ∧ sizedMet enc Tryd.prog Tryd.f4 (OpenSpec.ofChange Rows.fnEncodeInstrSpec) false w args)
      (Rows.fnEncodeInstrSpec.post enc Tryd.prog Tryd.f4 false true false false) := by
  refine returnsInHanded_of_change_and (C := Tryd.checked) (X := fun w _ => laidMetH Tryd.prog LD w) (fun _ _ _ hh h => h.of_heap hh) own started (by kernel_rfl) Tryd.func4
    (ChangeSpec.witness_shaped (enc := enc) (C := Tryd.checked) (os := os) (X := fun w _ => laidMetH Tryd.prog LD w) false (World.doorLaid Tryd.prog 400 os) #[.slice none 0 0] 8 rfl (World.shaped_of_RefB (by kernel_rfl) (by kernel_rfl)) (by kernel_rfl) (by kernel_rfl) (by kernel_rfl) (door_met os _)) ?_
  intro W base args ds gs before hval0 hW _ _ hL _
  have hval : ∀ (j : Nat) t v, Tryd.f4.params[j]? = some t → args[j]? = some v → Value.okWide Tryd.prog W .any base t v := hval0
  have hW' := hW
  have hlt := hW.lt
  obtain ⟨p, q, hA0, hV0, rfl, hfz, hnd⟩ := hW
  have hA : DataW.TrodAll enc Tryd.prog W 0 (fun _ => true) true Tryd.f4.params.toList args.toList ds p := hA0
  have hV : DataW.TrodVars enc Tryd.prog W (fun _ => true) ["loop.example/smallmachines/impl.wordTexts"] gs q := hV0
  rw [Tryd.params4] at hA hval
  obtain ⟨v0, d0, rfl, rfl, h0⟩ := trodAll_one hA
  have hwt := wt_of_var (var_of_laid hL)
  obtain ⟨g, t, cs, fuel, dd, p', rfl, hg, ht, hvar, hd, rfl⟩ := trodVars_one hV
  obtain rfl := Option.some.inj (gWT.symm.trans hg)
  obtain rfl := Option.some.inj (tWT.symm.trans ht)
  obtain rfl : cs = wtCells := Option.some.inj (hvar.symm.trans (var_of_laid hL))
  obtain ⟨rfl, rfl⟩ := DataW.Trod.unique (v := .agg wtCells) ⟨fuel, hd⟩ ⟨3, reads_table enc W _⟩
  have h0' := h0
  obtain ⟨A, n, cap, zs, rfl, hBy⟩ := open_bytes (hval 0 22 v0 rfl rfl) h0
  clear hA0 hV0 hval0
  refine (fnEncodeInstr_walk A n cap zs W hwt hBy).mono fun e W' ⟨he, hb⟩ => ?_
  subst he
  refine ⟨_, rfl, post_off (pa := p) hW' (fun _ _ _ => trodAll_mk1 (shut_bool Tryd.underlying4 _)) (trodAll_mk1 (Below.trod laidOut (by kernel_rfl) (of_decide_eq_true (by kernel_rfl)) h0' hb (fun x hx => hlt x (List.mem_append_left _ hx)))) ⟨0, 67, wtCells, 3, [], [], hg, ht, var_of_wt (hwt.below hb (wt_lt hwt)), reads_table enc W' _, rfl, rfl⟩ rfl hb⟩
theorem fnEncodeInstr_holds : Rows.FnEncodeInstrSaid :=
  OpenClaim.holds_of_wide 4 Tryd.f4 rfl rfl rfl rfl rfl rfl rfl ⟨rfl, rfl, rfl, rfl, rfl⟩ rfl rfl rfl rfl rfl (by kernel_rfl) Tryd.func4 (by kernel_rfl)
    (of_decide_eq_true (by kernel_rfl)) (by unfold Func.isWrapper; rw [if_neg (of_decide_eq_false (by kernel_rfl))]; exact ⟨rfl, rfl⟩)
    (fun os started H enc _ => fnEncodeInstr_lifted os started H enc)
/-- The tied card of FnEncodeInstr. -/
theorem fnEncodeInstr_card : Rows.FnEncodeInstrCardSaid :=
  Claim7.holds_tied_plain_at .later [] [.data] true (true, "ff96c6f6f89e4ec2bb02e13cb710e4578bd0830db7a4beb2f681030b5e5aac29") false
    fnEncodeInstr_holds (fun _ h => by cases h) (by kernel_rfl) (fun _ h => by cases h) fnEncodeInstr_row_tie rfl ⟨rfl, rfl⟩ (by kernel_rfl) rfl
    (fun f fn hf hfn => by
      obtain rfl : f = 4 := Option.some.inj ((show Tryd.prog.funcNamed "loop.example/smallmachines/laws.FnEncodeInstr" = some 4 by kernel_rfl).symm.trans hf) |>.symm
      obtain rfl : fn = Tryd.f4 := (Option.some.inj (Tryd.func4.symm.trans hfn)).symm
      exact ⟨by kernel_rfl, fun j t ht => by
        rw [Tryd.params4] at ht
        have hm : t ∈ [22] := by simpa using Array.mem_of_getElem? ht
        have hall : ([22].all fun u => !Tryd.prog.wantsStandIn u) = true := by kernel_rfl
        exact (show Tryd.prog.wantsStandIn t = false by simpa using List.all_eq_true.1 hall t hm)⟩)
    (by kernel_rfl)

#print axioms fnEncodeInstr_card
end Go.Proofs.YtghpgpklhenleaaDoor
