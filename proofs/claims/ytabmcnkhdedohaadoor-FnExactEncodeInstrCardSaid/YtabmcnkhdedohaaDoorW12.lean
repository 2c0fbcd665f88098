/- EncodeInstr answers as its model at every instruction, whatever the instruction, under the conditions of the row. -/
import Derived.Test.YtabmcnkhdedohaaDoorW10
import Derived.Test.YtabmcnkhdedohaaDoorW11
namespace Go.Proofs.YtabmcnkhdedohaaDoor
open Go.ChangeShapes Go.WideShapes Go.ChangeAt Go.WideMaps Go.WideElems Go.RowKit


set_option maxHeartbeats 1000000 in
theorem exactEncodeInstr_walk (op : ByteArray) (d a b k : Int) (w : World) (hg : WT w) (hs : op.size ≤ 9223372036854775807) :
    Calls Tryd.prog 8 #[IV op d a b k] w fun e w' => e = .returned (.bool true) ∧ Below w.heap.size w w' := by
  have HG := shade hg
  clear hg
  by_cases hl : (1048576 : Int) - op.size < 0
  · have hsz := fun W => szInstr_any op d a b k 1048576 (by omega) (by omega) hs W
    rw [if_pos hl] at hsz
    have HS := shade hsz
    clear hsz
    go_enter Tryd.func8, Tryd.ntmps8
    go_wp2_with fail
    refine (HS.out _).mono ?_
    rintro e w1 ⟨rfl, o, rfl⟩
    go_wp2_with fail
    go_ret
    exact ⟨rfl, by go_grown⟩
  · have hsz := fun W => szInstr_any op d a b k 1048576 (by omega) (by omega) hs W
    rw [if_neg hl] at hsz
    have HS := shade hsz
    have hl2 : (op.size : Int) ≤ 1048576 := by omega
    clear hsz
    go_enter Tryd.func8, Tryd.ntmps8
    go_wp2_with fail
    refine (HS.out _).mono ?_
    rintro e w1 ⟨rfl, o, rfl⟩
    go_wp2_with fail
    refine (toInstr_any _ _ _ _ _ _).mono ?_
    rintro e w2 ⟨rfl, hb2⟩
    have H1 := (Holds5.fresh w 38 #[.string op, .int .i64 d, .int .i64 a, .int .i64 b, .int .i64 k]).alloc o
    have H2 := H1.below hb2 H1.inside
    clear H1
    have hB2 := below_then (W := w) (by go_grown) hb2
    have H2 := shade H2
    clear hb2
    go_wp2_with fail
    refine (SpecEncodeInstr_any _ _ _ _ _ _).mono ?_
    rintro e w3 ⟨rfl, hb3⟩
    have hB3 := below_then hB2 hb3
    have H3 := H2.out.below hb3 H2.out.inside
    have q0 := H3.look 0; have q1 := H3.look 1; have q2 := H3.look 2; have q3 := H3.look 3; have q4 := H3.look 4
    simp at q0 q1 q2 q3 q4
    clear hb3 H3
    generalize hv : encV op.toList d a b k = v
    have HV := shade hv
    clear hv
    go_wp2_with fail
    refine (toInstr_any _ _ _ _ _ _).mono ?_
    rintro e w4 ⟨rfl, hb4⟩
    have hB4 := below_then hB3 hb4
    clear hb4
    go_wp2_with fail
    refine (EncodeInstr_any _ _ _ _ _ _ (HG.out.below hB4 (wt_lt HG.out))).mono ?_
    rw [HV.out]
    rintro e w5 ⟨rfl, hb5⟩
    have hB5 := below_then hB4 hb5
    clear hb5
    go_wp2_with fail
    go_ret
    exact ⟨rfl, hB5⟩


set_option maxRecDepth 100000 in
theorem fnExactEncodeInstr_lifted (os : Os) (started : os.Started) (H : Type) (enc : TypeId × Value → H) :
    ReturnsInHanded {} Tryd.checked os 8 .any (fun w args => (Rows.fnExactEncodeInstrSpec.pre enc Tryd.prog Tryd.f8 [] false w args ∧ laidMetH Tryd.prog LD w) ∧ sizedMet enc Tryd.prog Tryd.f8 (OpenSpec.ofChange Rows.fnExactEncodeInstrSpec) false w args)
      (Rows.fnExactEncodeInstrSpec.post enc Tryd.prog Tryd.f8 false true false false) := by
  refine returnsInHanded_of_change_and (C := Tryd.checked) (X := fun w _ => laidMetH Tryd.prog LD w) (fun _ _ _ hh h => h.of_heap hh) own started (by kernel_rfl) Tryd.func8
    (ChangeSpec.witness_shaped (enc := enc) (C := Tryd.checked) (os := os) (X := fun w _ => laidMetH Tryd.prog LD w) false (World.doorLaid Tryd.prog 400 os) #[.agg #[.string ⟨#[]⟩, .int .i64 0, .int .i64 0, .int .i64 0, .int .i64 0]] 8 rfl (World.shaped_of_RefB (by kernel_rfl) (by kernel_rfl)) (by kernel_rfl) (by kernel_rfl) (by kernel_rfl) (door_met os _)) ?_
  intro W base args ds gs before hval0 hW _ _ hL _
  have hval : ∀ (j : Nat) t v, Tryd.f8.params[j]? = some t → args[j]? = some v → Value.okWide Tryd.prog W .any base t v := hval0
  have hW' := hW
  have hlt := hW.lt
  obtain ⟨p, q, hA0, hV0, rfl, hfz, hnd⟩ := hW
  have hA : DataW.TrodAll enc Tryd.prog W 0 (fun _ => true) true Tryd.f8.params.toList args.toList ds p := hA0
  have hV : DataW.TrodVars enc Tryd.prog W (fun _ => true) ["loop.example/smallmachines/impl.wordTexts"] gs q := hV0
  rw [Tryd.params8] at hA hval
  obtain ⟨v0, d0, rfl, rfl, h0⟩ := trodAll_one hA
  have hwt := wt_of_var (var_of_laid hL)
  obtain ⟨g, t, cs, fuel, dd, p', rfl, hg, ht, hvar, hd, rfl⟩ := trodVars_one hV
  obtain rfl := Option.some.inj (gWT.symm.trans hg)
  obtain rfl := Option.some.inj (tWT.symm.trans ht)
  obtain rfl : cs = wtCells := Option.some.inj (hvar.symm.trans (var_of_laid hL))
  obtain ⟨rfl, rfl⟩ := DataW.Trod.unique (v := .agg wtCells) ⟨fuel, hd⟩ ⟨3, reads_table enc W _⟩
  have h0' := h0
  obtain ⟨op, d, a, b, k, rfl, hs⟩ := open5 (hval 0 38 v0 rfl rfl) h0
  clear hA0 hV0 hval0
  refine (exactEncodeInstr_walk op d a b k W hwt (by unfold maxLen at hs; omega)).mono fun e W' ⟨he, hb⟩ => ?_
  subst he
  refine ⟨_, rfl, post_off (pa := p) hW' (fun _ _ _ => trodAll_mk1 (shut_bool Tryd.underlying4 _)) (trodAll_mk1 (Below.trod laidOut (by kernel_rfl) (of_decide_eq_true (by kernel_rfl)) h0' hb (fun x hx => hlt x (List.mem_append_left _ hx)))) ⟨0, 54, wtCells, 3, [], [], hg, ht, var_of_wt (hwt.below hb (wt_lt hwt)), reads_table enc W' _, rfl, rfl⟩ rfl hb⟩
theorem fnExactEncodeInstr_holds : Rows.FnExactEncodeInstrSaid :=
  OpenClaim.holds_of_wide 8 Tryd.f8 rfl rfl rfl rfl rfl rfl rfl ⟨rfl, rfl, rfl, rfl, rfl⟩ rfl rfl rfl rfl rfl (by kernel_rfl) Tryd.func8 (by kernel_rfl)
    (of_decide_eq_true (by kernel_rfl)) (by unfold Func.isWrapper; rw [if_neg (of_decide_eq_false (by kernel_rfl))]; exact ⟨rfl, rfl⟩)
    (fun os started H enc _ => fnExactEncodeInstr_lifted os started H enc)
/-- The tied card of FnExactEncodeInstr. -/
theorem fnExactEncodeInstr_card : Rows.FnExactEncodeInstrCardSaid :=
  Claim7.holds_tied_plain_at .later [] [.data] true (true, "95512d48ea7d4fb04f01583e367aae87cfc6b59b0d08c23382f0d3aba995d5ba") false
    fnExactEncodeInstr_holds (fun _ h => by cases h) (by kernel_rfl) (fun _ h => by cases h) fnExactEncodeInstr_row_tie rfl ⟨rfl, rfl⟩ (by kernel_rfl) rfl
    (fun f fn hf hfn => by
      obtain rfl : f = 8 := Option.some.inj ((show Tryd.prog.funcNamed "loop.example/smallmachines/laws.FnExactEncodeInstr" = some 8 by kernel_rfl).symm.trans hf) |>.symm
      obtain rfl : fn = Tryd.f8 := (Option.some.inj (Tryd.func8.symm.trans hfn)).symm
      exact ⟨by kernel_rfl, fun j t ht => by
        rw [Tryd.params8] at ht
        have hm : t ∈ [38] := by simpa using Array.mem_of_getElem? ht
        have hall : ([38].all fun u => !Tryd.prog.wantsStandIn u) = true := by kernel_rfl
        exact (show Tryd.prog.wantsStandIn t = false by simpa using List.all_eq_true.1 hall t hm)⟩)
    (by kernel_rfl)

#print axioms fnExactEncodeInstr_card
end Go.Proofs.YtabmcnkhdedohaaDoor
