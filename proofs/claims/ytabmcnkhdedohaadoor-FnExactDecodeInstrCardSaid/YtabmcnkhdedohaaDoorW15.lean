/- DecodeInstr answers as its model at every number, whatever the number, under the conditions of the row. -/
import Derived.Test.YtabmcnkhdedohaaDoorW14
namespace Go.Proofs.YtabmcnkhdedohaaDoor
open Go.ChangeShapes Go.WideShapes Go.ChangeAt Go.WideMaps Go.WideElems Go.RowKit


set_option maxHeartbeats 1000000 in
theorem exactDecode_core (n : Int) (op : ByteArray) (d a b k : Int) (ok : Bool) (w : World) (hg : WT w)
    (hS : ∀ W, Calls Tryd.prog 23 #[.int .i64 n] W fun e w' => e = .returned (.tuple #[IV op d a b k, .bool ok]) ∧ Below W.heap.size W w')
    (hI : ∀ W, WT W → Calls Tryd.prog 21 #[.int .i64 n] W fun e w' => e = .returned (.tuple #[IV op d a b k, .bool ok]) ∧ Below W.heap.size W w') :
    Calls Tryd.prog 9 #[.int .i64 n] w fun e w' => e = .returned (.bool true) ∧ Below w.heap.size w w' := by
  have HG := shade hg
  have HS := shade hS
  have HI := shade hI
  clear hg hS hI
  go_enter Tryd.func9, Tryd.ntmps9
  go_wp2_with fail
  refine (HS.out _).mono ?_
  rintro e w1 ⟨rfl, hb1⟩
  have HB1 := shade hb1
  clear hb1
  go_wp2_with fail
  have HG1 := (HG.out.below HB1.out (wt_lt HG.out)).alloc (.cells #[.string op, .int .i64 d, .int .i64 a, .int .i64 b, .int .i64 k] 24)
  refine (HI.out _ HG1).mono ?_
  clear HG1
  rintro e w2 ⟨rfl, hb2⟩
  have H2 := (Holds5.fresh w1 24 #[.string op, .int .i64 d, .int .i64 a, .int .i64 b, .int .i64 k]).below hb2 (by simp only [World.size_alloc]; omega)
  have q0 := H2.look 0; have q1 := H2.look 1; have q2 := H2.look 2; have q3 := H2.look 3; have q4 := H2.look 4
  simp at q0 q1 q2 q3 q4
  have z := H2.inside
  have HB2 := shade (show Below w.heap.size w w2 from (HB1.out.alloc HB1.out.size _).trans (hb2.mono (by have := HB1.out.size; simp only [World.size_alloc]; omega)))
  clear hb2 H2
  go_wp2_with fail
  refine (eqInstr_same _ _ _ _ _ _).mono ?_
  rintro e w3 ⟨rfl, o1, o2, rfl⟩
  go_wp2_with fail
  go_ret
  refine ⟨rfl, ?_⟩
  have hB := HB2.out
  exact ((hB.alloc hB.size _).alloc (Nat.le_trans hB.size (by simp)) _).alloc (Nat.le_trans hB.size (by simp only [World.size_alloc]; omega)) _
theorem exactDecodeInstr_walk (n : Int) (hmax : n < 9223372036854775808) (w : World) (hg : WT w) :
    Calls Tryd.prog 9 #[.int .i64 n] w fun e w' => e = .returned (.bool true) ∧ Below w.heap.size w w' := by
  by_cases h : n < 0 ∨ 163840 ≤ n
  · exact exactDecode_core n ⟨#[]⟩ 0 0 0 0 false w hg (fun W => SpecDecodeInstr_out n h W) (fun W _ => DecodeInstr_out n h hmax W)
  · have h0 : 0 ≤ n := by omega
    have h1 : n < 163840 := by omega
    obtain ⟨q, hq⟩ := Int.eq_ofNat_of_zero_le (show 0 ≤ n / 16384 by omega)
    rcases hv : decOk n with _ | _
    · exact exactDecode_core n ⟨#[]⟩ 0 0 0 0 false w hg (fun W => SpecDecodeInstr_in n h0 h1 q hq W false hv) (fun W hW => DecodeInstr_in n h0 h1 q hq W hW false hv)
    · exact exactDecode_core n (wT q) (n / 4096 % 4) (n / 1024 % 4) (n / 256 % 4) (n % 256) true w hg (fun W => SpecDecodeInstr_in n h0 h1 q hq W true hv) (fun W hW => DecodeInstr_in n h0 h1 q hq W hW true hv)


set_option maxRecDepth 100000 in
theorem fnExactDecodeInstr_lifted (os : Os) (started : os.Started) (H : Type) (enc : TypeId × Value → H) :
    ReturnsInHanded {} Tryd.checked os 9 .any (fun w args => (Rows.fnExactDecodeInstrSpec.pre enc Tryd.prog Tryd.f9 [] false w args ∧ laidMetH Tryd.prog LD w) ∧ sizedMet enc Tryd.prog Tryd.f9 (OpenSpec.ofChange Rows.fnExactDecodeInstrSpec) false w args)
      (Rows.fnExactDecodeInstrSpec.post enc Tryd.prog Tryd.f9 false true false false) := by
  refine returnsInHanded_of_change_and (C := Tryd.checked) (X := fun w _ => laidMetH Tryd.prog LD w) (fun _ _ _ hh h => h.of_heap hh) own started (by kernel_rfl) Tryd.func9
    (ChangeSpec.witness_shaped (enc := enc) (C := Tryd.checked) (os := os) (X := fun w _ => laidMetH Tryd.prog LD w) false (World.doorLaid Tryd.prog 400 os) #[.int .i64 0] 8 rfl (World.shaped_of_RefB (by kernel_rfl) (by kernel_rfl)) (by kernel_rfl) (by kernel_rfl) (by kernel_rfl) (door_met os _)) ?_
  intro W base args ds gs before hval0 hW _ _ hL _
  have hval : ∀ (j : Nat) t v, Tryd.f9.params[j]? = some t → args[j]? = some v → Value.okWide Tryd.prog W .any base t v := hval0
  have hW' := hW
  have hlt := hW.lt
  obtain ⟨p, q, hA0, hV0, rfl, hfz, hnd⟩ := hW
  have hA : DataW.TrodAll enc Tryd.prog W 0 (fun _ => true) true Tryd.f9.params.toList args.toList ds p := hA0
  have hV : DataW.TrodVars enc Tryd.prog W (fun _ => true) ["loop.example/smallmachines/impl.wordTexts"] gs q := hV0
  rw [Tryd.params9] at hA hval
  obtain ⟨v0, d0, rfl, rfl, h0⟩ := trodAll_one hA
  have hwt := wt_of_var (var_of_laid hL)
  obtain ⟨g, t, cs, fuel, dd, p', rfl, hg, ht, hvar, hd, rfl⟩ := trodVars_one hV
  obtain rfl := Option.some.inj (gWT.symm.trans hg)
  obtain rfl := Option.some.inj (tWT.symm.trans ht)
  obtain rfl : cs = wtCells := Option.some.inj (hvar.symm.trans (var_of_laid hL))
  obtain ⟨rfl, rfl⟩ := DataW.Trod.unique (v := .agg wtCells) ⟨fuel, hd⟩ ⟨3, reads_table enc W _⟩
  have h0' := h0
  obtain ⟨x, rfl, rfl, rfl, wx⟩ := open_int Tryd.underlying3 (hval 0 3 v0 rfl rfl) h0
  clear hA0 hV0 hval0
  refine (exactDecodeInstr_walk x (by have := bounds_i64 wx; omega) W hwt).mono fun e W' ⟨he, hb⟩ => ?_
  subst he
  refine ⟨_, rfl, post_off (pa := []) hW' (fun _ _ _ => trodAll_mk1 (shut_bool Tryd.underlying4 _)) (trodAll_mk1 (Below.trod laidOut (by kernel_rfl) (of_decide_eq_true (by kernel_rfl)) h0' hb (fun x hx => by cases hx))) ⟨0, 54, wtCells, 3, [], [], hg, ht, var_of_wt (hwt.below hb (wt_lt hwt)), reads_table enc W' _, rfl, rfl⟩ rfl hb⟩
theorem fnExactDecodeInstr_holds : Rows.FnExactDecodeInstrSaid :=
  OpenClaim.holds_of_wide 9 Tryd.f9 rfl rfl rfl rfl rfl rfl rfl ⟨rfl, rfl, rfl, rfl, rfl⟩ rfl rfl rfl rfl rfl (by kernel_rfl) Tryd.func9 (by kernel_rfl)
    (of_decide_eq_true (by kernel_rfl)) (by unfold Func.isWrapper; rw [if_neg (of_decide_eq_false (by kernel_rfl))]; exact ⟨rfl, rfl⟩)
    (fun os started H enc _ => fnExactDecodeInstr_lifted os started H enc)
/-- The tied card of FnExactDecodeInstr. -/
theorem fnExactDecodeInstr_card : Rows.FnExactDecodeInstrCardSaid :=
  Claim7.holds_tied_plain_at .later [] [.data] true (true, "95512d48ea7d4fb04f01583e367aae87cfc6b59b0d08c23382f0d3aba995d5ba") false
    fnExactDecodeInstr_holds (fun _ h => by cases h) (by kernel_rfl) (fun _ h => by cases h) fnExactDecodeInstr_row_tie rfl ⟨rfl, rfl⟩ (by kernel_rfl) rfl
    (fun f fn hf hfn => by
      obtain rfl : f = 9 := Option.some.inj ((show Tryd.prog.funcNamed "loop.example/smallmachines/laws.FnExactDecodeInstr" = some 9 by kernel_rfl).symm.trans hf) |>.symm
      obtain rfl : fn = Tryd.f9 := (Option.some.inj (Tryd.func9.symm.trans hfn)).symm
      exact ⟨by kernel_rfl, fun j t ht => by
        rw [Tryd.params9] at ht
        have hm : t ∈ [3] := by simpa using Array.mem_of_getElem? ht
        have hall : ([3].all fun u => !Tryd.prog.wantsStandIn u) = true := by kernel_rfl
        exact (show Tryd.prog.wantsStandIn t = false by simpa using List.all_eq_true.1 hall t hm)⟩)
    (by kernel_rfl)

#print axioms fnExactDecodeInstr_card
end Go.Proofs.YtabmcnkhdedohaaDoor
