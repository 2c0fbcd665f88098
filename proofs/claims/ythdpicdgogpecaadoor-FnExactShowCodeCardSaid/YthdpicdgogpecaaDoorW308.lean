/- ShowCode answers as its model at every program; the row and its card. -/
import Derived.Test.YthdpicdgogpecaaDoorW307
import Derived.Test.YthdpicdgogpecaaDoorW10
import Derived.Deep.Slices
import Derived.Test.YthdpicdgogpecaaDoorCards
import Derived.Test.YthdpicdgogpecaaDoorTie
import Derived.SevenTiedAt
namespace Go.Proofs.YthdpicdgogpecaaDoor
open Go.ChangeShapes Go.WideShapes Go.ChangeAt Go.WideMaps Go.WideElems Go.RowKit
theorem five_cells {W : World} {ab ao : Nat} {cs : List Value} (h : W.cells? 0 ⟨ab, ao, none⟩ 5 = some cs) : ∀ i, i < 5 → W.cell? ⟨ab, ao + i, none⟩ = cs[i]? := by
  intro i hi
  have h1 := (World.cells?_some h).2.2 i hi
  rwa [Addr.add_lit] at h1
set_option maxRecDepth 100000 in
theorem ins_of {H : Type} {enc : TypeId × Value → H} {W : World} {base fuel : Nat} {spare : Nat → Bool} {held : Bool} {cs : List Value} {x : DataW H × List MemPlace} (hl : cs.length = 5)
    (h : DataW.trod enc Tryd.prog W base spare held fuel 23 cs = some x) : ∃ c : Ins, cs = [.string c.op, .int .i64 c.d, .int .i64 c.a, .int .i64 c.b, .int .i64 c.k] ∧ c.op.size ≤ maxLen := by
  obtain ⟨xs, n, _, hx, _, hlen, hfd⟩ := DataW.trod_struct Tryd.underlying23 h
  match cs, hl, xs, hlen with
  | [c0, c1, c2, c3, c4], _, [x0, x1, x2, x3, x4], _ =>
    have g0 := hfd 0 _ rfl
    have g1 := hfd 1 _ rfl
    have g2 := hfd 2 _ rfl
    have g3 := hfd 3 _ rfl
    have g4 := hfd 4 _ rfl
    simp [cells9, cells3] at g0 g1 g2 g3 g4
    obtain ⟨s, e0, _, hs⟩ := DataW.trod_string Tryd.underlying9 g0
    obtain ⟨n1, e1, _⟩ := DataW.trod_int Tryd.underlying3 g1
    obtain ⟨n2, e2, _⟩ := DataW.trod_int Tryd.underlying3 g2
    obtain ⟨n3, e3, _⟩ := DataW.trod_int Tryd.underlying3 g3
    obtain ⟨n4, e4, _⟩ := DataW.trod_int Tryd.underlying3 g4
    simp at e0 e1 e2 e3 e4
    subst e0 e1 e2 e3 e4
    exact ⟨⟨s, n1, n2, n3, n4⟩, rfl, hs⟩
set_option maxRecDepth 100000 in
/-- A program that came in, opened. -/
theorem open_code {H : Type} {enc : TypeId × Value → H} {W : World} {r : Reach} {b0 : Nat} {v : Value} {dt : DataW H} {ps : List MemPlace}
    (hv : Value.okWide Tryd.prog W r b0 29 v) (h : DataW.Trod enc Tryd.prog W 0 (fun _ => true) true 29 v dt ps) :
    ∃ (A : Option Addr) (n c : Nat) (f : Nat → Ins), v = .slice A n c ∧ Code W A n f ∧ n ≤ 9223372036854775807 ∧ ∀ j, j < n → (f j).op.size ≤ 9223372036854775807 := by
  obtain ⟨a1, len, cap, rfl⟩ := okWide_slice Tryd.underlying29 hv
  obtain ⟨fuel, hf⟩ := h
  rcases Go.Deep.open_slice Tryd.underlying29 hf with ⟨hcs, hx⟩ | ⟨a, len', cap', m, n, D, Pl, hcs, _, hl, hm, hmm, hx, hel⟩
  · simp [Value.cells] at hcs
    obtain ⟨rfl, rfl, rfl⟩ := hcs
    exact ⟨none, 0, 0, fun _ => zIns, rfl, .inl rfl, by omega, fun j hj => by omega⟩
  · simp [Value.cells] at hcs
    obtain ⟨rfl, rfl, rfl⟩ := hcs
    simp only [if_true] at hmm
    unfold maxLen at hm
    rw [cells38] at hel
    have hex : ∀ i, i < len → ∃ c : Ins, (∀ k, k < 5 → W.cell? (a.add (i * 5 + k)) = some (c.part k)) ∧ c.op.size ≤ 9223372036854775807 := by
      intro i hi
      obtain ⟨cs', h1, h2⟩ := hel i (by omega)
      obtain ⟨_, hl5, h3⟩ := World.cells?_some h1
      obtain ⟨c, rfl, hs⟩ := ins_of hl5 h2
      refine ⟨c, fun k hk => ?_, by unfold maxLen at hs; omega⟩
      have := h3 k hk
      rw [Addr.add_add] at this
      rw [this]
      match k, hk with
      | 0, _ => rfl
      | 1, _ => rfl
      | 2, _ => rfl
      | 3, _ => rfl
      | 4, _ => rfl
    refine ⟨some a, len, cap, fun i => if h : i < len then Classical.choose (hex i h) else zIns, rfl, ?_, by omega, fun j hj => ?_⟩
    · by_cases h0 : len = 0
      · exact .inl h0
      · obtain ⟨ab, ao, spot⟩ := a
        have c0 := (Classical.choose_spec (hex 0 (by omega))).1 0 (by omega)
        have hspot : spot = none := by simpa [Addr.add] using World.cell?_spot c0
        subst hspot
        rw [Addr.add_lit] at c0
        refine .inr ⟨ab, ao, rfl, World.block_lt_of_cell? W _ c0, fun j i hj hi => ?_⟩
        have := (Classical.choose_spec (hex j hj)).1 i hi
        rw [Addr.add_lit] at this
        simp only [dif_pos hj, Nat.add_assoc]
        exact this
    · simp only [dif_pos hj]
      exact (Classical.choose_spec (hex j hj)).2



set_option maxRecDepth 100000 in
theorem fnExactShowCode_lifted (os : Os) (started : os.Started) (H : Type) (enc : TypeId × Value → H) :
    ReturnsInHanded {} Tryd.checked os 4 .any (fun w args => (Rows.fnExactShowCodeSpec.pre enc Tryd.prog Tryd.f4 [] false w args ∧ laidMetH Tryd.prog LD w) ∧ sizedMet enc Tryd.prog Tryd.f4 (OpenSpec.ofChange Rows.fnExactShowCodeSpec) false w args)
      (Rows.fnExactShowCodeSpec.post enc Tryd.prog Tryd.f4 false true false false) := by
  refine returnsInHanded_of_change_and (C := Tryd.checked) (X := fun w _ => laidMetH Tryd.prog LD w) (fun _ _ _ hh h => h.of_heap hh) own started (by kernel_rfl) Tryd.func4
    (ChangeSpec.witness_shaped (enc := enc) (C := Tryd.checked) (os := os) (X := fun w _ => laidMetH Tryd.prog LD w) false (World.doorLaid Tryd.prog 400 os) #[.slice none 0 0] 8 rfl (World.shaped_of_RefB (by kernel_rfl) (by kernel_rfl)) (by kernel_rfl) (by kernel_rfl) (by kernel_rfl) (door_met os _)) ?_
  intro W base args ds gs before hval0 hW _ _ hL _
  have hval : ∀ (j : Nat) t v, Tryd.f4.params[j]? = some t → args[j]? = some v → Value.okWide Tryd.prog W .any base t v := hval0
  have hW' := hW
  have hlt := hW.lt
  obtain ⟨p, q, hA0, hV0, rfl, hfz, hnd⟩ := hW
  have hA : DataW.TrodAll enc Tryd.prog W 0 (fun _ => true) true Tryd.f4.params.toList args.toList ds p := hA0
  have hV : DataW.TrodVars enc Tryd.prog W (fun _ => true) ["loop.example/smallmachines/impl.wordTexts"] gs q := hV0
  rw [Tryd.params4] at hA hval
  obtain ⟨v0, d0, rfl, rfl, h0⟩ := trodAll_one hA
  have hwt := wt_of_var (var_of_laid hL)
  have hpow := pow_of_laid hL
  obtain ⟨g, t, cs, fuel, dd, p', rfl, hg, ht, hvar, hd, rfl⟩ := trodVars_one hV
  obtain rfl := Option.some.inj (gWT.symm.trans hg)
  obtain rfl := Option.some.inj (tWT.symm.trans ht)
  obtain rfl : cs = wtCells := Option.some.inj (hvar.symm.trans (var_of_laid hL))
  obtain ⟨rfl, rfl⟩ := DataW.Trod.unique (v := .agg wtCells) ⟨fuel, hd⟩ ⟨3, reads_table enc W _⟩
  have h0' := h0
  obtain ⟨A, n, c, f, rfl, hCo, hCn, hCs⟩ := open_code (hval 0 29 v0 rfl rfl) h0
  clear hA0 hV0 hval0
  refine (exactShowCode_walk A n c f W hwt hpow hCo hCn hCs).mono fun e W' ⟨he, hb⟩ => ?_
  subst he
  refine ⟨_, rfl, post_off (pa := p) hW' (fun _ _ _ => trodAll_mk1 (shut_bool Tryd.underlying4 _)) (trodAll_mk1 (Below.trod laidOut (by kernel_rfl) (of_decide_eq_true (by kernel_rfl)) h0' hb (fun x hx => hlt x (List.mem_append_left _ hx)))) ⟨0, 46, wtCells, 3, [], [], hg, ht, var_of_wt (hwt.below hb (wt_lt hwt)), reads_table enc W' _, rfl, rfl⟩ rfl hb⟩
theorem fnExactShowCode_holds : Rows.FnExactShowCodeSaid :=
  OpenClaim.holds_of_wide 4 Tryd.f4 rfl rfl rfl rfl rfl rfl rfl ⟨rfl, rfl, rfl, rfl, rfl⟩ rfl rfl rfl rfl rfl (by kernel_rfl) Tryd.func4 (by kernel_rfl)
    (of_decide_eq_true (by kernel_rfl)) (by unfold Func.isWrapper; rw [if_neg (of_decide_eq_false (by kernel_rfl))]; exact ⟨rfl, rfl⟩)
    (fun os started H enc _ => fnExactShowCode_lifted os started H enc)
/-- The tied card of FnExactShowCode. -/
theorem fnExactShowCode_card : Rows.FnExactShowCodeCardSaid :=
  Claim7.holds_tied_plain_at .later [] [.data, .data, .data, .data] true (true, "6ee8001fa84e48f913d50ed4b9a76b92d889c0b62c28ccebcc57061737dddda2") false
    fnExactShowCode_holds (fun _ h => by cases h) (by kernel_rfl) (fun _ h => by cases h) fnExactShowCode_row_tie rfl ⟨rfl, rfl⟩ (by kernel_rfl) rfl
    (fun f fn hf hfn => by
      obtain rfl : f = 4 := Option.some.inj ((show Tryd.prog.funcNamed "loop.example/smallmachines/laws.FnExactShowCode" = some 4 by kernel_rfl).symm.trans hf) |>.symm
      obtain rfl : fn = Tryd.f4 := (Option.some.inj (Tryd.func4.symm.trans hfn)).symm
      exact ⟨by kernel_rfl, fun j t ht => by
        rw [Tryd.params4] at ht
        have hm : t ∈ [29] := by simpa using Array.mem_of_getElem? ht
        have hall : ([29].all fun u => !Tryd.prog.wantsStandIn u) = true := by kernel_rfl
        exact (show Tryd.prog.wantsStandIn t = false by simpa using List.all_eq_true.1 hall t hm)⟩)
    (by kernel_rfl)
#print axioms fnExactShowCode_card
end Go.Proofs.YthdpicdgogpecaaDoor
