/- ValidCode answers as its model for the drawn program; a valid program's instructions are valid, and it may halt behind its end if there is room, for every list of bytes, under the conditions of the row. -/
import Derived.Test.YtghpgpklhenleaaDoorW61
namespace Go.Proofs.YtghpgpklhenleaaDoor
open Go.ChangeShapes Go.WideShapes Go.ChangeAt Go.WideMaps Go.WideElems Go.RowKit
/-- What is drawn: some program; nothing that was there has changed. -/
def DrawC (w : World) (e : Ending) (w' : World) : Prop :=
  ∃ (g' k c : Nat) (f : Nat → Ins), e = .returned (.slice (some ⟨g', 0, none⟩) k c) ∧ k ≤ 14 ∧ Code w' (some ⟨g', 0, none⟩) k f ∧ w.grownBy w' none
set_option maxHeartbeats 1000000 in
theorem DrawValidCode_any (A : Option Addr) (n cap : Nat) (zs : List Int) (w : World) (h : Bys w A n cap zs) :
    Calls Tryd.prog 23 #[.slice A n cap] w (DrawC w) := by
  have HN := shade (newReader_any A n cap zs _ h)
  clear h
  go_enter Tryd.func23, Tryd.ntmps23
  go_wp2_with fail
  refine HN.out.mono ?_
  rintro e w1 ⟨m, rfl, hR, hb1⟩
  have HR := shade hR
  have HB := shade hb1
  clear hR hb1 HN
  go_wp2_with fail
  refine (someCode_any HR.out (by omega)).mono ?_
  rintro e w2 ⟨g', k, c, f, rfl, hk, hC, hG⟩
  have HC := shade hC
  have HG := shade (show w.grownBy w2 none from ⟨hG.os.trans HB.out.os, hG.tape.trans HB.out.tape, hG.output.trans HB.out.output, Nat.le_trans HB.out.size hG.size, fun i hi _ => (hG.block i (Nat.lt_of_lt_of_le hi HB.out.size) (by intro e; injection e; omega)).trans (HB.out.block i hi)⟩)
  clear hG hC
  go_wp2_with fail
  go_ret
  exact ⟨g', k, c, f, rfl, hk, HC.out, HG.out⟩
theorem Code.cells {w : World} {ad : Addr} {n : Nat} {f : Nat → Ins} (h : Code w (some ad) n f) : ∀ j u, (codeL n f)[j]? = some u → w.cell? (ad.add j) = some u := by
  intro j u hj
  by_cases hjn : j < n * 5
  · rcases h with h | ⟨b, off, hA, hb, hc⟩
    · omega
    · injection hA with hA
      subst hA
      have e := codeL_get n f (j / 5) (j % 5) (by omega) (by omega)
      rw [show j / 5 * 5 + j % 5 = j by omega, hj] at e
      injection e with e
      subst e
      rw [Addr.add_lit, ← hc (j / 5) (j % 5) (by omega) (by omega), Nat.add_assoc, show j / 5 * 5 + j % 5 = j by omega]
  · rw [List.getElem?_eq_none (by rw [codeL_len]; omega)] at hj
    cases hj
theorem codeL_oneCell (n : Nat) (f : Nat → Ins) : ∀ u ∈ codeL n f, u.oneCell' = true := by
  intro u hu
  simp only [codeL, rowL, List.mem_map] at hu
  obtain ⟨j, _, rfl⟩ := hu
  rcases (show j % 5 = 0 ∨ j % 5 = 1 ∨ j % 5 = 2 ∨ j % 5 = 3 ∨ j % 5 = 4 by omega) with e | e | e | e | e <;> rw [e] <;> rfl
theorem okI_vB {n : Nat} {c : Ins} (h : okI n c = true) : vB c.op.toList c.d c.a c.b c.k = true := by
  simp only [okI, Bool.and_eq_true] at h
  exact h.1
theorem vcB_ok {n : Nat} {f : Nat → Ins} (h : vcB n f = true) : ∀ j, j < n → okI n (f j) = true := by
  simp only [vcB, Bool.and_eq_true] at h
  exact allI_iff.1 h.1
theorem okI_more {n : Nat} {c : Ins} (h : okI n c = true) : okI (n + 1) c = true := by
  simp only [okI, Bool.and_eq_true, Bool.not_eq_true', Bool.and_eq_false_iff, decide_eq_false_iff_not] at h ⊢
  refine ⟨h.1, ?_⟩
  rcases h.2 with h2 | h2
  · exact .inl h2
  · exact .inr (by omega)
/-- The instruction that halts. -/
def hIns : Ins := ⟨⟨#[104, 108, 116]⟩, 0, 0, 0, 0⟩
theorem okI_hlt (n : Nat) : okI n hIns = true := by
  have h1 : vB hIns.op.toList hIns.d hIns.a hIns.b hIns.k = true := by decide +kernel
  have h2 : jmpB hIns.op.toList = false := by decide +kernel
  simp [okI, h1, h2]
theorem vcB_more {n : Nat} {f : Nat → Ins} (h : vcB n f = true) (hn : n < 40) : vcB (n + 1) (fun j => if j = n then hIns else f j) = true := by
  rw [vcB_all (fun j hj => ?_)]
  · exact decide_eq_true (by omega)
  · show okI (n + 1) (if j = n then hIns else f j) = true
    by_cases e : j = n
    · rw [if_pos e]
      exact okI_hlt _
    · rw [if_neg e]
      exact okI_more (vcB_ok h j (by omega))
theorem grown_row {a b c : World} {row : Option Nat} (h : a.grownBy b none) (h' : b.grownBy c row) (hr : ∀ k, row = some k → a.heap.size ≤ k) : a.grownBy c none :=
  ⟨h'.os.trans h.os, h'.tape.trans h.tape, h'.output.trans h.output, Nat.le_trans h.size h'.size, fun i hi _ => (h'.block i (Nat.lt_of_lt_of_le hi h.size) (fun e => by
    have := hr i e.symm
    omega)).trans (h.block i hi (by simp))⟩
section
variable {P : Program} {w : World}
theorem wpList_wanted {ops : Array Oper} {rest : List Oper} {o : Oper} {a : Act} {Q : Exit → Act → World → Prop} (hw : Region.wanted o (yielded ops a.tmps) = true)
    (h : ∀ K : Act → World → Prop, (∀ a w, wpList P ops Q rest a w → K a w) → o.wp P a w K Q) : wpList P ops Q (o :: rest) a w :=
  wpList_step fun K hK => by rw [if_pos hw]; exact h K hK
theorem wpList_append_own_g {ops : Array Oper} {rest : List Oper} {o : Oper} {a : Act} {Q : Exit → Act → World → Prop} (hgd : Region.wanted o (yielded ops a.tmps) = true) (s x : Operand) (t : TypeId)
    (ho : o.op = .call { callee := .builtin .append, args := #[s, x], argTypes := #[t, t] })
    (base : Nat) (e : TypeId) (i : TypeInfo) (z : Value) (size bytes : Nat) (ht : P.underlying t = some (.slice e)) (hi : P.info? e = some i) (hz : i.zero = some z)
    (hsize : i.size = size) (hby : i.bytes = bytes) (hzs : z.cells.size = size) (hsz : 0 < size)
    (v : Value) (n : Nat) (xs : List Value) (hs : a.eval s = v) (hown : w.ownsRow base e size v n xs)
    (ad : Addr) (m c : Nat) (news : List Value) (hx : a.eval x = .slice (some ad) m c) (hl : news.length = m * size) (hnews : ∀ j u, news[j]? = some u → w.cell? (ad.add j) = some u) (h1 : ∀ u ∈ news, u.oneCell' = true)
    (h63 : n + m ≤ maxLen) (hbytes : (n + m) * bytes ≤ 140737488355328) (hbase : base ≤ w.heap.size)
    (h : ∀ v' w', w'.ownsRow base e size v' (n + m) (xs ++ news) → w.grownBy w' v.ownBlock → (v' = .slice none 0 0 ↔ v = .slice none 0 0 ∧ m = 0) → wpList P ops Q rest (a.put o.dst v') w') : wpList P ops Q (o :: rest) a w :=
  wpList_wanted hgd fun _ hK => wp_append_own w s x t ho base e i z size bytes ht hi hz hsize hby hzs hsz v n xs hs hown ad m c news hx hl hnews h1 h63 hbytes hbase fun v' w' h2 h3 h4 => hK _ _ (h v' w' h2 h3 h4)
end
set_option maxHeartbeats 8000000 in
theorem fnValidCode_walk (A : Option Addr) (n cap : Nat) (zs : List Int) (w : World) (hg : WT w) (hB : Bys w A n cap zs) :
    Calls Tryd.prog 6 #[.slice A n cap] w fun e w' => e = .returned (.bool true) ∧ Below w.heap.size w w' := by
  have HG := shade hg
  have HBy := shade hB
  have hcap := hB.fits
  have hbig := hB.big
  unfold maxLen at hbig
  clear hg hB
  by_cases hl : 1048576 < n
  · go_enter Tryd.func6, Tryd.ntmps6
    go_wp2
    go_ret
    exact ⟨rfl, by go_grown⟩
  go_enter Tryd.func6, Tryd.ntmps6
  go_wp2_with fail
  refine (DrawValidCode_any A n cap zs _ HBy.out).mono ?_
  rintro e w1 ⟨g', k, c, f, rfl, hk, hC, hG⟩
  have HC1 := shade hC
  have HG1 := shade hG
  clear hC hG
  go_wp2_with fail
  refine (ValidCode_any (some ⟨g', 0, none⟩) k c f _ (HG.out.below (below_of_grown HG1.out) (wt_lt HG.out)) (by omega) HC1.out).mono ?_
  rintro e w2 ⟨rfl, hgr⟩
  have HG2 := shade (grown_same HG1.out hgr)
  have HC2 := shade (HC1.out.on hgr)
  clear hgr HG1 HC1
  rcases hv : vcB k f with _ | _
  · have HV := shade hv
    clear hv
    go_wp2_with fail
    refine (SpecValidCode_any (some ⟨g', 0, none⟩) k c f _ (by omega) HC2.out).mono ?_
    rw [HV.out]
    rintro e w3 ⟨rfl, hgr⟩
    have HG3 := shade (grown_same HG2.out hgr)
    have HC3 := shade (HC2.out.on hgr)
    clear hgr HG2 HC2
    go_wp2_with fail
    refine (SpecValidCode_any (some ⟨g', 0, none⟩) k c f _ (by omega) HC3.out).mono ?_
    rw [HV.out]
    rintro e w4 ⟨rfl, hgr⟩
    have HG4 := shade (grown_same HG3.out hgr)
    clear hgr HG3 HC3
    go_wp2_with fail
    go_ret
    exact ⟨rfl, below_of_grown HG4.out⟩
  · have HV := shade hv
    clear hv
    go_wp2_with fail
    refine (SpecValidCode_any (some ⟨g', 0, none⟩) k c f _ (by omega) HC2.out).mono ?_
    rw [HV.out]
    rintro e w3 ⟨rfl, hgr⟩
    have HG3 := shade (grown_same HG2.out hgr)
    have HC3 := shade (HC2.out.on hgr)
    clear hgr HG2 HC2
    go_wp2_with fail
    go_loopw [5] (fun i wr => ∃ j : Nat, j ≤ k ∧ i = .int .i64 j ∧ w3.grownBy wr none) (fun i _ => k - (intOf i).toNat)
    case atStart => exact ⟨0, Nat.zero_le _, rfl, World.grownBy.refl _ _⟩
    case round =>
      obtain ⟨j, hj, rfl, hgr⟩ := hrel
      have HR := shade hgr
      clear hgr
      by_cases hjk : j < k
      · have hC := HC3.out.on HR.out
        obtain ⟨q0, q1, q2, q3, q4⟩ := hC.five hjk
        have hvb := okI_vB (vcB_ok HV.out j hjk)
        clear hC
        generalize f j = cc at *
        obtain ⟨op, d, a, b', kk⟩ := cc
        simp only [Nat.zero_add] at q0 q1 q2 q3 q4 hvb
        have HVB := shade hvb
        clear hvb
        go_wp2_with fail
        refine (ValidInstr_any _ _ _ _ _ _ (HG.out.below (below_of_grown (grown_same HG3.out HR.out)) (wt_lt HG.out))).mono ?_
        rw [HVB.out]
        rintro e w4 ⟨rfl, hb⟩
        have HR4 := shade (grown_same HR.out (grown_of_below hb))
        clear hb
        go_wp2_with fail
        go_roundw
        case rel => exact ⟨j + 1, by omega, by go_num, HR4.out⟩
        case measure => simp [intOf]; omega
      · have hjk2 : j = k := by omega
        subst hjk2
        have HC4 := shade (HC3.out.on HR.out)
        have HG4 := shade (grown_same HG3.out HR.out)
        clear HR HC3 HG3
        have h40 : ((j : Int) == 40) = false := by rw [beq_eq_false_iff_ne]; omega
        obtain ⟨i0, hi, hz0, hz1, hz2⟩ := info_parts info24
        go_upto_region 12 with (fail)
        go_wp2_with (first
          | (at_builtin; refine wpList_append_own_g rfl (.tmp 41) (.tmp 42) 35 rfl w.heap.size 24 i0 (.agg #[.string ⟨#[]⟩, .int .i64 0, .int .i64 0, .int .i64 0, .int .i64 0]) 5 48 Tryd.underlying35 hi hz0 hz1 hz2 rfl (by decide) _ 0 [] rfl (World.ownsRow_lit _ #[] 0 HG4.out.size (by decide) rfl) ⟨g', 0, none⟩ j c (codeL j f) rfl (codeL_len _ _) ((HC4.out.alloc _).cells) (codeL_oneCell _ _) (by unfold maxLen; omega) (by omega) (by have := HG4.out.size; simp; omega) ?_; intro v6 w6 hown6 hgr6 hnil6; rw [Nat.zero_add, List.nil_append] at hown6)
          | (at_builtin; have hq := hown6; go_loud (refine wpList_append_own_g rfl (.tmp 43) (.tmp 45) 35 rfl w.heap.size 24 i0 (.agg #[.string ⟨#[]⟩, .int .i64 0, .int .i64 0, .int .i64 0, .int .i64 0]) 5 48 Tryd.underlying35 hi hz0 hz1 hz2 rfl (by decide) _ j (codeL j f) rfl (World.ownsRow.alloc hown6 _) ⟨w6.heap.size, 0, none⟩ 1 1 [.string ⟨#[104, 108, 116]⟩, .int .i64 0, .int .i64 0, .int .i64 0, .int .i64 0] rfl rfl (cells_new _ _ _ _ _ _ _) (one_cells _ _ _ _ _) (by unfold maxLen; omega) (by omega) (by have := HG4.out.size; have := hgr6.size; simp at this; simp; omega) ?_; intro v7 w7 hown7 hgr7 hnil7))
          | fail)
        have h7 : w7.ownsRow w.heap.size 24 5 v7 (j + 1) (codeL (j + 1) (fun i => if i = j then hIns else f i)) := by
          rw [← codeL_snoc j f hIns]
          exact hown7
        obtain ⟨g7, c7, rfl⟩ : ∃ g7 c7, v7 = .slice (some ⟨g7, 0, none⟩) (j + 1) c7 := by
          rcases h7.2 with ⟨_, h0⟩ | ⟨g7, c7, _, e, _⟩
          · omega
          · exact ⟨g7, c7, e⟩
        have HG6 := shade (grown_row (grown_same HG4.out (World.grownBy_alloc wr (.cells #[] 24) none)) hgr6 (fun k e => by
          have e2 : some wr.heap.size = some k := e
          injection e2 with e2
          have := HG4.out.size
          omega))
        have HG7 := shade (grown_row (grown_same HG6.out (World.grownBy_alloc _ _ none)) hgr7 (fun k e => (World.ownsRow.lt hown6 k e).1))
        have HC7 := shade (OwnC.code h7)
        have HV7 := shade (vcB_more HV.out (by omega))
        clear h7 hown6 hown7 hgr6 hgr7 hnil6 hnil7 hi hz0 hz1 hz2
        refine (ValidCode_any (some ⟨g7, 0, none⟩) (j + 1) c7 _ _ (HG.out.below (below_of_grown HG7.out) (wt_lt HG.out)) (by omega) HC7.out).mono ?_
        rw [HV7.out]
        rintro e w8 ⟨rfl, hgr⟩
        have HG8 := shade (grown_same HG7.out hgr)
        clear hgr
        go_wp2_with fail
        go_ret
        exact ⟨rfl, below_of_grown HG8.out⟩


set_option maxRecDepth 100000 in
theorem fnValidCode_lifted (os : Os) (started : os.Started) (H : Type) (enc : TypeId × Value → H) :
    ReturnsInHanded {} Tryd.checked os 6 .any (fun w args => (Rows.fnValidCodeSpec.pre enc Tryd.prog Tryd.f6 [] false w args ∧ laidMetH Tryd.prog LD w) ∧ sizedMet enc Tryd.prog Tryd.f6 (OpenSpec.ofChange Rows.fnValidCodeSpec) false w args)
      (Rows.fnValidCodeSpec.post enc Tryd.prog Tryd.f6 false true false false) := by
  refine returnsInHanded_of_change_and (C := Tryd.checked) (X := fun w _ => laidMetH Tryd.prog LD w) (fun _ _ _ hh h => h.of_heap hh) own started (by kernel_rfl) Tryd.func6
    (ChangeSpec.witness_shaped (enc := enc) (C := Tryd.checked) (os := os) (X := fun w _ => laidMetH Tryd.prog LD w) false (World.doorLaid Tryd.prog 400 os) #[.slice none 0 0] 8 rfl (World.shaped_of_RefB (by kernel_rfl) (by kernel_rfl)) (by kernel_rfl) (by kernel_rfl) (by kernel_rfl) (door_met os _)) ?_
  intro W base args ds gs before hval0 hW _ _ hL _
  have hval : ∀ (j : Nat) t v, Tryd.f6.params[j]? = some t → args[j]? = some v → Value.okWide Tryd.prog W .any base t v := hval0
  have hW' := hW
  have hlt := hW.lt
  obtain ⟨p, q, hA0, hV0, rfl, hfz, hnd⟩ := hW
  have hA : DataW.TrodAll enc Tryd.prog W 0 (fun _ => true) true Tryd.f6.params.toList args.toList ds p := hA0
  have hV : DataW.TrodVars enc Tryd.prog W (fun _ => true) ["loop.example/smallmachines/impl.wordTexts"] gs q := hV0
  rw [Tryd.params6] at hA hval
  obtain ⟨v0, d0, rfl, rfl, h0⟩ := trodAll_one hA
  have hwt := wt_of_var (var_of_laid hL)
  obtain ⟨g, t, cs, fuel, dd, p', rfl, hg, ht, hvar, hd, rfl⟩ := trodVars_one hV
  obtain rfl := Option.some.inj (gWT.symm.trans hg)
  obtain rfl := Option.some.inj (tWT.symm.trans ht)
  obtain rfl : cs = wtCells := Option.some.inj (hvar.symm.trans (var_of_laid hL))
  obtain ⟨rfl, rfl⟩ := DataW.Trod.unique (v := .agg wtCells) ⟨fuel, hd⟩ ⟨3, reads_table enc W _⟩
  have h0' := h0
  obtain ⟨A, n, cap, zs, rfl, hBy⟩ := open_bytes (hval 0 22 v0 rfl rfl) h0
  clear hA0 hV0 hval0
  refine (fnValidCode_walk A n cap zs W hwt hBy).mono fun e W' ⟨he, hb⟩ => ?_
  subst he
  refine ⟨_, rfl, post_off (pa := p) hW' (fun _ _ _ => trodAll_mk1 (shut_bool Tryd.underlying4 _)) (trodAll_mk1 (Below.trod laidOut (by kernel_rfl) (of_decide_eq_true (by kernel_rfl)) h0' hb (fun x hx => hlt x (List.mem_append_left _ hx)))) ⟨0, 67, wtCells, 3, [], [], hg, ht, var_of_wt (hwt.below hb (wt_lt hwt)), reads_table enc W' _, rfl, rfl⟩ rfl hb⟩
theorem fnValidCode_holds : Rows.FnValidCodeSaid :=
  OpenClaim.holds_of_wide 6 Tryd.f6 rfl rfl rfl rfl rfl rfl rfl ⟨rfl, rfl, rfl, rfl, rfl⟩ rfl rfl rfl rfl rfl (by kernel_rfl) Tryd.func6 (by kernel_rfl)
    (of_decide_eq_true (by kernel_rfl)) (by unfold Func.isWrapper; rw [if_neg (of_decide_eq_false (by kernel_rfl))]; exact ⟨rfl, rfl⟩)
    (fun os started H enc _ => fnValidCode_lifted os started H enc)
/-- The tied card of FnValidCode. -/
theorem fnValidCode_card : Rows.FnValidCodeCardSaid :=
  Claim7.holds_tied_plain_at .later [] [.data] true (true, "ff96c6f6f89e4ec2bb02e13cb710e4578bd0830db7a4beb2f681030b5e5aac29") false
    fnValidCode_holds (fun _ h => by cases h) (by kernel_rfl) (fun _ h => by cases h) fnValidCode_row_tie rfl ⟨rfl, rfl⟩ (by kernel_rfl) rfl
    (fun f fn hf hfn => by
      obtain rfl : f = 6 := Option.some.inj ((show Tryd.prog.funcNamed "loop.example/smallmachines/laws.FnValidCode" = some 6 by kernel_rfl).symm.trans hf) |>.symm
      obtain rfl : fn = Tryd.f6 := (Option.some.inj (Tryd.func6.symm.trans hfn)).symm
      exact ⟨by kernel_rfl, fun j t ht => by
        rw [Tryd.params6] at ht
        have hm : t ∈ [22] := by simpa using Array.mem_of_getElem? ht
        have hall : ([22].all fun u => !Tryd.prog.wantsStandIn u) = true := by kernel_rfl
        exact (show Tryd.prog.wantsStandIn t = false by simpa using List.all_eq_true.1 hall t hm)⟩)
    (by kernel_rfl)

#print axioms fnValidCode_card

end Go.Proofs.YtghpgpklhenleaaDoor
