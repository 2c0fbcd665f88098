/- What DecodeInstr gives for the drawn number is what its model gives, and EncodeInstr gives the number back, for every list of bytes, under the conditions of the row. -/
import Derived.Test.YtghpgpklhenleaaDoorW25
namespace Go.Proofs.YtghpgpklhenleaaDoor
open Go.ChangeShapes Go.WideShapes Go.ChangeAt Go.WideMaps Go.WideElems Go.RowKit


theorem Rd.below {w w' : World} {g : Nat} {A : Option Addr} {n cap : Nat} {zs : List Int} {p : Nat} (h : Rd w g A n cap zs p) (hb : Below w.heap.size w w') : Rd w' g A n cap zs p := by
  refine ⟨h.blk.below hb h.blk.inside, h.len, h.cap, fun hn => ?_, h.rng, h.few⟩
  obtain ⟨b, off, hA, hbg, hc⟩ := h.cells hn
  have hl := h.low hA hn
  exact ⟨b, off, hA, hbg, fun j hj => (hb.cell (p := ⟨b, off + j, none⟩) hl).trans (hc j hj)⟩
theorem encV_range (l : List UInt8) (d a b k : Int) : -1 ≤ encV l d a b k ∧ encV l d a b k < 163840 := by
  rcases Bool.eq_false_or_eq_true (vB l d a b k) with hv | hv
  · obtain ⟨⟨n0, n1⟩, ⟨b1, b1'⟩, ⟨b2, b2'⟩, ⟨b3, b3'⟩, ⟨b4, b4'⟩⟩ := VI_bounds (vB_true.1 hv)
    rw [enc_yes hv]
    omega
  · rw [enc_no hv]
    omega
set_option maxHeartbeats 2000000 in
theorem DrawDecodeInstr_any (A : Option Addr) (n cap : Nat) (zs : List Int) (w : World) (h : Bys w A n cap zs) :
    Calls Tryd.prog 21 #[.slice A n cap] w fun e w' => ∃ x : Int, (-1 ≤ x ∧ x ≤ 1000000) ∧ e = .returned (.int .i64 x) ∧ Below w.heap.size w w' := by
  have HN := shade (newReader_any A n cap zs _ h)
  clear h
  go_enter Tryd.func21, Tryd.ntmps21
  go_wp2_with fail
  refine HN.out.mono ?_
  rintro e w1 ⟨m, rfl, hR, hb1⟩
  have HB1 := shade hb1
  have HG := shade (goodInstr_any 12 (by omega) (by omega) hR (by omega))
  clear hb1 hR HN
  go_wp2_with fail
  refine HG.out.mono ?_
  rintro e w2 ⟨op, d, a, b, k, q, hq, rfl, hR, hG⟩
  have HB2 := shade (show Below w.heap.size w w2 from HB1.out.grown hG HB1.out.size (by intro g hg; injection hg with hg; omega))
  have HR2 := shade hR
  clear hG HB1 hR HG
  go_wp2_with fail
  refine (SpecEncodeInstr_any _ _ _ _ _ _).mono ?_
  rintro e w3 ⟨rfl, hb3⟩
  obtain ⟨l0, l1⟩ := encV_range op.toList d a b k
  generalize encV op.toList d a b k = v at *
  have hR := HR2.out.below hb3
  have HB3 := shade (below_then HB2.out hb3)
  clear hb3 HR2 HB2
  have HR3 := shade hR
  clear hR
  go_wp2_with fail
  refine (pick_rel 256 HR3.out (by omega)).mono ?_
  rintro e w4 ⟨y1, ⟨y1a, y1b, _⟩, rfl, hR, hG⟩
  have y1c := y1b (by omega)
  have HB4 := shade (show Below w.heap.size w w4 from HB3.out.grown hG HB3.out.size (by intro g hg; injection hg with hg; omega))
  have HR4 := shade hR
  clear hR hG HB3 HR3 y1b
  go_wp2_with fail
  refine (pick_rel 256 HR4.out (by omega)).mono ?_
  rintro e w5 ⟨y2, ⟨y2a, y2b, _⟩, rfl, hR, hG⟩
  have y2c := y2b (by omega)
  have HB5 := shade (show Below w.heap.size w w5 from HB4.out.grown hG HB4.out.size (by intro g hg; injection hg with hg; omega))
  have HR5 := shade hR
  have z0 : 0 ≤ y1 * y2 := Int.mul_nonneg y1a y2a
  have z1 : y1 * y2 ≤ 255 * 255 := Int.mul_le_mul (by omega) (by omega) y2a (by omega)
  have z2 : y1 * y2 ≤ 65025 := z1
  clear hR hG HB4 HR4 y2b z1
  go_wp2_with fail
  refine (one_rel (fun x => -1 ≤ x ∧ x ≤ 1000000) (HR5.out.alloc _) (by omega) _ _ _ (by omega) (by omega) (by omega) (by have := HR5.out.blk.inside; omega) (by
    intro j hj
    rw [World.cell?_alloc_new]
    rcases (show j = 0 ∨ j = 1 ∨ j = 2 ∨ j = 3 ∨ j = 4 ∨ j = 5 ∨ j = 6 ∨ j = 7 by omega) with rfl | rfl | rfl | rfl | rfl | rfl | rfl | rfl <;> exact ⟨_, by constructor <;> omega, rfl⟩)).mono ?_
  rintro e w6 ⟨x, hx, rfl, hR, hG⟩
  have HB6 := shade (show Below w.heap.size w w6 from (HB5.out.alloc HB5.out.size _).grown hG (by have := HB5.out.size; simp; omega) (by intro g hg; injection hg with hg; omega))
  clear hR hG
  go_wp2_with fail
  go_ret
  exact ⟨x, hx, rfl, HB6.out⟩


theorem wordN_wT (q : Nat) (hq : q < 10) : wordN (wT q).toList = q := by
  match q, hq with
  | 0, _ => exact (congrArg wordN toList_0).trans wordN_at0
  | 1, _ => exact (congrArg wordN toList_1).trans wordN_at1
  | 2, _ => exact (congrArg wordN toList_2).trans wordN_at2
  | 3, _ => exact (congrArg wordN toList_3).trans wordN_at3
  | 4, _ => exact (congrArg wordN toList_4).trans wordN_at4
  | 5, _ => exact (congrArg wordN toList_5).trans wordN_at5
  | 6, _ => exact (congrArg wordN toList_6).trans wordN_at6
  | 7, _ => exact (congrArg wordN toList_7).trans wordN_at7
  | 8, _ => exact (congrArg wordN toList_8).trans wordN_at8
  | 9, _ => exact (congrArg wordN toList_9).trans wordN_at9
theorem enc_of_dec (x : Int) (x0 : 0 ≤ x) (x1 : x < 163840) (q : Nat) (hq : x / 16384 = q) (hv : decOk x = true) : encV (wT q).toList (x / 4096 % 4) (x / 1024 % 4) (x / 256 % 4) (x % 256) = x := by
  rw [decOk_eq x q x0 x1 hq] at hv
  rw [enc_yes hv, wordN_wT q (by omega)]
  omega


set_option maxHeartbeats 4000000 in
theorem fnDecodeInstr_walk (A : Option Addr) (n cap : Nat) (zs : List Int) (w : World) (hg : WT w) (hB : Bys w A n cap zs) :
    Calls Tryd.prog 5 #[.slice A n cap] w fun e w' => e = .returned (.bool true) ∧ Below w.heap.size w w' := by
  have HG := shade hg
  have HBy := shade hB
  have hcap := hB.fits
  have hbig := hB.big
  unfold maxLen at hbig
  clear hg hB
  by_cases hl : 1048576 < n
  · go_enter Tryd.func5, Tryd.ntmps5
    go_wp2
    go_ret
    exact ⟨rfl, by go_grown⟩
  go_enter Tryd.func5, Tryd.ntmps5
  go_wp2_with fail
  refine (DrawDecodeInstr_any A n cap zs _ HBy.out).mono ?_
  rintro e w1 ⟨x, ⟨hx0, hx1⟩, rfl, hb1⟩
  have HB1 := shade hb1
  clear hb1
  obtain ⟨op, d, a, b, k, ok, hS, hI, hE⟩ : ∃ (op : ByteArray) (d a b k : Int) (ok : Bool),
      (∀ W, Calls Tryd.prog 22 #[.int .i64 x] W fun e w' => e = .returned (.tuple #[IV op d a b k, .bool ok]) ∧ Below W.heap.size W w') ∧
      (∀ W, WT W → Calls Tryd.prog 20 #[.int .i64 x] W fun e w' => e = .returned (.tuple #[IV op d a b k, .bool ok]) ∧ Below W.heap.size W w') ∧
      (ok = true → encV op.toList d a b k = x) := by
    by_cases h : x < 0 ∨ 163840 ≤ x
    · exact ⟨⟨#[]⟩, 0, 0, 0, 0, false, fun W => SpecDecodeInstr_out x h W, fun W _ => DecodeInstr_out x h (by omega) W, fun h => by cases h⟩
    · have h0 : 0 ≤ x := by omega
      have h1 : x < 163840 := by omega
      obtain ⟨q, hq⟩ := Int.eq_ofNat_of_zero_le (show 0 ≤ x / 16384 by omega)
      rcases hv : decOk x with _ | _
      · exact ⟨⟨#[]⟩, 0, 0, 0, 0, false, fun W => SpecDecodeInstr_in x h0 h1 q hq W false hv, fun W hW => DecodeInstr_in x h0 h1 q hq W hW false hv, fun h => by cases h⟩
      · exact ⟨wT q, x / 4096 % 4, x / 1024 % 4, x / 256 % 4, x % 256, true, fun W => SpecDecodeInstr_in x h0 h1 q hq W true hv, fun W hW => DecodeInstr_in x h0 h1 q hq W hW true hv, fun _ => enc_of_dec x h0 h1 q hq hv⟩
  have HS := shade hS
  have HI := shade hI
  clear hS hI
  rcases ok with _ | _
  · clear hE
    go_wp2_with fail
    refine (HI.out _ (HG.out.below HB1.out (wt_lt HG.out))).mono ?_
    rintro e w2 ⟨rfl, hb2⟩
    have HB2 := shade (below_then HB1.out hb2)
    clear hb2 HB1
    go_wp2_with fail
    refine (HS.out _).mono ?_
    rintro e w3 ⟨rfl, hb3⟩
    have H3 := (Holds5.fresh w2 24 #[.string op, .int .i64 d, .int .i64 a, .int .i64 b, .int .i64 k]).below hb3 (by simp)
    have z := H3.inside
    have HB3 := shade (show Below w.heap.size w w3 from (HB2.out.alloc HB2.out.size _).trans (hb3.mono (by have := HB2.out.size; simp; omega)))
    have q0 := H3.look 0; have q1 := H3.look 1; have q2 := H3.look 2; have q3 := H3.look 3; have q4 := H3.look 4
    simp at q0 q1 q2 q3 q4
    have H3 := shade H3
    clear hb3 HB2
    go_wp2_with fail
    go_ret
    exact ⟨rfl, HB3.out.alloc HB3.out.size _⟩
  · have HE := shade (hE rfl)
    clear hE
    go_wp2_with fail
    refine (HI.out _ (HG.out.below HB1.out (wt_lt HG.out))).mono ?_
    rintro e w2 ⟨rfl, hb2⟩
    have HB2 := shade (below_then HB1.out hb2)
    clear hb2 HB1
    go_wp2_with fail
    refine (HS.out _).mono ?_
    rintro e w3 ⟨rfl, hb3⟩
    have H3 := (Holds5.fresh w2 24 #[.string op, .int .i64 d, .int .i64 a, .int .i64 b, .int .i64 k]).below hb3 (by simp)
    have z := H3.inside
    have HB3 := shade (show Below w.heap.size w w3 from (HB2.out.alloc HB2.out.size _).trans (hb3.mono (by have := HB2.out.size; simp; omega)))
    have q0 := H3.look 0; have q1 := H3.look 1; have q2 := H3.look 2; have q3 := H3.look 3; have q4 := H3.look 4
    simp at q0 q1 q2 q3 q4
    have H3 := shade H3
    clear hb3 HB2
    go_wp2_with fail
    refine (EncodeInstr_any _ _ _ _ _ _ ((HG.out.below HB3.out (wt_lt HG.out)).alloc _)).mono ?_
    rw [HE.out]
    rintro e w4 ⟨rfl, hb4⟩
    have HB4 := shade (show Below w.heap.size w w4 from (HB3.out.alloc HB3.out.size _).trans (hb4.mono (by have := HB3.out.size; simp; omega)))
    clear hb4
    go_wp2_with fail
    go_ret
    exact ⟨rfl, HB4.out⟩


set_option maxRecDepth 100000 in
theorem fnDecodeInstr_lifted (os : Os) (started : os.Started) (H : Type) (enc : TypeId × Value → H) :
    ReturnsInHanded {} Tryd.checked os 5 .any (fun w args => (Rows.fnDecodeInstrSpec.pre enc Tryd.prog Tryd.f5 [] false w args ∧ laidMetH Tryd.prog LD w) ∧ sizedMet enc Tryd.prog Tryd.f5 (OpenSpec.ofChange Rows.fnDecodeInstrSpec) false w args)
      (Rows.fnDecodeInstrSpec.post enc Tryd.prog Tryd.f5 false true false false) := by
  refine returnsInHanded_of_change_and (C := Tryd.checked) (X := fun w _ => laidMetH Tryd.prog LD w) (fun _ _ _ hh h => h.of_heap hh) own started (by kernel_rfl) Tryd.func5
    (ChangeSpec.witness_shaped (enc := enc) (C := Tryd.checked) (os := os) (X := fun w _ => laidMetH Tryd.prog LD w) false (World.doorLaid Tryd.prog 400 os) #[.slice none 0 0] 8 rfl (World.shaped_of_RefB (by kernel_rfl) (by kernel_rfl)) (by kernel_rfl) (by kernel_rfl) (by kernel_rfl) (door_met os _)) ?_
  intro W base args ds gs before hval0 hW _ _ hL _
  have hval : ∀ (j : Nat) t v, Tryd.f5.params[j]? = some t → args[j]? = some v → Value.okWide Tryd.prog W .any base t v := hval0
  have hW' := hW
  have hlt := hW.lt
  obtain ⟨p, q, hA0, hV0, rfl, hfz, hnd⟩ := hW
  have hA : DataW.TrodAll enc Tryd.prog W 0 (fun _ => true) true Tryd.f5.params.toList args.toList ds p := hA0
  have hV : DataW.TrodVars enc Tryd.prog W (fun _ => true) ["loop.example/smallmachines/impl.wordTexts"] gs q := hV0
  rw [Tryd.params5] at hA hval
  obtain ⟨v0, d0, rfl, rfl, h0⟩ := trodAll_one hA
  have hwt := wt_of_var (var_of_laid hL)
  obtain ⟨g, t, cs, fuel, dd, p', rfl, hg, ht, hvar, hd, rfl⟩ := trodVars_one hV
  obtain rfl := Option.some.inj (gWT.symm.trans hg)
  obtain rfl := Option.some.inj (tWT.symm.trans ht)
  obtain rfl : cs = wtCells := Option.some.inj (hvar.symm.trans (var_of_laid hL))
  obtain ⟨rfl, rfl⟩ := DataW.Trod.unique (v := .agg wtCells) ⟨fuel, hd⟩ ⟨3, reads_table enc W _⟩
  have h0' := h0
  obtain ⟨A, n, cap, zs, rfl, hBy⟩ := open_bytes (hval 0 22 v0 rfl rfl) h0
  clear hA0 hV0 hval0
  refine (fnDecodeInstr_walk A n cap zs W hwt hBy).mono fun e W' ⟨he, hb⟩ => ?_
  subst he
  refine ⟨_, rfl, post_off (pa := p) hW' (fun _ _ _ => trodAll_mk1 (shut_bool Tryd.underlying4 _)) (trodAll_mk1 (Below.trod laidOut (by kernel_rfl) (of_decide_eq_true (by kernel_rfl)) h0' hb (fun x hx => hlt x (List.mem_append_left _ hx)))) ⟨0, 67, wtCells, 3, [], [], hg, ht, var_of_wt (hwt.below hb (wt_lt hwt)), reads_table enc W' _, rfl, rfl⟩ rfl hb⟩
theorem fnDecodeInstr_holds : Rows.FnDecodeInstrSaid :=
  OpenClaim.holds_of_wide 5 Tryd.f5 rfl rfl rfl rfl rfl rfl rfl ⟨rfl, rfl, rfl, rfl, rfl⟩ rfl rfl rfl rfl rfl (by kernel_rfl) Tryd.func5 (by kernel_rfl)
    (of_decide_eq_true (by kernel_rfl)) (by unfold Func.isWrapper; rw [if_neg (of_decide_eq_false (by kernel_rfl))]; exact ⟨rfl, rfl⟩)
    (fun os started H enc _ => fnDecodeInstr_lifted os started H enc)
/-- The tied card of FnDecodeInstr. -/
theorem fnDecodeInstr_card : Rows.FnDecodeInstrCardSaid :=
  Claim7.holds_tied_plain_at .later [] [.data] true (true, "ff96c6f6f89e4ec2bb02e13cb710e4578bd0830db7a4beb2f681030b5e5aac29") false
    fnDecodeInstr_holds (fun _ h => by cases h) (by kernel_rfl) (fun _ h => by cases h) fnDecodeInstr_row_tie rfl ⟨rfl, rfl⟩ (by kernel_rfl) rfl
    (fun f fn hf hfn => by
      obtain rfl : f = 5 := Option.some.inj ((show Tryd.prog.funcNamed "loop.example/smallmachines/laws.FnDecodeInstr" = some 5 by kernel_rfl).symm.trans hf) |>.symm
      obtain rfl : fn = Tryd.f5 := (Option.some.inj (Tryd.func5.symm.trans hfn)).symm
      exact ⟨by kernel_rfl, fun j t ht => by
        rw [Tryd.params5] at ht
        have hm : t ∈ [22] := by simpa using Array.mem_of_getElem? ht
        have hall : ([22].all fun u => !Tryd.prog.wantsStandIn u) = true := by kernel_rfl
        exact (show Tryd.prog.wantsStandIn t = false by simpa using List.all_eq_true.1 hall t hm)⟩)
    (by kernel_rfl)

#print axioms fnDecodeInstr_card
end Go.Proofs.YtghpgpklhenleaaDoor
