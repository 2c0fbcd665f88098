/- UsesOf answers as its model at every instruction, whatever the instruction, under the conditions of the row. -/
import Derived.Test.YtabmcnkhdedohaaDoorW16
import Derived.Test.YtabmcnkhdedohaaDoorW10
namespace Go.Proofs.YtabmcnkhdedohaaDoor
open Go.ChangeShapes Go.WideShapes Go.ChangeAt Go.WideMaps Go.WideElems Go.RowKit

theorem specUsesOf_at0 (op : ByteArray) (h : (op.toList == [115, 101, 116]) = true) (d a b k : Int) (b1 : 0 ≤ d) (b1' : d ≤ 3) (b2 : 0 ≤ a) (b2' : a ≤ 3) (b3 : 0 ≤ b) (b3' : b ≤ 3) (w : World) :
    Calls Tryd.prog 49 #[IV op d a b k] w fun e w' => e = .returned (.tuple #[.int .i64 (usesR 0 d a b), .int .i64 (usesW 0 d)]) ∧ Below w.heap.size w w' := by
  obtain rfl := op_eq_0 op h
  exact (specUsesOf_0 d a b k b1 b1' b2 b2' b3 b3' w).mono fun _ _ h => ⟨h.1.trans (usesE_0 d a b), h.2⟩
theorem specUsesOf_at1 (op : ByteArray) (h : (op.toList == [97, 100, 100]) = true) (d a b k : Int) (b1 : 0 ≤ d) (b1' : d ≤ 3) (b2 : 0 ≤ a) (b2' : a ≤ 3) (b3 : 0 ≤ b) (b3' : b ≤ 3) (w : World) :
    Calls Tryd.prog 49 #[IV op d a b k] w fun e w' => e = .returned (.tuple #[.int .i64 (usesR 1 d a b), .int .i64 (usesW 1 d)]) ∧ Below w.heap.size w w' := by
  obtain rfl := op_eq_1 op h
  exact (specUsesOf_1 d a b k b1 b1' b2 b2' b3 b3' w).mono fun _ _ h => ⟨h.1.trans (usesE_1 d a b), h.2⟩
theorem specUsesOf_at2 (op : ByteArray) (h : (op.toList == [115, 117, 98]) = true) (d a b k : Int) (b1 : 0 ≤ d) (b1' : d ≤ 3) (b2 : 0 ≤ a) (b2' : a ≤ 3) (b3 : 0 ≤ b) (b3' : b ≤ 3) (w : World) :
    Calls Tryd.prog 49 #[IV op d a b k] w fun e w' => e = .returned (.tuple #[.int .i64 (usesR 2 d a b), .int .i64 (usesW 2 d)]) ∧ Below w.heap.size w w' := by
  obtain rfl := op_eq_2 op h
  exact (specUsesOf_2 d a b k b1 b1' b2 b2' b3 b3' w).mono fun _ _ h => ⟨h.1.trans (usesE_2 d a b), h.2⟩
theorem specUsesOf_at3 (op : ByteArray) (h : (op.toList == [109, 117, 108]) = true) (d a b k : Int) (b1 : 0 ≤ d) (b1' : d ≤ 3) (b2 : 0 ≤ a) (b2' : a ≤ 3) (b3 : 0 ≤ b) (b3' : b ≤ 3) (w : World) :
    Calls Tryd.prog 49 #[IV op d a b k] w fun e w' => e = .returned (.tuple #[.int .i64 (usesR 3 d a b), .int .i64 (usesW 3 d)]) ∧ Below w.heap.size w w' := by
  obtain rfl := op_eq_3 op h
  exact (specUsesOf_3 d a b k b1 b1' b2 b2' b3 b3' w).mono fun _ _ h => ⟨h.1.trans (usesE_3 d a b), h.2⟩
theorem specUsesOf_at4 (op : ByteArray) (h : (op.toList == [108, 116]) = true) (d a b k : Int) (b1 : 0 ≤ d) (b1' : d ≤ 3) (b2 : 0 ≤ a) (b2' : a ≤ 3) (b3 : 0 ≤ b) (b3' : b ≤ 3) (w : World) :
    Calls Tryd.prog 49 #[IV op d a b k] w fun e w' => e = .returned (.tuple #[.int .i64 (usesR 4 d a b), .int .i64 (usesW 4 d)]) ∧ Below w.heap.size w w' := by
  obtain rfl := op_eq_4 op h
  exact (specUsesOf_4 d a b k b1 b1' b2 b2' b3 b3' w).mono fun _ _ h => ⟨h.1.trans (usesE_4 d a b), h.2⟩
theorem specUsesOf_at5 (op : ByteArray) (h : (op.toList == [108, 100]) = true) (d a b k : Int) (b1 : 0 ≤ d) (b1' : d ≤ 3) (b2 : 0 ≤ a) (b2' : a ≤ 3) (b3 : 0 ≤ b) (b3' : b ≤ 3) (w : World) :
    Calls Tryd.prog 49 #[IV op d a b k] w fun e w' => e = .returned (.tuple #[.int .i64 (usesR 5 d a b), .int .i64 (usesW 5 d)]) ∧ Below w.heap.size w w' := by
  obtain rfl := op_eq_5 op h
  exact (specUsesOf_5 d a b k b1 b1' b2 b2' b3 b3' w).mono fun _ _ h => ⟨h.1.trans (usesE_5 d a b), h.2⟩
theorem specUsesOf_at6 (op : ByteArray) (h : (op.toList == [115, 116]) = true) (d a b k : Int) (b1 : 0 ≤ d) (b1' : d ≤ 3) (b2 : 0 ≤ a) (b2' : a ≤ 3) (b3 : 0 ≤ b) (b3' : b ≤ 3) (w : World) :
    Calls Tryd.prog 49 #[IV op d a b k] w fun e w' => e = .returned (.tuple #[.int .i64 (usesR 6 d a b), .int .i64 (usesW 6 d)]) ∧ Below w.heap.size w w' := by
  obtain rfl := op_eq_6 op h
  exact (specUsesOf_6 d a b k b1 b1' b2 b2' b3 b3' w).mono fun _ _ h => ⟨h.1.trans (show Ending.returned (.tuple #[.int .i64 (bits .or .i64 (sh a) (sh d)), .int .i64 0]) = .returned (.tuple #[.int .i64 (usesR 6 d a b), .int .i64 (usesW 6 d)]) by rw [usesR_6, usesW_6, or_comm_i]), h.2⟩
theorem specUsesOf_at7 (op : ByteArray) (h : (op.toList == [98, 122]) = true) (d a b k : Int) (b1 : 0 ≤ d) (b1' : d ≤ 3) (b2 : 0 ≤ a) (b2' : a ≤ 3) (b3 : 0 ≤ b) (b3' : b ≤ 3) (w : World) :
    Calls Tryd.prog 49 #[IV op d a b k] w fun e w' => e = .returned (.tuple #[.int .i64 (usesR 7 d a b), .int .i64 (usesW 7 d)]) ∧ Below w.heap.size w w' := by
  obtain rfl := op_eq_7 op h
  exact (specUsesOf_7 d a b k b1 b1' b2 b2' b3 b3' w).mono fun _ _ h => ⟨h.1.trans (usesE_7 d a b), h.2⟩
theorem specUsesOf_at8 (op : ByteArray) (h : (op.toList == [106, 109, 112]) = true) (d a b k : Int) (b1 : 0 ≤ d) (b1' : d ≤ 3) (b2 : 0 ≤ a) (b2' : a ≤ 3) (b3 : 0 ≤ b) (b3' : b ≤ 3) (w : World) :
    Calls Tryd.prog 49 #[IV op d a b k] w fun e w' => e = .returned (.tuple #[.int .i64 (usesR 8 d a b), .int .i64 (usesW 8 d)]) ∧ Below w.heap.size w w' := by
  obtain rfl := op_eq_8 op h
  exact (specUsesOf_8 d a b k b1 b1' b2 b2' b3 b3' w).mono fun _ _ h => ⟨h.1.trans (usesE_8 d a b), h.2⟩
theorem specUsesOf_at9 (op : ByteArray) (h : (op.toList == [104, 108, 116]) = true) (d a b k : Int) (b1 : 0 ≤ d) (b1' : d ≤ 3) (b2 : 0 ≤ a) (b2' : a ≤ 3) (b3 : 0 ≤ b) (b3' : b ≤ 3) (w : World) :
    Calls Tryd.prog 49 #[IV op d a b k] w fun e w' => e = .returned (.tuple #[.int .i64 (usesR 9 d a b), .int .i64 (usesW 9 d)]) ∧ Below w.heap.size w w' := by
  obtain rfl := op_eq_9 op h
  exact (specUsesOf_9 d a b k b1 b1' b2 b2' b3 b3' w).mono fun _ _ h => ⟨h.1.trans (usesE_9 d a b), h.2⟩
theorem word_is (l : List UInt8) (n : Nat) (hn : n < 10) (hw : wordN l = n) : (n = 0 ∧ ([115, 101, 116] == l) = true) ∨ (n = 1 ∧ ([97, 100, 100] == l) = true) ∨ (n = 2 ∧ ([115, 117, 98] == l) = true) ∨ (n = 3 ∧ ([109, 117, 108] == l) = true) ∨ (n = 4 ∧ ([108, 116] == l) = true) ∨ (n = 5 ∧ ([108, 100] == l) = true) ∨ (n = 6 ∧ ([115, 116] == l) = true) ∨ (n = 7 ∧ ([98, 122] == l) = true) ∨ (n = 8 ∧ ([106, 109, 112] == l) = true) ∨ (n = 9 ∧ ([104, 108, 116] == l) = true) := by
  unfold wordN at hw
  repeat' split at hw
  all_goals first | (exfalso; omega) | skip
  · exact .inl ⟨by omega, by assumption⟩
  · exact .inr (.inl ⟨by omega, by assumption⟩)
  · exact .inr (.inr (.inl ⟨by omega, by assumption⟩))
  · exact .inr (.inr (.inr (.inl ⟨by omega, by assumption⟩)))
  · exact .inr (.inr (.inr (.inr (.inl ⟨by omega, by assumption⟩))))
  · exact .inr (.inr (.inr (.inr (.inr (.inl ⟨by omega, by assumption⟩)))))
  · exact .inr (.inr (.inr (.inr (.inr (.inr (.inl ⟨by omega, by assumption⟩))))))
  · exact .inr (.inr (.inr (.inr (.inr (.inr (.inr (.inl ⟨by omega, by assumption⟩)))))))
  · exact .inr (.inr (.inr (.inr (.inr (.inr (.inr (.inr (.inl ⟨by omega, by assumption⟩))))))))
  · exact .inr (.inr (.inr (.inr (.inr (.inr (.inr (.inr (.inr (⟨by omega, by assumption⟩)))))))))


theorem specUsesOf_any (op : ByteArray) (d a b k : Int) (hv : vB op.toList d a b k = true) (n : Nat) (hn : n < 10) (hw : wordN op.toList = n) (w : World) :
    Calls Tryd.prog 49 #[IV op d a b k] w fun e w' => e = .returned (.tuple #[.int .i64 (usesR n d a b), .int .i64 (usesW n d)]) ∧ Below w.heap.size w w' := by
  obtain ⟨_, ⟨b1, b1'⟩, ⟨b2, b2'⟩, ⟨b3, b3'⟩, _⟩ := VI_bounds (vB_true.1 hv)
  rcases word_is op.toList n hn hw with ⟨rfl, h⟩ | ⟨rfl, h⟩ | ⟨rfl, h⟩ | ⟨rfl, h⟩ | ⟨rfl, h⟩ | ⟨rfl, h⟩ | ⟨rfl, h⟩ | ⟨rfl, h⟩ | ⟨rfl, h⟩ | ⟨rfl, h⟩
  · exact specUsesOf_at0 op (beq_iff_eq.2 (beq_iff_eq.1 h).symm) d a b k b1 b1' b2 b2' b3 b3' w
  · exact specUsesOf_at1 op (beq_iff_eq.2 (beq_iff_eq.1 h).symm) d a b k b1 b1' b2 b2' b3 b3' w
  · exact specUsesOf_at2 op (beq_iff_eq.2 (beq_iff_eq.1 h).symm) d a b k b1 b1' b2 b2' b3 b3' w
  · exact specUsesOf_at3 op (beq_iff_eq.2 (beq_iff_eq.1 h).symm) d a b k b1 b1' b2 b2' b3 b3' w
  · exact specUsesOf_at4 op (beq_iff_eq.2 (beq_iff_eq.1 h).symm) d a b k b1 b1' b2 b2' b3 b3' w
  · exact specUsesOf_at5 op (beq_iff_eq.2 (beq_iff_eq.1 h).symm) d a b k b1 b1' b2 b2' b3 b3' w
  · exact specUsesOf_at6 op (beq_iff_eq.2 (beq_iff_eq.1 h).symm) d a b k b1 b1' b2 b2' b3 b3' w
  · exact specUsesOf_at7 op (beq_iff_eq.2 (beq_iff_eq.1 h).symm) d a b k b1 b1' b2 b2' b3 b3' w
  · exact specUsesOf_at8 op (beq_iff_eq.2 (beq_iff_eq.1 h).symm) d a b k b1 b1' b2 b2' b3 b3' w
  · exact specUsesOf_at9 op (beq_iff_eq.2 (beq_iff_eq.1 h).symm) d a b k b1 b1' b2 b2' b3 b3' w
set_option maxHeartbeats 1000000 in
theorem SpecUsesOf_yes (op : ByteArray) (d a b k : Int) (hv : vB op.toList d a b k = true) (n : Nat) (hn : n < 10) (hw : wordN op.toList = n) (w : World) :
    Calls Tryd.prog 33 #[IV op d a b k] w fun e w' => e = .returned (.tuple #[.int .i64 (usesR n d a b), .int .i64 (usesW n d)]) ∧ Below w.heap.size w w' := by
  have HU := shade (fun W => specUsesOf_any op d a b k hv n hn hw W)
  have HV := shade hv
  clear hv hw
  generalize usesR n d a b = x at *
  generalize usesW n d = y at *
  go_enter Tryd.func33, Tryd.ntmps33
  go_wp2_with fail
  refine (validInstr_any _ _ _ _ _ _).mono ?_
  rw [HV.out]
  rintro e w1 ⟨rfl, o1, rfl⟩
  go_wp2_with fail
  refine (HU.out _).mono ?_
  rintro e w2 ⟨rfl, hb⟩
  have HB := shade (show Below w.heap.size w w2 from (((Below.refl w.heap.size w).alloc (Nat.le_refl _) _).alloc (by simp) _).trans (hb.mono (by simp only [World.size_alloc]; omega)))
  clear hb
  go_wp2_with fail
  go_ret2
  exact ⟨rfl, HB.out⟩
set_option maxHeartbeats 1000000 in
theorem SpecUsesOf_no (op : ByteArray) (d a b k : Int) (hv : vB op.toList d a b k = false) (w : World) :
    Calls Tryd.prog 33 #[IV op d a b k] w fun e w' => e = .returned (.tuple #[.int .i64 (-1), .int .i64 (-1)]) ∧ Below w.heap.size w w' := by
  have HV := shade hv
  clear hv
  go_enter Tryd.func33, Tryd.ntmps33
  go_wp2_with fail
  refine (validInstr_any _ _ _ _ _ _).mono ?_
  rw [HV.out]
  rintro e w1 ⟨rfl, o1, rfl⟩
  go_wp2_with fail
  go_ret2
  exact ⟨rfl, by go_grown⟩
set_option maxHeartbeats 1000000 in
theorem exactUsesOf_core (op : ByteArray) (d a b k x y : Int) (w : World) (hg : WT w) (hs : op.size ≤ 9223372036854775807)
    (hS : ∀ W, Calls Tryd.prog 33 #[IV op d a b k] W fun e w' => e = .returned (.tuple #[.int .i64 x, .int .i64 y]) ∧ Below W.heap.size W w')
    (hI : ∀ W, WT W → Calls Tryd.prog 15 #[IV op d a b k] W fun e w' => e = .returned (.tuple #[.int .i64 x, .int .i64 y]) ∧ Below W.heap.size W w') :
    Calls Tryd.prog 11 #[IV op d a b k] w fun e w' => e = .returned (.bool true) ∧ Below w.heap.size w w' := by
  have HG := shade hg
  have HSp := shade hS
  have HIm := shade hI
  clear hg hS hI
  by_cases hl : (1048576 : Int) - op.size < 0
  · have hsz := fun W => szInstr_any op d a b k 1048576 (by omega) (by omega) hs W
    rw [if_pos hl] at hsz
    have HS := shade hsz
    clear hsz
    go_enter Tryd.func11, Tryd.ntmps11
    go_wp2_with fail
    refine (HS.out _).mono ?_
    rintro e w1 ⟨rfl, o, rfl⟩
    go_wp2_with fail
    go_ret
    exact ⟨rfl, by go_grown⟩
  · have hsz := fun W => szInstr_any op d a b k 1048576 (by omega) (by omega) hs W
    rw [if_neg hl] at hsz
    have HS := shade hsz
    have hl2 : (op.size : Int) ≤ 1048576 := by omega
    clear hsz
    go_enter Tryd.func11, Tryd.ntmps11
    go_wp2_with fail
    refine (HS.out _).mono ?_
    rintro e w1 ⟨rfl, o, rfl⟩
    go_wp2_with fail
    refine (toInstr_any _ _ _ _ _ _).mono ?_
    rintro e w2 ⟨rfl, hb2⟩
    have H1 := (Holds5.fresh w 38 #[.string op, .int .i64 d, .int .i64 a, .int .i64 b, .int .i64 k]).alloc o
    have H2 := H1.below hb2 H1.inside
    clear H1
    have hB2 := below_then (W := w) (by go_grown) hb2
    have H2 := shade H2
    clear hb2
    go_wp2_with fail
    refine (HSp.out _).mono ?_
    rintro e w3 ⟨rfl, hb3⟩
    have hB3 := below_then hB2 hb3
    have H3 := H2.out.below hb3 H2.out.inside
    have q0 := H3.look 0; have q1 := H3.look 1; have q2 := H3.look 2; have q3 := H3.look 3; have q4 := H3.look 4
    simp at q0 q1 q2 q3 q4
    clear hb3 H3
    go_wp2_with fail
    refine (toInstr_any _ _ _ _ _ _).mono ?_
    rintro e w4 ⟨rfl, hb4⟩
    have hB4 := below_then hB3 hb4
    clear hb4
    go_wp2_with fail
    refine (HIm.out _ (HG.out.below hB4 (wt_lt HG.out))).mono ?_
    rintro e w5 ⟨rfl, hb5⟩
    have hB5 := below_then hB4 hb5
    clear hb5
    go_wp2_with fail
    go_ret
    exact ⟨rfl, hB5⟩
theorem exactUsesOf_walk (op : ByteArray) (d a b k : Int) (w : World) (hg : WT w) (hs : op.size ≤ 9223372036854775807) :
    Calls Tryd.prog 11 #[IV op d a b k] w fun e w' => e = .returned (.bool true) ∧ Below w.heap.size w w' := by
  rcases hv : vB op.toList d a b k with _ | _
  · exact exactUsesOf_core op d a b k _ _ w hg hs (fun W => SpecUsesOf_no op d a b k hv W) (fun W hW => UsesOf_no op d a b k W hW hv)
  · obtain ⟨⟨n0, n1⟩, _⟩ := VI_bounds (vB_true.1 hv)
    obtain ⟨n, hn⟩ := Int.eq_ofNat_of_zero_le n0
    have hn10 : n < 10 := by omega
    exact exactUsesOf_core op d a b k _ _ w hg hs (fun W => SpecUsesOf_yes op d a b k hv n hn10 hn W) (fun W hW => UsesOf_yes op d a b k W hW hv n hn10 hn)


set_option maxRecDepth 100000 in
theorem fnExactUsesOf_lifted (os : Os) (started : os.Started) (H : Type) (enc : TypeId × Value → H) :
    ReturnsInHanded {} Tryd.checked os 11 .any (fun w args => (Rows.fnExactUsesOfSpec.pre enc Tryd.prog Tryd.f11 [] false w args ∧ laidMetH Tryd.prog LD w) ∧ sizedMet enc Tryd.prog Tryd.f11 (OpenSpec.ofChange Rows.fnExactUsesOfSpec) false w args)
      (Rows.fnExactUsesOfSpec.post enc Tryd.prog Tryd.f11 false true false false) := by
  refine returnsInHanded_of_change_and (C := Tryd.checked) (X := fun w _ => laidMetH Tryd.prog LD w) (fun _ _ _ hh h => h.of_heap hh) own started (by kernel_rfl) Tryd.func11
    (ChangeSpec.witness_shaped (enc := enc) (C := Tryd.checked) (os := os) (X := fun w _ => laidMetH Tryd.prog LD w) false (World.doorLaid Tryd.prog 400 os) #[.agg #[.string ⟨#[]⟩, .int .i64 0, .int .i64 0, .int .i64 0, .int .i64 0]] 8 rfl (World.shaped_of_RefB (by kernel_rfl) (by kernel_rfl)) (by kernel_rfl) (by kernel_rfl) (by kernel_rfl) (door_met os _)) ?_
  intro W base args ds gs before hval0 hW _ _ hL _
  have hval : ∀ (j : Nat) t v, Tryd.f11.params[j]? = some t → args[j]? = some v → Value.okWide Tryd.prog W .any base t v := hval0
  have hW' := hW
  have hlt := hW.lt
  obtain ⟨p, q, hA0, hV0, rfl, hfz, hnd⟩ := hW
  have hA : DataW.TrodAll enc Tryd.prog W 0 (fun _ => true) true Tryd.f11.params.toList args.toList ds p := hA0
  have hV : DataW.TrodVars enc Tryd.prog W (fun _ => true) ["loop.example/smallmachines/impl.wordTexts"] gs q := hV0
  rw [Tryd.params11] at hA hval
  obtain ⟨v0, d0, rfl, rfl, h0⟩ := trodAll_one hA
  have hwt := wt_of_var (var_of_laid hL)
  obtain ⟨g, t, cs, fuel, dd, p', rfl, hg, ht, hvar, hd, rfl⟩ := trodVars_one hV
  obtain rfl := Option.some.inj (gWT.symm.trans hg)
  obtain rfl := Option.some.inj (tWT.symm.trans ht)
  obtain rfl : cs = wtCells := Option.some.inj (hvar.symm.trans (var_of_laid hL))
  obtain ⟨rfl, rfl⟩ := DataW.Trod.unique (v := .agg wtCells) ⟨fuel, hd⟩ ⟨3, reads_table enc W _⟩
  have h0' := h0
  obtain ⟨op, d, a, b, k, rfl, hs⟩ := open5 (hval 0 38 v0 rfl rfl) h0
  clear hA0 hV0 hval0
  refine (exactUsesOf_walk op d a b k W hwt (by unfold maxLen at hs; omega)).mono fun e W' ⟨he, hb⟩ => ?_
  subst he
  refine ⟨_, rfl, post_off (pa := p) hW' (fun _ _ _ => trodAll_mk1 (shut_bool Tryd.underlying4 _)) (trodAll_mk1 (Below.trod laidOut (by kernel_rfl) (of_decide_eq_true (by kernel_rfl)) h0' hb (fun x hx => hlt x (List.mem_append_left _ hx)))) ⟨0, 54, wtCells, 3, [], [], hg, ht, var_of_wt (hwt.below hb (wt_lt hwt)), reads_table enc W' _, rfl, rfl⟩ rfl hb⟩
theorem fnExactUsesOf_holds : Rows.FnExactUsesOfSaid :=
  OpenClaim.holds_of_wide 11 Tryd.f11 rfl rfl rfl rfl rfl rfl rfl ⟨rfl, rfl, rfl, rfl, rfl⟩ rfl rfl rfl rfl rfl (by kernel_rfl) Tryd.func11 (by kernel_rfl)
    (of_decide_eq_true (by kernel_rfl)) (by unfold Func.isWrapper; rw [if_neg (of_decide_eq_false (by kernel_rfl))]; exact ⟨rfl, rfl⟩)
    (fun os started H enc _ => fnExactUsesOf_lifted os started H enc)
/-- The tied card of FnExactUsesOf. -/
theorem fnExactUsesOf_card : Rows.FnExactUsesOfCardSaid :=
  Claim7.holds_tied_plain_at .later [] [.data] true (true, "95512d48ea7d4fb04f01583e367aae87cfc6b59b0d08c23382f0d3aba995d5ba") false
    fnExactUsesOf_holds (fun _ h => by cases h) (by kernel_rfl) (fun _ h => by cases h) fnExactUsesOf_row_tie rfl ⟨rfl, rfl⟩ (by kernel_rfl) rfl
    (fun f fn hf hfn => by
      obtain rfl : f = 11 := Option.some.inj ((show Tryd.prog.funcNamed "loop.example/smallmachines/laws.FnExactUsesOf" = some 11 by kernel_rfl).symm.trans hf) |>.symm
      obtain rfl : fn = Tryd.f11 := (Option.some.inj (Tryd.func11.symm.trans hfn)).symm
      exact ⟨by kernel_rfl, fun j t ht => by
        rw [Tryd.params11] at ht
        have hm : t ∈ [38] := by simpa using Array.mem_of_getElem? ht
        have hall : ([38].all fun u => !Tryd.prog.wantsStandIn u) = true := by kernel_rfl
        exact (show Tryd.prog.wantsStandIn t = false by simpa using List.all_eq_true.1 hall t hm)⟩)
    (by kernel_rfl)

#print axioms fnExactUsesOf_card
end Go.Proofs.YtabmcnkhdedohaaDoor
