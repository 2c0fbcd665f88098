/- ShowInstr and its model write the same text. -/
import Derived.Test.YtjbbmnmbcdohiaaDoorW302
import Derived.Test.YtjbbmnmbcdohiaaDoorW9
namespace Go.Proofs.YtjbbmnmbcdohiaaDoor
open Go.RowKit
set_option linter.unusedSimpArgs false
/-- The text of an instruction, none if it is not valid. -/
def showL (op : List UInt8) (d a b k : Int) : List UInt8 := if vB op d a b k = true then instT op (namesN (wordN op).toNat).data.toList d a b k else []
theorem VI_nat {l : List UInt8} {d a b k : Int} (h : vB l d a b k = true) : ∃ dn an bn kn : Nat, d = dn ∧ a = an ∧ b = bn ∧ k = kn ∧ dn < 4 ∧ an < 4 ∧ bn < 4 ∧ kn < 256 ∧ 0 ≤ wordN l ∧ wordN l < 10 := by
  have h := vB_true.1 h
  unfold VI at h
  exact ⟨d.toNat, a.toNat, b.toNat, k.toNat, by omega, by omega, by omega, by omega, by omega, by omega, by omega, by omega, by omega, by omega⟩
theorem specshow_is (op : ByteArray) (d a b k : Int) (w : World) (hv : vB op.toList d a b k = true) :
    Calls Tryd.prog 36 #[IV op d a b k] w fun e w' => e = .returned (.string (tx (showL op.toList d a b k))) ∧ w.grownBy w' none := by
  obtain ⟨d, a, b, k, rfl, rfl, rfl, rfl, hd, ha, hb, hk, hw0, hw1⟩ := VI_nat hv
  obtain ⟨n, hn⟩ := Int.eq_ofNat_of_zero_le hw0
  have hn10 : n < 10 := by omega
  rw [showL, if_pos hv, hn, Int.toNat_natCast]
  rcases word_is op.toList n hn10 hn with ⟨rfl, h⟩ | ⟨rfl, h⟩ | ⟨rfl, h⟩ | ⟨rfl, h⟩ | ⟨rfl, h⟩ | ⟨rfl, h⟩ | ⟨rfl, h⟩ | ⟨rfl, h⟩ | ⟨rfl, h⟩ | ⟨rfl, h⟩

  · obtain rfl := op_eq_0 op (beq_iff_eq.2 (beq_iff_eq.1 h).symm)
    rw [toList_0]
    exact specShow_0 d a b k w hd ha hb (by omega)
  · obtain rfl := op_eq_1 op (beq_iff_eq.2 (beq_iff_eq.1 h).symm)
    rw [toList_1]
    exact specShow_1 d a b k w hd ha hb (by omega)
  · obtain rfl := op_eq_2 op (beq_iff_eq.2 (beq_iff_eq.1 h).symm)
    rw [toList_2]
    exact specShow_2 d a b k w hd ha hb (by omega)
  · obtain rfl := op_eq_3 op (beq_iff_eq.2 (beq_iff_eq.1 h).symm)
    rw [toList_3]
    exact specShow_3 d a b k w hd ha hb (by omega)
  · obtain rfl := op_eq_4 op (beq_iff_eq.2 (beq_iff_eq.1 h).symm)
    rw [toList_4]
    exact specShow_4 d a b k w hd ha hb (by omega)
  · obtain rfl := op_eq_5 op (beq_iff_eq.2 (beq_iff_eq.1 h).symm)
    rw [toList_5]
    exact specShow_5 d a b k w hd ha hb (by omega)
  · obtain rfl := op_eq_6 op (beq_iff_eq.2 (beq_iff_eq.1 h).symm)
    rw [toList_6]
    exact specShow_6 d a b k w hd ha hb (by omega)
  · obtain rfl := op_eq_7 op (beq_iff_eq.2 (beq_iff_eq.1 h).symm)
    rw [toList_7]
    exact specShow_7 d a b k w hd ha hb (by omega)
  · obtain rfl := op_eq_8 op (beq_iff_eq.2 (beq_iff_eq.1 h).symm)
    rw [toList_8]
    exact specShow_8 d a b k w hd ha hb (by omega)
  · obtain rfl := op_eq_9 op (beq_iff_eq.2 (beq_iff_eq.1 h).symm)
    rw [toList_9]
    exact specShow_9 d a b k w hd ha hb (by omega)
set_option maxRecDepth 100000 in
theorem SpecShowInstr_any (op : ByteArray) (d a b k : Int) (w : World) :
    Calls Tryd.prog 11 #[IV op d a b k] w fun e w' => e = .returned (.string (tx (showL op.toList d a b k))) ∧ w.grownBy w' none := by
  have HV := shade (fun W => validInstr_any op d a b k W)
  rcases hv : vB op.toList d a b k with _ | _
  · rw [hv] at HV
    rw [showL, if_neg (by rw [hv]; simp)]
    clear hv
    go_enter Tryd.func11, Tryd.ntmps11
    go_wp2_with fail
    refine (HV.out _).mono ?_
    rintro e w1 ⟨rfl, o, hw⟩
    have HG := shade (show w.grownBy w1 none from by rw [← hw]; exact grown_same (World.grownBy_alloc _ _ _) (World.grownBy_alloc _ _ _))
    clear hw
    go_wp2_with fail
    go_ret
    exact ⟨rfl, HG.out⟩
  · rw [hv] at HV
    have HS := shade (fun W => specshow_is op d a b k W hv)
    have hE := shade (Holds5.fresh w 24 #[.string op, .int .i64 d, .int .i64 a, .int .i64 b, .int .i64 k])
    clear hv
    go_enter Tryd.func11, Tryd.ntmps11
    go_wp2_with fail
    refine (HV.out _).mono ?_
    rintro e w1 ⟨rfl, o, hw⟩
    have HG := shade (show w.grownBy w1 none from by rw [← hw]; exact grown_same (World.grownBy_alloc _ _ _) (World.grownBy_alloc _ _ _))
    have hX := hE.out.alloc o
    rw [hw] at hX
    have x0 := hX.look 0; have x1 := hX.look 1; have x2 := hX.look 2; have x3 := hX.look 3; have x4 := hX.look 4
    simp at x0 x1 x2 x3 x4
    clear hw hX hE
    go_wp2_with fail
    refine (HS.out _).mono ?_
    rintro e w2 ⟨rfl, hgr⟩
    have HG2 := shade (grown_same HG.out hgr)
    clear hgr
    go_wp2_with fail
    go_ret
    exact ⟨rfl, HG2.out⟩
theorem wT_size : ∀ n, (wT n).size ≤ 3
  | 0 | 1 | 2 | 3 | 4 | 5 | 6 | 7 | 8 => by decide
  | (_ + 9) => Nat.le_refl 3
theorem tx_self (s : ByteArray) : tx s.toList = s := by
  rw [ByteArray.toList_eq]
  rfl
theorem names_len : ∀ n, (namesN n).data.toList.length ≤ 3
  | 0 | 1 | 2 | 3 | 4 | 5 | 6 | 7 | 8 => by decide
  | (_ + 9) => Nat.zero_le _
/-- What stands while a text is put together: the instruction in its box, and what is laid. -/
structure ST (w wr : World) (op : ByteArray) (d a b k : Int) : Prop where
  box : Holds5 wr w.heap.size 24 #[.string op, .int .i64 d, .int .i64 a, .int .i64 b, .int .i64 k]
  wt : WT wr
  pow : Pow wr
  low : w.grownBy wr none
theorem ST.on {w wr w2 : World} {op : ByteArray} {d a b k : Int} (h : ST w wr op d a b k) (hg : wr.grownBy w2 none) : ST w w2 op d a b k :=
  ⟨h.box.grown hg (by intro e; cases e), h.wt.grown hg (by simp), pow_below h.pow (below_of_grown hg), grown_same h.low hg⟩
theorem ST.box5 {w wr : World} {op : ByteArray} {d a b k : Int} (h : ST w wr op d a b k) : wr.cell? ⟨w.heap.size, 0, none⟩ = some (.string op) ∧ wr.cell? ⟨w.heap.size, 1, none⟩ = some (.int .i64 d) ∧ wr.cell? ⟨w.heap.size, 2, none⟩ = some (.int .i64 a) ∧ wr.cell? ⟨w.heap.size, 3, none⟩ = some (.int .i64 b) ∧ wr.cell? ⟨w.heap.size, 4, none⟩ = some (.int .i64 k) := by
  have q0 := h.box.look 0; have q1 := h.box.look 1; have q2 := h.box.look 2; have q3 := h.box.look 3; have q4 := h.box.look 4
  simp at q0 q1 q2 q3 q4
  exact ⟨q0, q1, q2, q3, q4⟩
theorem partV_nat (d a b k : Nat) (ch : Int) (hd : d < 4) (ha : a < 4) (hb : b < 4) (hk : k < 256) : ∃ m : Nat, partV d a b k ch = m ∧ m < 1000 := by
  unfold partV
  split
  · exact ⟨d, rfl, by omega⟩
  · split
    · exact ⟨a, rfl, by omega⟩
    · split
      · exact ⟨b, rfl, by omega⟩
      · exact ⟨k, rfl, by omega⟩
set_option maxRecDepth 100000 in
set_option maxHeartbeats 4000000 in
theorem ShowInstr_any (op : ByteArray) (d a b k : Int) (w : World) (hg : WT w) (hp : Pow w) :
    Calls Tryd.prog 10 #[IV op d a b k] w fun e w' => e = .returned (.string (tx (showL op.toList d a b k))) ∧ w.grownBy w' none := by
  have HE := shade (Holds5.fresh w 24 #[.string op, .int .i64 d, .int .i64 a, .int .i64 b, .int .i64 k])
  have HG := shade (World.grownBy_alloc w (.cells #[.string op, .int .i64 d, .int .i64 a, .int .i64 b, .int .i64 k] 24) none)
  have HW := shade (hg.alloc (.cells #[.string op, .int .i64 d, .int .i64 a, .int .i64 b, .int .i64 k] 24))
  have HV := shade (ValidInstr_any op d a b k _ HW.out)
  have HP := shade (pow_below hp (below_of_grown HG.out))
  rcases hv : vB op.toList d a b k with _ | _
  · rw [hv] at HV
    rw [showL, if_neg (by rw [hv]; simp)]
    clear hv
    go_enter Tryd.func10, Tryd.ntmps10
    go_wp2_with fail
    refine HV.out.mono ?_
    rintro e w1 ⟨rfl, hb⟩
    have HG1 := shade (grown_same HG.out (grown_of_below hb))
    clear hb
    go_wp2_with fail
    go_ret
    exact ⟨rfl, HG1.out⟩
  · rw [hv] at HV
    have hshow : showL op.toList d a b k = instT op.toList (namesN (wordN op.toList).toNat).data.toList d a b k := by rw [showL, if_pos hv]
    obtain ⟨d, a, b, k, rfl, rfl, rfl, rfl, hd, ha, hb, hk, hw0, hw1⟩ := VI_nat hv
    obtain ⟨n, hn⟩ := Int.eq_ofNat_of_zero_le hw0
    have hn10 : n < 10 := by omega
    rw [hn, Int.toNat_natCast] at hshow
    rw [hshow]
    have hop : op.size ≤ 3 := by
      rw [op_is op n hn10 hn]
      exact wT_size n
    have HN := shade hn
    have hnl := names_len n
    have hsN : namesN n = tx (namesN n).data.toList := rfl
    obtain ⟨N, hN⟩ : ∃ N, (namesN n).data.toList = N := ⟨_, rfl⟩
    rw [hN] at hnl hsN
    rw [hN]
    have HSN := shade hsN
    clear hshow hv hn hw0 hw1 hsN hN
    go_enter Tryd.func10, Tryd.ntmps10
    go_wp2_with fail
    refine HV.out.mono ?_
    rintro e w1 ⟨rfl, hb⟩
    have hgr := grown_of_below hb
    have HG1 := shade (grown_same HG.out hgr)
    have hX := HE.out.grown hgr (by intro e; cases e)
    have HE1 := shade hX
    have HW1 := shade (HW.out.below hb (wt_lt HW.out))
    have HP1 := shade (pow_below HP.out hb)
    have x0 := hX.look 0
    simp at x0
    clear hb hgr hX HE HG HW HV HP
    go_wp2_with fail
    refine (wordOf_any op _ HW1.out).mono ?_
    rintro e w2 ⟨rfl, rfl⟩
    rw [HN.out]
    go_wp2_with fail
    refine (partsOf_any n hn10 _).mono ?_
    rintro e w2 ⟨rfl, rfl⟩
    go_wp2_with fail
    rw [HSN.out]
    have hz := tx_size N
    have hself := tx_self op
    have hol : op.toList.length ≤ 3 := by
      rw [ByteArray.toList_eq]
      exact hop
    have HSELF := shade hself
    clear hself HN hop x0
    go_loopw [3, 17] (fun t i wr => ∃ (j : Nat) (X : List UInt8), j ≤ N.length ∧ i = .int .i64 j ∧ t = .string (tx X) ∧ X.length ≤ 3 + 5 * j ∧ X = op.toList ++ (N.take j).flatMap (partT d a b k) ∧ Holds5 wr w.heap.size 24 #[.string op, .int .i64 d, .int .i64 a, .int .i64 b, .int .i64 k] ∧ WT wr ∧ Pow wr ∧ w.grownBy wr none) (fun _ i _ => N.length - (intOf i).toNat)
    case atStart => exact ⟨0, op.toList, Nat.zero_le _, rfl, by rw [HSELF.out], by omega, by simp, HE1.out, HW1.out, HP1.out, HG1.out⟩
    case round =>
      clear HE1 HW1 HP1 HG1 HSELF
      obtain ⟨j, X, hj, rfl, rfl, hXl, hX, hE, hW, hP, hG⟩ := hrel
      have HX := shade hX
      have HE := shade hE; have HW := shade hW; have HP := shade hP; have HG := shade hG
      clear hX hE hW hP hG
      by_cases hjn : j < N.length
      · have hg := tx_get N j (by rw [hz]; exact hjn) hjn
        have htk : (N.take (j + 1)).flatMap (partT d a b k) = (N.take j).flatMap (partT d a b k) ++ partT d a b k N[j] := by
          rw [List.take_succ_eq_append_getElem hjn, List.flatMap_append]
          simp
        obtain ⟨ch, hch⟩ : ∃ ch, N[j] = ch := ⟨_, rfl⟩
        rw [hch] at hg htk
        obtain ⟨m, hm, hm1⟩ := partV_nat d a b k ch.toNat hd ha hb hk
        have hml := nml m hm1
        have HTK := shade htk
        have HM := shade hm
        clear hch htk
        have HPO := shade (fun W => partOf_any op d a b k ch.toNat W)
        rw [hm] at HPO
        have HIT := shade (fun W hW => itoa_is m W hm1 hW)
        clear hm hm1
        obtain ⟨A0, hA0⟩ : ∃ A : List UInt8, A = X ++ [32] := ⟨_, rfl⟩
        have l0 : A0.length = X.length + 1 := by rw [hA0]; simp
        have t0 := fun W => (show (Op.stringOp .add (tx X) (⟨#[32]⟩ : ByteArray)).run Tryd.prog W = .ok (.string (tx A0)) W from by rw [hA0]; exact cat_run X [32] (by simp; omega) W)
        by_cases h75 : ch.toNat = 75
        · have e75 : ((ch.toNat : Int) != 75) = false := by simp; omega
          obtain ⟨A2, hA2⟩ : ∃ A : List UInt8, A = A0 ++ nm m := ⟨_, rfl⟩
          have t2 := fun W => (show (Op.stringOp .add (tx A0) (tx (nm m))).run Tryd.prog W = .ok (.string (tx A2)) W from by rw [hA2]; exact cat_run A0 (nm m) (by omega) W)
          have hfin : A2 = X ++ partT d a b k ch := by
            rw [hA2, hA0, partT, if_pos h75, HM.out]
            simp
          have hl2 : A2.length ≤ 3 + 5 * (j + 1) := by rw [hA2, List.length_append]; omega
          have HF := shade hfin
          clear hA0 hA2 hfin h75 l0 hml
          have i0 : (0 : Int) ≤ (j : Int) := by omega
          have i1 : (j : Int) < (N.length : Int) := by omega
          have HA := shade (ST.on (show ST w wr op d a b k from ⟨HE.out, HW.out, HP.out, HG.out⟩) (grown_drew1 wr))
          clear HE HW HP HG
          go_wp2_with fail
          go_region_held3 (fun w' => w'.cell? ⟨w.heap.size, 0, none⟩ = some (.string op) ∧ w'.cell? ⟨w.heap.size, 1, none⟩ = some (.int .i64 d) ∧ w'.cell? ⟨w.heap.size, 2, none⟩ = some (.int .i64 a) ∧ w'.cell? ⟨w.heap.size, 3, none⟩ = some (.int .i64 b) ∧ w'.cell? ⟨w.heap.size, 4, none⟩ = some (.int .i64 k))
            (first | with_reducible exact HA.out.box5 | with_reducible exact HB.out.box5 | with_reducible exact HC.out.box5)
            (first
              | (go_at_call 34; refine (HPO.out _).mono ?_; rintro e w2 ⟨rfl, o, hw2⟩; have hgr := World.grownBy_alloc wr.drew o none; rw [hw2] at hgr; have HB := shade (ST.on HA.out hgr); clear hgr hw2)
              | (go_at_call 33; refine (HIT.out _ HB.out.pow).mono ?_; rintro e w3 ⟨rfl, hgr⟩; have HC := shade (ST.on HB.out hgr); clear hgr))
          go_wp2_with fail
          go_roundw
          case rel => exact ⟨_, _, _, _, _, _, _, _, _, _, _, _, _, _, _, _, _, _, _, _, _, _, ⟨j + 1, A2, by omega, by go_num, rfl, hl2, by rw [HF.out, HTK.out, HX.out, List.append_assoc], HC.out.box, HC.out.wt, HC.out.pow, HC.out.low⟩, rfl⟩
          case measure => simp [intOf]; omega
        · have e75 : ((ch.toNat : Int) != 75) = true := by simp; omega
          obtain ⟨A1, hA1⟩ : ∃ A : List UInt8, A = A0 ++ [114] := ⟨_, rfl⟩
          have l1 : A1.length = X.length + 2 := by rw [hA1]; simp; omega
          have t1 := fun W => (show (Op.stringOp .add (tx A0) (⟨#[114]⟩ : ByteArray)).run Tryd.prog W = .ok (.string (tx A1)) W from by rw [hA1]; exact cat_run A0 [114] (by simp; omega) W)
          obtain ⟨A2, hA2⟩ : ∃ A : List UInt8, A = A1 ++ nm m := ⟨_, rfl⟩
          have t2 := fun W => (show (Op.stringOp .add (tx A1) (tx (nm m))).run Tryd.prog W = .ok (.string (tx A2)) W from by rw [hA2]; exact cat_run A1 (nm m) (by omega) W)
          have hfin : A2 = X ++ partT d a b k ch := by
            rw [hA2, hA1, hA0, partT, if_neg h75, HM.out]
            simp
          have hl2 : A2.length ≤ 3 + 5 * (j + 1) := by rw [hA2, List.length_append]; omega
          clear hA1 l1
          have HF := shade hfin
          clear hA0 hA2 hfin h75 l0 hml
          have i0 : (0 : Int) ≤ (j : Int) := by omega
          have i1 : (j : Int) < (N.length : Int) := by omega
          have HA := shade (ST.on (show ST w wr op d a b k from ⟨HE.out, HW.out, HP.out, HG.out⟩) (grown_drew1 wr))
          clear HE HW HP HG
          go_wp2_with fail
          go_region_held3 (fun w' => w'.cell? ⟨w.heap.size, 0, none⟩ = some (.string op) ∧ w'.cell? ⟨w.heap.size, 1, none⟩ = some (.int .i64 d) ∧ w'.cell? ⟨w.heap.size, 2, none⟩ = some (.int .i64 a) ∧ w'.cell? ⟨w.heap.size, 3, none⟩ = some (.int .i64 b) ∧ w'.cell? ⟨w.heap.size, 4, none⟩ = some (.int .i64 k))
            (first | with_reducible exact HA.out.box5 | with_reducible exact HB.out.box5 | with_reducible exact HC.out.box5)
            (first
              | (go_at_call 34; refine (HPO.out _).mono ?_; rintro e w2 ⟨rfl, o, hw2⟩; have hgr := World.grownBy_alloc wr.drew o none; rw [hw2] at hgr; have HB := shade (ST.on HA.out hgr); clear hgr hw2)
              | (go_at_call 33; refine (HIT.out _ HB.out.pow).mono ?_; rintro e w3 ⟨rfl, hgr⟩; have HC := shade (ST.on HB.out hgr); clear hgr))
          go_wp2_with fail
          go_roundw
          case rel => exact ⟨_, _, _, _, _, _, _, _, _, _, _, _, _, _, _, _, _, _, _, _, _, _, ⟨j + 1, A2, by omega, by go_num, rfl, hl2, by rw [HF.out, HTK.out, HX.out, List.append_assoc], HC.out.box, HC.out.wt, HC.out.pow, HC.out.low⟩, rfl⟩
          case measure => simp [intOf]; omega
      · obtain rfl : j = N.length := by omega
        go_wp2_with fail
        go_ret
        refine ⟨?_, HG.out⟩
        rw [HX.out, List.take_length]
        rfl
end Go.Proofs.YtjbbmnmbcdohiaaDoor
