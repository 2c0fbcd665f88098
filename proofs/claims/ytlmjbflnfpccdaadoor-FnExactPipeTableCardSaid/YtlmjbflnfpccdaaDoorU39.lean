/- PipeTable, by the program. -/
import Derived.Test.YtlmjbflnfpccdaaDoorU38
namespace Go.Proofs.YtlmjbflnfpccdaaDoor
open Go.RowKit
set_option linter.unusedSimpArgs false
set_option maxRecDepth 100000 in
set_option maxHeartbeats 4000000 in
theorem IPipeTable_none (A : Option Addr) (n c : Nat) (F : Nat → Ins) (AJ : Option Addr) (m cj : Nat) (J : Nat → Bool) (fw : Bool) (len : Nat → Nat) (R : Nat → Nat → Int) (w : World) (hw : WT w) (hn : n ≤ 9223372036854775807) (hc : n ≤ c) (h0 : nP n F m = 0) (h : Code w A n F) (hj : Bols w AJ m J) :
    Calls Tryd.prog 26 #[.slice A n c, .slice AJ m cj, .bool fw] w (RwsRes 0 len R w) := by
  have HP := shade (pipeOf_any A n c F AJ m cj J fw w hw hn hc h hj)
  rw [h0] at HP
  clear hw hc h hj h0
  go_enter Tryd.func26, Tryd.ntmps26
  go_wp2_with fail
  refine HP.out.mono ?_
  rintro e w1 ⟨rv, wv, rfl, hr, hwk, hg⟩
  have HG := shade (grown_same hg (World.grownBy_alloc w1 (.cells #[rv, wv] 56) none))
  obtain ⟨A1, c1, rfl, -⟩ := ownsRow_slice hr
  obtain ⟨A2, c2, rfl, -⟩ := ownsRow_slice hwk
  clear hr hwk hg HP
  go_wp2_with fail
  refine wp_loop_rounds 1 ?_
  rw [rounds_succ]
  go_wp2_with fail
  go_ret
  exact RwsRes.nil _ _ _ _ HG.out
set_option maxRecDepth 100000 in
set_option maxHeartbeats 8000000 in
theorem IPipeTable_yes (A : Option Addr) (q c : Nat) (F : Nat → Ins) (AJ : Option Addr) (cj : Nat) (J : Nat → Bool) (fw : Bool) (w : World) (hw : WT w) (hc : q + 1 ≤ c) (hv : vpB (q + 1) F (q + 1) = true) (h : Code w A (q + 1) F) (hj : Bols w AJ (q + 1) J) :
    Calls Tryd.prog 26 #[.slice A (q + 1) c, .slice AJ (q + 1) cj, .bool fw] w (RwsRes (q + 1) (lnP (q + 1) F J fw) (ptR F J fw) w) := by
  obtain ⟨h3, -, -⟩ := vpB_yes hv
  have HP := shade (pipeOf_any A (q + 1) c F AJ (q + 1) cj J fw w hw (by omega) hc h hj)
  rw [nP_yes hv, hv] at HP
  have HR := shade (pk_rng F J fw)
  have HU := shade (pk_up F J fw)
  obtain ⟨len, hlen⟩ : ∃ len, lnP (q + 1) F J fw = len := ⟨_, rfl⟩
  obtain ⟨R, hRR⟩ : ∃ R, ptR F J fw = R := ⟨_, rfl⟩
  have HLN := shade (show ∀ j, (len j : Int) = ptm (q + 1) (pk F J fw) ∧ len j ≤ 1000 from fun j => by
    have h1 := lnP_le h3 F J fw j
    rw [hlen] at h1
    refine ⟨?_, h1⟩
    rw [← hlen]
    unfold lnP
    have : 0 ≤ ptm (q + 1) (pk F J fw) := by
      unfold ptm
      rw [if_neg (by omega)]
      have := HR.out (q + 1 - 1)
      omega
    omega)
  have HRE := shade (show ∀ k i, R k i = prt J (pk F J fw) k (i : Int) from fun k i => by rw [← hRR]; rfl)
  rw [hlen, hRR]
  clear h hv hj hlen hRR hw hc
  obtain ⟨f, hf⟩ : ∃ f, pk F J fw = f := ⟨_, rfl⟩
  rw [hf] at HP HR HU HLN HRE
  clear hf
  have HRD := shade (show ∀ k, k ≤ q → 1 ≤ rdP J f k ∧ rdP J f k ≤ 1000 from fun k hk => by
    unfold rdP
    rcases k with _ | p
    · rw [st_0]; omega
    · rw [st_s]
      have := HR.out p
      split <;> omega)
  obtain ⟨i0, hi0, hz0, hz1, hz2⟩ := info_parts info41
  obtain ⟨i1, hi1, hy0, hy1, hy2⟩ := info_parts info3p
  have HI := shade (And.intro hi0 (And.intro hz0 (And.intro hz1 hz2)))
  have HJ := shade (And.intro hi1 (And.intro hy0 (And.intro hy1 hy2)))
  clear hi0 hz0 hz1 hz2 hi1 hy0 hy1 hy2
  go_enter Tryd.func26, Tryd.ntmps26
  go_wp2_with fail
  refine HP.out.mono ?_
  rintro e w1 ⟨rv, wv, rfl, hr, hwk, hg⟩
  have hg1 := World.grownBy_alloc w1 (.cells #[rv, wv] 56) none
  have HG := shade (grown_same hg hg1)
  obtain ⟨Ar, cr, rfl, -⟩ := ownsRow_slice hr
  obtain ⟨At, ct, rfl, -⟩ := ownsRow_slice hwk
  obtain ⟨At', ct', e2, hN⟩ := (show RowO w1 w.heap.size w1.heap.size 3 (.slice At (q + 1) ct) (q + 1) (numL (q + 1) f) from ⟨hwk, fun i hi => (World.ownsRow.lt hwk i hi).2⟩).nums
  injection e2 with e2 _ e3
  subst e2 e3
  obtain ⟨Ar', cr', e2, hM⟩ := (show RowO w1 w.heap.size w1.heap.size 3 (.slice Ar (q + 1) cr) (q + 1) (numL (q + 1) (rdP J f)) from ⟨hr, fun i hi => (World.ownsRow.lt hr i hi).2⟩).nums
  injection e2 with e2 _ e3
  subst e2 e3
  have HB := shade (Holds5.fresh w1 56 #[.slice Ar (q + 1) cr, .slice At (q + 1) ct])
  have HN := shade (hN.grown hg1 (by intro _ _ _ e; cases e))
  have HM := shade (hM.grown hg1 (by intro _ _ _ e; cases e))
  clear hr hwk hg hN hM hg1 HP
  go_wp2_with fail
  obtain ⟨W0, hW0⟩ : ∃ W0, w1.alloc (.cells #[.slice Ar (q + 1) cr, .slice At (q + 1) ct] 56) = W0 := ⟨_, rfl⟩
  have hz0 : w1.heap.size + 1 = W0.heap.size := by rw [← hW0]; simp
  rw [hW0] at HB HN HM HG ⊢
  clear hW0
  go_loopw [9, 23] (fun v k wr => ∃ (kk : Nat) (AS : Nat → Value), kk ≤ q + 1 ∧ k = .int .i64 kk ∧ Pts W0 wr v kk AS len R) (fun _ k _ => q + 1 - (intOf k).toNat)
  case atStart => exact ⟨0, fun _ => .slice none 0 0, Nat.zero_le _, rfl, ⟨⟨World.ownsRow_nil _ _ _ _, fun _ h => (by cases h)⟩, fun j hj => absurd hj (Nat.not_lt_zero j), fun i _ _ hi => absurd hi (Nat.not_lt_zero i)⟩, grown_refl _ _⟩
  case round =>
    obtain ⟨wo, hwo⟩ : ∃ wo : World, wo = wr := ⟨_, rfl⟩
    subst hwo
    obtain ⟨k, AS, hk, rfl, ho⟩ := hrel
    have HO := shade ho
    obtain ⟨A1, c1, rfl, -⟩ := ho.rws.shape
    clear ho
    by_cases hkn : k < q + 1
    · have hk2 : (k : Int) < (q : Int) + 1 := by omega
      have hb := HB.out.grown HO.out.low (by intro e; cases e)
      have b0 := hb.look 0; have b1 := hb.look 1
      simp at b0 b1
      have HBO := shade hb
      clear hb
      have HT := shade (time_any Ar cr At (q + 1) (q + 1) ct f wo HR.out h3 (HN.out.grown HO.out.low (by intro _ _ _ e; cases e)))
      have hln := HLN.out k
      obtain ⟨T, hT⟩ : ∃ T, ptm (q + 1) f = T := ⟨_, rfl⟩
      rw [hT] at HT hln
      clear hT
      obtain ⟨L, hL⟩ : ∃ L, len k = L := ⟨_, rfl⟩
      rw [hL] at hln
      have HL := shade hL
      clear hL
      obtain rfl : T = (L : Int) := by omega
      go_wp2_with fail
      refine HT.out.mono ?_
      rintro e w2 ⟨rfl, hg2⟩
      have HG2 := shade hg2
      clear hg2 HT b0 b1
      go_wp2_with fail
      go_loopw [11, 28] (fun u i wq => ∃ ii : Nat, ii ≤ L ∧ i = .int .i64 ii ∧ wq.ownsRow w2.heap.size 3 1 u ii (numL ii (R k)) ∧ w2.grownBy wq none) (fun _ i _ => L - (intOf i).toNat)
      case atStart => exact ⟨0, Nat.zero_le _, rfl, World.ownsRow_nil _ _ _ _, grown_refl _ _⟩
      case round =>
        obtain ⟨i, hik, rfl, hu, hgq⟩ := hrel
        have HU2 := shade hu; have HGQ := shade hgq
        obtain ⟨A2, c2, rfl, -⟩ := ownsRow_slice hu
        clear hu hgq
        by_cases hlt : i < L
        · have hb := HBO.out.grown (grown_same HG2.out HGQ.out) (by intro e; cases e)
          have b0 := hb.look 0; have b1 := hb.look 1
          simp at b0 b1
          clear hb
          have HPA := shade (fun W (hW : wo.grownBy W none) => partAt_any Ar cr At (q + 1) ct f J k (i : Int) W hkn h3 (by omega) (by omega) HR.out (HRD.out k (by omega)) (HU.out k) (HN.out.grown (grown_same HO.out.low hW) (by intro _ _ _ e; cases e)) (HM.out.grown (grown_same HO.out.low hW) (by intro _ _ _ e; cases e)))
          obtain ⟨x, hx⟩ : ∃ x, R k i = x := ⟨_, rfl⟩
          have hx2 := HRE.out k i
          rw [hx] at hx2
          rw [← hx2] at HPA
          have HX := shade hx
          clear hx hx2
          have hA2 : ∀ r, (Value.slice A2 i c2).ownBlock = some r → w2.heap.size ≤ r := fun r e => (World.ownsRow.lt HU2.out r e).1
          have HA2 := shade hA2
          clear hA2
          go_wp2_with fail
          refine (HPA.out _ (grown_same HG2.out HGQ.out)).mono ?_
          rintro e w3 ⟨rfl, hg3⟩
          have HU3 := shade (ownsRow_on HU2.out hg3)
          have HGQ3 := shade (grown_same HGQ.out hg3)
          clear hg3 b0 b1
          go_wp2_with (first
            | (at_builtin; refine wpList_append_own _ rfl _ _ 25 rfl w2.heap.size 3 i1 (.int .i64 0) 1 8 Tryd.underlying25 HJ.out.1 HJ.out.2.1 HJ.out.2.2.1 HJ.out.2.2.2 rfl (by decide) _ _ _ rfl (World.ownsRow.alloc HU3.out _) ⟨w3.heap.size, 0, none⟩ 1 1 [.int .i64 x] rfl rfl (int_new _ _ _) (int_one _) (by unfold maxLen; omega) (by omega) (by have := HGQ3.out.size; simp; omega) ?_)
            | go_in)
          intro v8 w8 hown8 hgr8 hnil8
          rw [numL_snoc' i _ x HX.out] at hown8
          have HU8 := shade hown8
          have HG8 := shade (grown_row' (grown_same HGQ3.out (World.grownBy_alloc _ _ none)) hgr8 HA2.out)
          clear hown8 hgr8 hnil8
          go_wp2_with fail
          go_roundw
          case rel => exact ⟨i + 1, by omega, by go_num, HU8.out, HG8.out⟩
          case measure =>
            simp [intOf]
            omega
        · obtain rfl : i = L := by omega
          have HG9 := shade (grown_same HO.out.low (grown_same HG2.out HGQ.out))
          go_wp2_with (first
            | (at_builtin; refine wpList_append_own _ rfl _ _ 38 rfl W0.heap.size 25 i0 (.slice none 0 0) 1 24 Tryd.underlying38 HI.out.1 HI.out.2.1 HI.out.2.2.1 HI.out.2.2.2 rfl (by decide) _ _ _ rfl (World.ownsRow.alloc (ownsRow_on HO.out.rws.out.own (grown_same HG2.out HGQ.out)) _) ⟨wr.heap.size, 0, none⟩ 1 1 [.slice A2 i c2] rfl rfl (slice_new _ _ _) (fun u hu => by rw [List.mem_singleton.1 hu]; rfl) (by unfold maxLen; omega) (by omega) (by have := HG9.out.size; simp; omega) ?_)
            | go_in)
          intro v8 w8 hown8 hgr8 hnil8
          have HN8 := shade (HO.out.rws.snoc (AS' := fun j => if j = k then .slice A2 i c2 else AS j) (R' := R) (Nat.le_refl _) HO.out.low.size (World.ownsRow.alloc (show wr.ownsRow wo.heap.size 3 1 (.slice A2 i c2) (len k) (numL (len k) (R k)) by rw [HL.out]; exact World.ownsRow.mono HU2.out HG2.out.size) (.cells #[.slice A2 i c2] 25)) (grown_same (grown_same HG2.out HGQ.out) (World.grownBy_alloc _ _ none)) hown8 hgr8 (fun _ _ => rfl) (fun j hj => if_neg (by omega)) (if_pos rfl))
          have HL8 := shade (grown_row' (grown_same HG9.out (World.grownBy_alloc _ _ none)) hgr8 (fun r e => (World.ownsRow.lt HO.out.rws.out.own r e).1))
          clear hown8 hgr8 hnil8
          go_wp2_with fail
          go_roundw
          case rel => exact ⟨k + 1, _, by omega, by go_num, HN8.out, HL8.out⟩
          case measure => simp [intOf]; omega
    · obtain rfl : k = q + 1 := by omega
      go_wp2_with fail
      go_ret
      exact ⟨_, AS, rfl, ⟨⟨World.ownsRow.mono HO.out.rws.out.own HG.out.size, HO.out.rws.out.hib⟩, fun j hj => ⟨World.ownsRow.mono (HO.out.rws.row j hj).own HG.out.size, (HO.out.rws.row j hj).hib⟩, HO.out.rws.sep⟩, grown_same HG.out HO.out.low⟩
theorem IPipeTable_any (A : Option Addr) (n c : Nat) (F : Nat → Ins) (AJ : Option Addr) (m cj : Nat) (J : Nat → Bool) (fw : Bool) (w : World) (hw : WT w) (hn : n ≤ 9223372036854775807) (hc : n ≤ c) (h : Code w A n F) (hj : Bols w AJ m J) :
    Calls Tryd.prog 26 #[.slice A n c, .slice AJ m cj, .bool fw] w (RwsRes (nP n F m) (lnP n F J fw) (ptR F J fw) w) := by
  by_cases h0 : nP n F m = 0
  · rw [h0]
    exact IPipeTable_none A n c F AJ m cj J fw _ _ w hw hn hc h0 h hj
  · rcases hv : vpB n F m with _ | _
    · exact absurd (nP_no hv) h0
    · rw [nP_yes hv] at h0 ⊢
      obtain ⟨-, rfl, -⟩ := vpB_yes hv
      obtain ⟨q, rfl⟩ : ∃ q, m = q + 1 := ⟨m - 1, by omega⟩
      exact IPipeTable_yes A q c F AJ cj J fw w hw hc hv h hj
theorem ps_const {len : Nat → Nat} {B : Nat} (h : ∀ j, len j ≤ B) : ∀ K, ps len K ≤ K * B
  | 0 => by show (0 : Nat) ≤ 0 * B; omega
  | K + 1 => by
    have h1 := ps_const h K
    have h2 := h K
    show ps len K + len K ≤ (K + 1) * B
    rw [Nat.add_mul]
    omega
theorem table_both (n : Nat) (F : Nat → Ins) (m : Nat) (J : Nat → Bool) (fw : Bool) (hn : n ≤ 9223372036854775807) :
    ∃ (K : Nat) (len : Nat → Nat) (R : Nat → Nat → Int), K ≤ 300 ∧ (∀ j, j < K → len j ≤ 2000) ∧ ps len K ≤ 1000000 ∧ (∀ (A : Option Addr) (c : Nat) (AJ : Option Addr) (cj : Nat) (W : World), Code W A n F → Bols W AJ m J → Calls Tryd.prog 25 #[.slice A n c, .slice AJ m cj, .bool fw] W (RwsRes K len R W)) ∧
      (∀ (A : Option Addr) (AJ : Option Addr) (cj : Nat) (W : World), WT W → Code W A n F → Bols W AJ m J → Calls Tryd.prog 26 #[.slice A n n, .slice AJ m cj, .bool fw] W (RwsRes K len R W)) := by
  have hK := nP_le n m F
  by_cases h0 : nP n F m = 0
  · exact ⟨0, fun _ => 0, ptR F J fw, by omega, fun _ _ => by omega, by show (0 : Nat) ≤ _; omega, fun A c AJ cj W h hj => by
      have := SPipeTable_any A n c F AJ m cj J fw W hn h hj
      rw [h0] at this
      exact this.mono fun e w' he => by
        obtain ⟨v, AS, rfl, hR, hg⟩ := he
        exact ⟨v, AS, rfl, ⟨hR.out, fun j hj => absurd hj (Nat.not_lt_zero j), fun i _ _ hi => absurd hi (Nat.not_lt_zero i)⟩, hg⟩, fun A AJ cj W hW h hj => IPipeTable_none A n n F AJ m cj J fw _ _ W hW hn (Nat.le_refl _) h0 h hj⟩
  · have hv : vpB n F m = true := by
      rcases e : vpB n F m with _ | _
      · exact absurd (nP_no e) h0
      · rfl
    have h3 := (vpB_yes hv).1
    have hl := fun j => lnP_le h3 F J fw j
    refine ⟨nP n F m, lnP n F J fw, ptR F J fw, hK, fun j _ => by have := hl j; omega, ?_, fun A c AJ cj W h hj => SPipeTable_any A n c F AJ m cj J fw W hn h hj, fun A AJ cj W hW h hj => IPipeTable_any A n n F AJ m cj J fw W hW hn (Nat.le_refl _) h hj⟩
    have h1 := ps_const hl (nP n F m)
    have h2 : nP n F m * 1000 ≤ 300 * 1000 := Nat.mul_le_mul_right _ hK
    omega
end Go.Proofs.YtlmjbflnfpccdaaDoor
