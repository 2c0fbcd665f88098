/- NarrowCode, by the program. -/
import Derived.Test.YtjjjgjnhiffpnaaDoorW881
namespace Go.Proofs.YtjjjgjnhiffpnaaDoor
open Go.RowKit
set_option linter.unusedSimpArgs false
attribute [local go_sem ↓] Go.wp_at_zero Go.wp_at_succ
set_option maxRecDepth 100000 in
set_option maxHeartbeats 8000000 in
theorem NarrowCode_yes (b off n c x : Nat) (F : Nat → Wid) (w : World) (hw : WT w) (hv : vwB n F = true) (hx : x < 2 ^ n) (h : Wds w (some ⟨b, off, none⟩) n F) :
    Calls Tryd.prog 35 #[.slice (some ⟨b, off, none⟩) n c, .int .i64 x] w (NarRes (if wd (rowW F x n) n ≤ 4 then n else 0) (decide (wd (rowW F x n) n ≤ 4)) (nrI F (plW F x n)) w) := by
  have hn := (vwB_iff.1 hv).2
  have HPC := shade (placed_any (some ⟨b, off, none⟩) n c x F w hw (by omega) h)
  have hvk : vkB n F (x : Int) = true := vkB_iff.2 ⟨hv, x, rfl, hx⟩
  have hnk : nK n F (x : Int) = n := by unfold nK; rw [hvk]; rfl
  rw [hvk, hnk] at HPC
  have HIV := shade (rows_iv hn (vwB_iff.1 hv).1 hx)
  have HV := shade (vwB_iff.1 hv).1
  have HW := shade hw
  have H := shade h
  obtain ⟨i0, hi0, hz0, hz1, hz2⟩ := info_parts info_ins
  obtain ⟨kN, hkN⟩ : ∃ kN, (if wd (rowW F x n) n ≤ 4 then n else 0) = kN := ⟨_, rfl⟩
  obtain ⟨bN, hbN⟩ : ∃ bN, decide (wd (rowW F x n) n ≤ 4) = bN := ⟨_, rfl⟩
  rw [hkN, hbN]
  have HKN := shade hkN
  have HBN := shade hbN
  clear h hw hv hx hvk hnk hkN hbN
  go_enter Tryd.func35, Tryd.ntmps35
  go_wp2_with fail
  refine HPC.out.mono ?_
  rintro e w1 ⟨v, rfl, ho1, hg1⟩
  obtain ⟨A4, c4, rfl, -⟩ := ownsRow_slice ho1
  have HN1 := shade (show Nums w1 A4 n (fun j => (plW F x n j : Int)) from rowT_cell ho1)
  have HG1 := shade hg1
  clear ho1 hg1 HPC
  go_wp2
  go_loopw [8, 19] (fun v q wr => ∃ i : Nat, i ≤ n ∧ q = .int .i64 i ∧ w1.grownBy wr none ∧ wr.ownsRow w1.heap.size 77 5 v i (codeL i (nrI F (plW F x n))) ∧ ∀ j, j < i → plW F x n j < 4) (fun _ q _ => n - (intOf q).toNat)
  case atStart => exact ⟨0, Nat.zero_le _, rfl, grown_refl _ _, World.ownsRow_nil _ _ _ _, fun j hj => absurd hj (by omega)⟩
  case round =>
    obtain ⟨i, hi, rfl, hgr, hown, hlow⟩ := hrel
    obtain ⟨A5, c5, rfl, -⟩ := ownsRow_slice hown
    have HR := shade hgr
    have HO := shade hown
    have HLOW := shade hlow
    have hgl := hgr.size
    clear hlow
    by_cases hin : i < n
    · have hgw := grown_same HG1.out hgr
      obtain ⟨q0, q1, q2, q3⟩ := (H.out.on hgw).four hin
      have hpn := HN1.out.grown hgr (by intro _ _ _ e; cases e)
      have HPN := shade hpn
      obtain ⟨bp, op', rfl, hbp, -⟩ := hpn.resolve_left (by omega)
      have qp : _ = some (Value.int .i64 ((plW F x n i : Nat) : Int)) := hpn.cell hin
      have hok := HV.out i hin
      have hwt := HW.out.below (below_of_grown hgw) (wt_lt HW.out)
      have HNI := shade (fun (tp : Nat) (V : World) (hV : WT V) hp => narrowI_any (F i).op (F i).a (F i).b (F i).k i tp n c4 (some ⟨bp, op', none⟩) (plW F x n) V hV hok hin hp)
      have HRG := shade (fun W => isRegister_any ((plW F x n i : Nat) : Int) W)
      have hNR := show nrI F (plW F x n) i = if wordN (F i).op.toList = 0 then ⟨(F i).op, plW F x n i, 0, 0, (F i).k⟩ else ⟨(F i).op, plW F x n i, plW F x n (F i).a.toNat, plW F x n (F i).b.toNat, 0⟩ from rfl
      generalize F i = cc at *
      obtain ⟨op, a, b', kk⟩ := cc
      simp only [] at q0 q1 q2 q3 hNR HNI
      obtain ⟨pi, hpi⟩ : ∃ pi, plW F x n i = pi := ⟨_, rfl⟩
      rw [hpi] at qp HRG hNR
      obtain ⟨ia, ib, ik, hA, hB⟩ : ∃ ia ib ik : Int, nrI F (plW F x n) i = ⟨op, (pi : Int), ia, ib, ik⟩ ∧ (if wordN op.toList = 0 then IVal op (pi : Int) 0 0 kk else IVal op (pi : Int) ((plW F x n a.toNat : Nat) : Int) ((plW F x n b'.toNat : Nat) : Int) 0) = IVal op (pi : Int) ia ib ik := by
        by_cases e0 : wordN op.toList = 0
        · rw [if_pos e0] at hNR
          exact ⟨0, 0, kk, hNR, if_pos e0⟩
        · rw [if_neg e0] at hNR
          exact ⟨_, _, 0, hNR, if_neg e0⟩
      have HNJ := shade (HNI.out pi)
      rw [hB] at HNJ
      have HPI := shade hpi
      have HNR := shade hA
      clear hpi hNR hA hB hok hgr hown hgw hpn HNI
      by_cases hp4 : pi < 4
      · have hrg : regB (pi : Int) = true := by unfold regB; rw [Bool.and_eq_true, decide_eq_true_iff, decide_eq_true_iff]; omega
        rw [hrg] at HRG
        have HL4 := shade (show ∀ j, j < i + 1 → plW F x n j < 4 from fun j hj => by
          by_cases e : j = i
          · rw [e, HPI.out]
            exact hp4
          · exact HLOW.out j (by omega))
        clear hrg
        go_wp2_with (first
          | (go_at_call 71; refine (HRG.out _).mono ?_; rintro e w' ⟨rfl, rfl⟩))
        refine (HNJ.out _ hwt HPN.out).mono ?_
        rintro e w2 ⟨rfl, hb2⟩
        have HO2 := shade (ownsRow_on HO.out (grown_of_below hb2))
        have HR2 := shade (grown_same HR.out (grown_of_below hb2))
        have hs2 := hb2.size
        clear hb2
        go_wp2_with (first
          | (at_builtin; refine wpList_append_own _ rfl _ _ 36 rfl w1.heap.size 77 i0 (.agg #[.string ⟨#[]⟩, .int .i64 0, .int .i64 0, .int .i64 0, .int .i64 0]) 5 48 Tryd.underlying36 hi0 hz0 hz1 hz2 rfl (by decide) _ _ _ rfl (World.ownsRow.alloc HO2.out _) ⟨w2.heap.size, 0, none⟩ 1 1 [.string op, .int .i64 (pi : Int), .int .i64 ia, .int .i64 ib, .int .i64 ik] rfl rfl (ins_new _ _ _ _ _ _ _) (ins_one _ _ _ _ _) (by unfold maxLen; omega) (by omega) (by simp; omega) ?_)
          | go_in)
        intro v8 w8 hown8 hgr8 hnil8
        have HO8 := shade (code_more (c := ⟨op, (pi : Int), ia, ib, ik⟩) hown8 HNR.out)
        have HZ8 := shade (grown_row (grown_same HR2.out (World.grownBy_alloc w2 (.cells #[.string op, .int .i64 (pi : Int), .int .i64 ia, .int .i64 ib, .int .i64 ik] 77) none)) hgr8 (fun j e => (World.ownsRow.lt HO2.out j e).1))
        clear hown8 hgr8 hnil8 HNR
        go_wp2
        go_roundw
        case rel => exact ⟨i + 1, by omega, by go_num, HZ8.out, HO8.out, HL4.out⟩
        case measure => simp [intOf]; omega
      · have hrg : regB (pi : Int) = false := by unfold regB; rw [Bool.and_eq_false_iff, decide_eq_false_iff_not, decide_eq_false_iff_not]; omega
        rw [hrg] at HRG
        have hwd : ¬ wd (rowW F x n) n ≤ 4 := fun h => by
          have := (pl_col HIV.out).low i hin
          have e : pl (rowW F x n) i = pi := HPI.out
          omega
        have HB := shade hwd
        clear hrg hwd
        go_wp2_with (first
          | (go_at_call 71; refine (HRG.out _).mono ?_; rintro e w' ⟨rfl, rfl⟩)
          | go_in)
        go_ret2
        refine ⟨.slice none 0 0, ?_, ?_, grown_same HG1.out HR.out⟩
        · rw [← HBN.out, decide_eq_false HB.out]
          rfl
        · rw [← HKN.out, if_neg HB.out]
          exact World.ownsRow_nil _ _ _ _
    · have e : i = n := by omega
      subst e
      have hwd : wd (rowW F x i) i ≤ 4 := col_wd HIV.out ⟨HLOW.out, (pl_col HIV.out).ne⟩
      have HB := shade hwd
      clear hgr hown hwd
      go_wp2
      go_ret2
      refine ⟨.slice A5 i c5, ?_, ?_, grown_same HG1.out HR.out⟩
      · rw [← HBN.out, decide_eq_true HB.out]
        rfl
      · rw [← HKN.out, if_pos HB.out]
        exact World.ownsRow.mono HO.out HG1.out.size
theorem NarrowCode_zero (A : Option Addr) (c : Nat) (x : Int) (K : Nat) (ok : Bool) (f : Nat → Ins) (F : Nat → Wid) (m : Nat) (w : World) (hw : WT w) (hm : m ≤ 9223372036854775807) (hk : nK m F x = 0) (hok : vkB m F x = ok) (hK : K = 0) (h : Wds w A m F) :
    Calls Tryd.prog 35 #[.slice A m c, .int .i64 x] w (NarRes K ok f w) := by
  have HPC := shade (placed_any A m c x F w hw hm h)
  rw [hk, hok] at HPC
  subst hK
  clear h hw hk hok
  go_enter Tryd.func35, Tryd.ntmps35
  go_wp2_with fail
  refine HPC.out.mono ?_
  rintro e w1 ⟨v, rfl, ho1, hg1⟩
  obtain ⟨A4, c4, rfl, -⟩ := ownsRow_slice ho1
  have HG1 := shade hg1
  clear ho1 hg1 HPC
  go_wp2
  refine wp_loop_rounds 1 ?_
  rw [rounds_succ]
  go_wp2
  go_ret2
  exact ⟨.slice none 0 0, rfl, World.ownsRow_nil _ _ _ _, HG1.out⟩
theorem NarrowCode_any (A : Option Addr) (n c : Nat) (x : Int) (F : Nat → Wid) (w : World) (hw : WT w) (hn : n ≤ 9223372036854775807) (h : Wds w A n F) :
    Calls Tryd.prog 35 #[.slice A n c, .int .i64 x] w (NarRes (nN n F x) (okN n F x) (nrI F (plW F x.toNat n)) w) := by
  rcases hv : vkB n F x with _ | _
  · exact NarrowCode_zero A c x _ _ _ F n w hw hn (by unfold nK; rw [hv]; rfl) (by rw [hv]; unfold okN; rw [hv]; rfl) (by unfold nN okN; rw [hv]; rfl) h
  · by_cases h0 : n = 0
    · subst h0
      exact NarrowCode_zero A c x _ _ _ F 0 w hw hn (by unfold nK; rw [hv]; rfl) (by rw [hv]; unfold okN; rw [hv]; rfl) (by unfold nN; split <;> rfl) h
    · obtain ⟨b, off, rfl, -⟩ := h.resolve_left h0
      obtain ⟨h1, y, rfl, hy⟩ := vkB_iff.1 hv
      have := NarrowCode_yes b off n c y F w hw h1 hy h
      unfold nN okN
      rw [hv, Bool.true_and, Int.toNat_natCast]
      by_cases hd : wd (rowW F y n) n ≤ 4
      · rw [decide_eq_true hd] at this ⊢
        rw [if_pos hd] at this
        exact this
      · rw [decide_eq_false hd] at this ⊢
        rw [if_neg hd] at this
        exact this
end Go.Proofs.YtjjjgjnhiffpnaaDoor
