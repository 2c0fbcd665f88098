/- The program's ReadCode reads the program of the lines, at every text. -/
import Derived.Test.YtjbbmnmbcdohiaaDoorW331
namespace Go.Proofs.YtjbbmnmbcdohiaaDoor
open Go.RowKit
set_option linter.unusedSimpArgs false
theorem cut_hit (a l : List UInt8) (h : (10 : UInt8) ∉ a) : Lib.cut (a ++ 10 :: l) [10] = (a, l, true) := by
  unfold Lib.cut
  rw [index_hit1 10 a l h, if_pos (by omega), Int.toNat_natCast]
  simp
theorem cut_miss (a : List UInt8) (h : (10 : UInt8) ∉ a) : Lib.cut a [10] = (a, [], false) := by
  unfold Lib.cut
  rw [index_miss1 10 a h, if_neg (by omega)]
theorem grown_drewN0 (w : World) (n : Nat) : w.grownBy (w.drewN n) none := ⟨rfl, rfl, rfl, Nat.le_refl _, fun _ _ _ => rfl⟩
theorem cutHit_is (a l : List UInt8) (h : (10 : UInt8) ∉ a) (w : World) (hm : MaxL w) (hl : (a ++ 10 :: l).length ≤ 1048576) :
    Calls Tryd.prog 49 #[.string (tx (a ++ 10 :: l)), .string ⟨#[10]⟩] w fun e w' => e = .returned (.tuple #[.string (tx a), .string (tx l), .bool true]) ∧ w.grownBy w' none := by
  obtain ⟨m, hm⟩ := hm
  refine (Tryd.strings_Cut (tx (a ++ 10 :: l)) ⟨#[10]⟩ m w (by rw [tx_size]; omega) hm).mono ?_
  rintro e w' ⟨rfl, n, rfl⟩
  rw [show Lib.cut (tx (a ++ 10 :: l)).data.toList (⟨#[10]⟩ : ByteArray).data.toList = (a, l, true) from cut_hit a l h]
  exact ⟨rfl, grown_drewN0 _ _⟩
theorem cutMiss_is (a : List UInt8) (h : (10 : UInt8) ∉ a) (w : World) (hm : MaxL w) (hl : a.length ≤ 1048576) :
    Calls Tryd.prog 49 #[.string (tx a), .string ⟨#[10]⟩] w fun e w' => e = .returned (.tuple #[.string (tx a), .string ⟨#[]⟩, .bool false]) ∧ w.grownBy w' none := by
  obtain ⟨m, hm⟩ := hm
  refine (Tryd.strings_Cut (tx a) ⟨#[10]⟩ m w (by rw [tx_size]; omega) hm).mono ?_
  rintro e w' ⟨rfl, n, rfl⟩
  rw [show Lib.cut (tx a).data.toList (⟨#[10]⟩ : ByteArray).data.toList = (a, [], false) from cut_miss a h]
  exact ⟨rfl, grown_drewN0 _ _⟩
/-- How long a text is. -/
def lenS : Value → Nat
  | .string b => b.size
  | _ => 0
set_option maxRecDepth 100000 in
set_option maxHeartbeats 8000000 in
theorem ReadCode_is (s : List UInt8) (w : World) (hl : s.length ≤ 1048576) (hy : LY w) : Calls Tryd.prog 17 #[.string (tx s)] w (RCw s w) := by
  have HY := shade hy
  have HI := shade (show CB w w (.slice none 0 0) 0 (fun _ => zIns) from ⟨World.ownsRow_nil _ _ _ _, grown_refl _ _⟩)
  clear hy
  go_enter Tryd.func17, Tryd.ntmps17
  go_wp2_with fail
  go_loopw [0, 4] (fun sv v wr => ∃ (r : List UInt8) (k : Nat) (f : Nat → Ins), sv = .string (tx r) ∧ CB w wr v k f ∧ splitC 10 s = linesL k f ++ splitC 10 r ∧ (∀ j, j < k → insB (f j) = true) ∧ k ≤ 40 ∧ r.length ≤ s.length) (fun sv _ _ => lenS sv)
  case atStart => exact ⟨s, 0, fun _ => zIns, rfl, HI.out, rfl, fun _ h => absurd h (by omega), by omega, Nat.le_refl _⟩
  case round =>
    clear HI
    obtain ⟨r, k, f, rfl, hC, hS, hV, hk, hrl⟩ := hrel
    have HCB := shade hC; have HS := shade hS; have HV := shade hV
    have HYR := shade (HY.out.on hC.low)
    clear hC hS hV
    obtain ⟨A0, c0, rfl, hco, hab⟩ := HCB.out.val
    have HCO := shade hco
    have HAB := shade hab
    clear hco hab
    have hz := tx_size r
    by_cases hr : r = []
    · have hE : (tx r).toList.isEmpty = true := by rw [tx_toList, hr]; rfl
      have hcut : splitC 10 s = linesL k f ++ [[]] := by rw [HS.out, hr]; rfl
      have HCUT := shade hcut
      have HVC := shade (ValidCode_any A0 k c0 f wr HYR.out.wt (by omega) HCO.out)
      clear hcut hr HS
      rcases hv : vcB k f with _ | _
      · rw [hv] at HVC
        have HNO := shade (NoC.bad HCUT.out HV.out hv)
        clear hv
        go_wp2_with fail
        refine HVC.out.mono ?_
        rintro e w2 ⟨rfl, hg2⟩
        have HG2 := shade (grown_same HCB.out.low hg2)
        clear hg2
        go_wp2_with fail
        go_ret2
        exact ⟨none, 0, 0, fun _ => zIns, false, rfl, fun e => (by cases e), fun _ => ⟨HNO.out, rfl⟩, .inl rfl, by omega, HG2.out, by intro _ _ e; cases e⟩
      · rw [hv] at HVC
        have HV1 := shade hv
        clear hv
        go_wp2_with fail
        refine HVC.out.mono ?_
        rintro e w2 ⟨rfl, hg2⟩
        have HG2 := shade (grown_same HCB.out.low hg2)
        have HC2 := shade (HCO.out.on hg2)
        clear hg2
        go_wp2_with fail
        go_ret2
        exact ⟨A0, k, c0, f, true, rfl, fun _ => ⟨HCUT.out, HV.out, HV1.out⟩, fun e => (by cases e), HC2.out, hk, HG2.out, HAB.out⟩
    · have hE : (tx r).toList.isEmpty = false := by
        rw [tx_toList]
        simpa using hr
      by_cases h10 : (10 : UInt8) ∈ r
      · obtain ⟨a, l, rfl, ha⟩ := List.eq_append_cons_of_mem h10
        have hsp := splitC_hit 10 a l ha
        have hs := HS.out
        rw [hsp] at hs
        have HS2 := shade hs
        have HCT := shade (fun W hW => cutHit_is a l ha W hW (by omega))
        have hal : a.length + l.length + 1 = (a ++ 10 :: l).length := by simp; omega
        obtain ⟨R, hR⟩ : ∃ R, a ++ 10 :: l = R := ⟨_, rfl⟩
        rw [hR] at hz hE HCT hrl hal ⊢
        have HRI := shade (fun W hW => ReadInstr_is a W (by omega) hW)
        have HAL := shade hal
        clear hal hR hsp hs HS h10 hr ha
        go_wp2_with fail
        refine (HCT.out _ HYR.out.max).mono ?_
        rintro e w2 ⟨rfl, hg2⟩
        have H2 := shade (HCB.out.on hg2)
        have HY2 := shade (HYR.out.on hg2)
        clear hg2 HCB HYR HCT
        go_wp2_with fail
        refine (HRI.out _ HY2.out).mono ?_
        rintro e w3 ⟨op, d, a', b, kk, ok, rfl, hRI, hg3⟩
        have hga := World.grownBy_alloc w3 (.cells #[.string op, .int .i64 d, .int .i64 a', .int .i64 b, .int .i64 kk] 24) none
        have H3 := shade (H2.out.on (grown_same hg3 hga))
        have HB := shade (Holds5.fresh w3 24 #[.string op, .int .i64 d, .int .i64 a', .int .i64 b, .int .i64 kk])
        have HQ := shade hRI
        clear hg3 hga hRI H2 HY2 HRI HCO
        go_upto_region 5 with (fail)
        generalize w3.alloc (.cells #[.string op, .int .i64 d, .int .i64 a', .int .i64 b, .int .i64 kk] 24) = wc at *
        cases ok with
        | false =>
          have HNO := shade (NoC.line HS2.out (splitC_ne 10 l) (HQ.out.no rfl))
          go_wp2_with fail
          go_ret2
          exact ⟨none, 0, 0, fun _ => zIns, false, rfl, fun e => (by cases e), fun _ => ⟨HNO.out, rfl⟩, .inl rfl, by omega, H3.out.low, by intro _ _ e; cases e⟩
        | true =>
          by_cases hk1 : k = 40
          · have hk2 : ((k : Int) == 40) = true := by simp; omega
            have HNO := shade (NoC.long HS2.out (splitC_ne 10 l) (by rw [linesL_len]; omega))
            go_wp2_with fail
            go_ret2
            exact ⟨none, 0, 0, fun _ => zIns, false, rfl, fun e => (by cases e), fun _ => ⟨HNO.out, rfl⟩, .inl rfl, by omega, H3.out.low, by intro _ _ e; cases e⟩
          · have hk2 : ((k : Int) == 40) = false := by simp; omega
            have hk3 : k < 40 := by omega
            obtain ⟨hv, hsh⟩ := HQ.out.yes rfl
            have HY := shade hv; have HSH := shade hsh
            have x0 := HB.out.look 0; have x1 := HB.out.look 1; have x2 := HB.out.look 2; have x3 := HB.out.look 3; have x4 := HB.out.look 4
            simp at x0 x1 x2 x3 x4
            have hbi := HB.out.inside
            clear hv hsh hk1
            obtain ⟨i0, hi, hz0, hz1, hz2⟩ := info_parts info24
            go_wp2_with (first
              | (at_builtin; refine wpList_append_own _ rfl _ _ 32 rfl w.heap.size 24 i0 (.agg #[.string ⟨#[]⟩, .int .i64 0, .int .i64 0, .int .i64 0, .int .i64 0]) 5 48 Tryd.underlying32 hi hz0 hz1 hz2 rfl (by decide) _ _ _ rfl (H3.out.on (World.grownBy_alloc _ _ _)).own ⟨wc.heap.size, 0, none⟩ 1 1 [.string op, .int .i64 d, .int .i64 a', .int .i64 b, .int .i64 kk] rfl rfl (cells_new _ _ _ _ _ _ _) (one_cells _ _ _ _ _) (by unfold maxLen; omega) (by omega) (by have := H3.out.low.size; simp; omega) ?_)
              | go_in)
            intro v' w8 hown8 hgr8 hnil8
            rw [codeL_snoc k f ⟨op, d, a', b, kk⟩] at hown8
            have H8 := shade (H3.out.snoc (World.grownBy_alloc _ _ _) hown8 hgr8)
            clear hown8 hgr8 hnil8 hi hz0 hz1 hz2
            have hll : l.length ≤ s.length := by
              have := HAL.out
              omega
            have HLL := shade hll
            clear hll
            go_wp2_with fail
            go_roundw
            case rel => exact ⟨l, k + 1, _, rfl, H8.out, by rw [HS2.out, linesL_more, show insL (⟨op, d, a', b, kk⟩ : Ins) = a from HSH.out]; simp, val_more HV.out HY.out, by omega, HLL.out⟩
            case measure =>
              have h1 := HAL.out
              have h2 := tx_size l
              simp [lenS]
              omega
      · have HNO := shade (NoC.last (s := s) (xs := linesL k f) (r := r) (by rw [HS.out, splitC_miss 10 r h10]) hr)
        have HCT := shade (fun W hW => cutMiss_is r h10 W hW (by omega))
        have HRI := shade (fun W hW => ReadInstr_is r W (by omega) hW)
        clear hr h10 HS
        go_wp2_with fail
        refine (HCT.out _ HYR.out.max).mono ?_
        rintro e w2 ⟨rfl, hg2⟩
        have HG2 := shade (grown_same HCB.out.low hg2)
        have HY2 := shade (HYR.out.on hg2)
        clear hg2 HCB HYR HCT
        go_wp2_with fail
        refine (HRI.out _ HY2.out).mono ?_
        rintro e w3 ⟨op, d, a', b, kk, ok, rfl, hRI, hg3⟩
        have HG3 := shade (grown_same HG2.out (grown_same hg3 (World.grownBy_alloc w3 (.cells #[.string op, .int .i64 d, .int .i64 a', .int .i64 b, .int .i64 kk] 24) none)))
        clear hg3 hRI HY2 HRI HCO HG2
        go_wp2_with fail
        go_ret2
        exact ⟨none, 0, 0, fun _ => zIns, false, rfl, fun e => (by cases e), fun _ => ⟨HNO.out, rfl⟩, .inl rfl, by omega, HG3.out, by intro _ _ e; cases e⟩
end Go.Proofs.YtjbbmnmbcdohiaaDoor
