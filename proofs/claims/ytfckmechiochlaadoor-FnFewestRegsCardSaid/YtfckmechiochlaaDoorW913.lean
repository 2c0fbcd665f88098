/- The fewest registers, by the model: as many as are needed at once. -/
import Derived.Test.YtfckmechiochlaaDoorW912
namespace Go.Proofs.YtfckmechiochlaaDoor
open Go.RowKit
set_option linter.unusedSimpArgs false
set_option maxRecDepth 100000 in
set_option maxHeartbeats 8000000 in
theorem SpecFewestRegs_any (A : Option Addr) (n c : Nat) (x : Int) (F : Nat → Wid) (w : World) (hn : n ≤ 9223372036854775807) (h : Wds w A n F) :
    Calls Tryd.prog 20 #[.slice A n c, .int .i64 x] w fun e w' => e = .returned (.int .i64 (wdK n F x)) ∧ w.grownBy w' none := by
  have HK := shade (validKept_any A n c x F w hn h)
  unfold wdK
  rcases hv : vkB n F x with _ | _
  · rw [hv] at HK
    clear h hv
    go_enter Tryd.func20, Tryd.ntmps20
    go_wp2_with fail
    refine HK.out.mono ?_
    rintro e w1 ⟨rfl, hg1⟩
    have HG1 := shade hg1
    clear hg1 HK
    go_wp2
    go_ret
    exact ⟨rfl, HG1.out⟩
  · obtain ⟨h1, y, rfl, hy⟩ := vkB_iff.1 hv
    have hiv := rows_iv (F := F) (x := y) (vwB_iff.1 h1).2 (vwB_iff.1 h1).1 hy
    have HIV := shade hiv
    have HW := shade (fun W (hg : w.grownBy W none) => SpecLiveWide_any A n c y F W hn (h.on hg))
    have hnk : nK n F y = n := by
      unfold nK
      rw [hv, if_pos rfl]
    rw [hnk] at HW
    rw [hv] at HK
    have HC := shade (fun m hm (A : Option Addr) (c g2 o2 c2 : Nat) (p : Nat → Nat) (w : World) => colorFrom_any (m := m) hiv hm n 0 (by omega) A c g2 o2 c2 p w)
    have hwd := wd_le (rowW F y n) n
    have HF := shade (fun m (hle : m ≤ wd (rowW F y n) n) (b : Bool) (hb : Ans (rowW F y n) n m (fun _ => 0) 0 b) => (show (b = true → wd (rowW F y n) n = m) ∧ (b = false → m + 1 ≤ wd (rowW F y n) n) from
      ⟨fun e => found hiv hle (e ▸ hb), fun e => not_found hle (e ▸ hb)⟩))
    clear h hv h1 hy hiv hnk
    show Calls _ _ _ _ fun e w' => e = .returned (.int .i64 ((wd (rowW F y n) n : Nat) : Int)) ∧ _
    unfold rowK at HW
    simp only [Int.toNat_natCast] at HW
    generalize rowW F y n = R at *
    generalize wd R n = W0 at *
    go_enter Tryd.func20, Tryd.ntmps20
    go_wp2_with fail
    refine HK.out.mono ?_
    rintro e w1 ⟨rfl, hg1⟩
    have HG1 := shade hg1
    clear hg1 HK
    go_wp2_with fail
    refine (HW.out _ HG1.out).mono ?_
    rintro e w2 h5
    obtain ⟨v5, rfl, ho5, hg2⟩ := h5
    obtain ⟨A5, c5, rfl, -⟩ := ownsRow_slice ho5
    have HN := shade (row_cell ho5)
    have HG2 := shade (grown_same HG1.out hg2)
    clear hg2 ho5 HG1 HW
    go_wp2_with fail
    go_loopw [6] (fun q wr => ∃ m : Nat, m ≤ W0 ∧ q = .int .i64 (m : Int) ∧ w2.grownBy wr none) (fun q _ => W0 - (intOf q).toNat)
    case atStart => exact ⟨0, Nat.zero_le _, rfl, grown_refl _ _⟩
    case round =>
      obtain ⟨m, hm, rfl, hgr⟩ := hrel
      have HGR := shade hgr
      clear hgr
      have HCR := shade (HC.out m (by omega) A5 c5 wr.heap.size 0 0 (fun _ => 0) (wr.alloc (.cells #[] 3)) (nums_up (nums_up HN.out HGR.out) (World.grownBy_alloc _ _ none)) (by simp) (.inl rfl))
      go_wp2_with fail
      refine HCR.out.mono ?_
      rintro e w3 ⟨b, rfl, ha, hg3⟩
      obtain ⟨f1, f2⟩ := HF.out m hm b ha
      have HG3 := shade (grown_same (grown_same HGR.out (World.grownBy_alloc wr (.cells #[] 3) none)) hg3)
      clear ha hg3 HCR
      rcases b with _ | _
      · have f3 := f2 rfl
        clear f1 f2
        go_wp2_with fail
        go_roundw
        case rel => exact ⟨m + 1, f3, by go_num, HG3.out⟩
        case measure => simp [intOf]; omega
      · have f3 := f1 rfl
        subst f3
        clear f1 f2
        go_wp2_with fail
        go_ret
        exact ⟨rfl, grown_same HG2.out HG3.out⟩
end Go.Proofs.YtfckmechiochlaaDoor
