/- The fewest registers, by the program: as many as are needed at once; and both. -/
import Derived.Test.YtfckmechiochlaaDoorW916
namespace Go.Proofs.YtfckmechiochlaaDoor
open Go.RowKit
set_option linter.unusedSimpArgs false
set_option maxRecDepth 100000 in
set_option maxHeartbeats 8000000 in
theorem FewestRegs_any (A : Option Addr) (n c : Nat) (x : Int) (F : Nat → Wid) (w : World) (hw : WT w) (hn : n ≤ 9223372036854775807) (h : Wds w A n F) :
    Calls Tryd.prog 13 #[.slice A n c, .int .i64 x] w fun e w' => e = .returned (.int .i64 (wdK n F x)) ∧ w.grownBy w' none := by
  have HN := shade (neededOf_any A n c x F w hw hn h)
  unfold NedRes at HN
  unfold wdK
  rcases hv : vkB n F x with _ | _
  · rw [hv] at HN
    clear h hv hw
    go_enter Tryd.func13, Tryd.ntmps13
    go_wp2_with fail
    refine HN.out.mono ?_
    rintro e w1 ⟨v, rfl, -, hg1⟩
    have HG1 := shade hg1
    clear hg1 HN
    go_wp2
    go_ret
    exact ⟨rfl, HG1.out⟩
  · obtain ⟨h1, y, rfl, hy⟩ := vkB_iff.1 hv
    have hn8 := (vwB_iff.1 h1).2
    have hiv := rows_iv (F := F) (x := y) hn8 (vwB_iff.1 h1).1 hy
    have hnk : nK n F y = n := by
      unfold nK
      rw [hv, if_pos rfl]
    rw [hnk, hv] at HN
    have HC := shade (fun m hm (Aw : Option Addr) (cw B : Nat) (v : Value) (p : Nat → Nat) (w : World) => canPlace_any (m := m) hiv hm n 0 (by omega) Aw cw B v p w)
    have HNW := shade (fun (A : Option Addr) c w h => neededWith_any A n c (rowW F y n) w hn8 (fun i hi => hiv.lt8 i hi) h)
    have hwd := wd_le (rowW F y n) n
    have HF := shade (fun m (hle : m ≤ wd (rowW F y n) n) (b : Bool) (hb : Ans (rowW F y n) n m (fun _ => 0) 0 b) => (show (b = true → wd (rowW F y n) n = m) ∧ (b = false → m + 1 ≤ wd (rowW F y n) n) from
      ⟨fun e => found hiv hle (e ▸ hb), fun e => not_found hle (e ▸ hb)⟩))
    clear h hv h1 hy hiv hnk hw
    show Calls _ _ _ _ fun e w' => e = .returned (.int .i64 ((wd (rowW F y n) n : Nat) : Int)) ∧ _
    unfold rowK at HN
    simp only [Int.toNat_natCast] at HN
    generalize rowW F y n = R at *
    generalize wd R n = W0 at *
    go_enter Tryd.func13, Tryd.ntmps13
    go_wp2_with fail
    refine HN.out.mono ?_
    rintro e w1 ⟨v, rfl, ho1, hg1⟩
    obtain ⟨A4, c4, rfl, -⟩ := ownsRow_slice ho1
    have HR := shade (rowT_cell ho1)
    have HG1 := shade hg1
    clear ho1 hg1 HN
    go_wp2_with fail
    refine (HNW.out _ _ _ HR.out).mono ?_
    rintro e w2 ⟨g, rfl, ho2, hg2⟩
    have hlt := (World.ownsRow.lt ho2 g rfl).2
    have HWI := shade (rowT_cell ho2)
    have HG2 := shade (grown_same HG1.out hg2)
    clear ho2 hg2 HG1 HR HNW
    go_wp2_with fail
    go_loopw [8] (fun q wr => ∃ m : Nat, m ≤ W0 ∧ q = .int .i64 (m : Int) ∧ w2.grownBy wr none) (fun q _ => W0 - (intOf q).toNat)
    case atStart => exact ⟨0, Nat.zero_le _, rfl, grown_refl _ _⟩
    case round =>
      obtain ⟨m, hm, rfl, hgr⟩ := hrel
      have HGR := shade hgr
      have hsz := hgr.size
      clear hgr
      have HCR := shade (HC.out m (by omega) (some ⟨g, 0, none⟩) n wr.heap.size (.slice none 0 0) (fun _ => 0) wr (nums_up HWI.out HGR.out) (fun b off e => by injection e with e; injection e with e; omega) (Nat.le_refl _) (World.ownsRow_nil _ _ _ _) (fun j hj => absurd hj (by omega)))
      go_wp2_with fail
      refine HCR.out.mono ?_
      rintro e w3 ⟨b, rfl, ha, -, hb3⟩
      obtain ⟨f1, f2⟩ := HF.out m hm b ha
      have HG3 := shade (grown_same HGR.out (grown_of_below hb3))
      clear ha hb3 HCR
      rcases b with _ | _
      · have f3 := f2 rfl
        clear f1 f2
        go_wp2_with fail
        go_roundw
        case rel => exact ⟨m + 1, f3, by go_num, HG3.out⟩
        case measure => simp [intOf]; omega
      · have f3 := f1 rfl
        subst f3
        clear f1 f2
        go_wp2_with fail
        go_ret
        exact ⟨rfl, grown_same HG2.out HG3.out⟩
theorem fewestRegs_both (n : Nat) (F : Nat → Wid) (x : Int) (hn : n ≤ 9223372036854775807) :
    ∃ v : Int, (∀ A c W, Wds W A n F → Calls Tryd.prog 20 #[.slice A n c, .int .i64 x] W fun e w' => e = .returned (.int .i64 v) ∧ W.grownBy w' none) ∧
      (∀ A c W, WT W → Wds W A n F → Calls Tryd.prog 13 #[.slice A n c, .int .i64 x] W fun e w' => e = .returned (.int .i64 v) ∧ W.grownBy w' none) :=
  ⟨_, fun A c W h => SpecFewestRegs_any A n c x F W hn h, fun A c W hw h => FewestRegs_any A n c x F W hw hn h⟩
end Go.Proofs.YtfckmechiochlaaDoor
