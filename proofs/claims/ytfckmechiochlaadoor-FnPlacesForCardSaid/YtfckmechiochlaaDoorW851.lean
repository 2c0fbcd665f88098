/- How many numbers are needed at once. -/
import Derived.Test.YtfckmechiochlaaDoorW846
import Derived.Test.YtfckmechiochlaaDoorW850
namespace Go.Proofs.YtfckmechiochlaaDoor
open Go.RowKit
set_option linter.unusedSimpArgs false
/-- The greatest one of the first sizes. -/
def wd (f : Nat → Nat) : Nat → Nat
  | 0 => 0
  | i + 1 => max (wd f i) (popc (f i))
theorem wd_le (f : Nat → Nat) : ∀ i, wd f i ≤ 8
  | 0 => by simp [wd]
  | i + 1 => by
    have h1 := wd_le f i
    have h2 := popc_le (f i)
    simp only [wd]
    omega
theorem wd_ge (f : Nat → Nat) : ∀ n i, i < n → popc (f i) ≤ wd f n
  | 0, i, h => absurd h (by omega)
  | n + 1, i, h => by
    simp only [wd]
    by_cases e : i = n
    · rw [e]
      omega
    · have := wd_ge f n i (by omega)
      omega
set_option maxRecDepth 100000 in
set_option maxHeartbeats 8000000 in
theorem width_yes (A : Option Addr) (n c x : Nat) (F : Nat → Wid) (w : World) (hv : vwB n F = true) (hx : x < 2 ^ n) (h : Wds w A n F) :
    Calls Tryd.prog 51 #[.slice A n c, .int .i64 x] w fun e w' => e = .returned (.int .i64 (wd (rowW F x n) n : Nat)) ∧ w.grownBy w' none := by
  have hn := (vwB_iff.1 hv).2
  have HL := shade (SpecLiveWide_yes A n c x F w hv hx h)
  have HR := shade (fun i (hi : i < n) => lt256 (rowW_lt (vwB_iff.1 hv).1 hx i hi) (by omega))
  clear h hv hx
  go_enter Tryd.func51, Tryd.ntmps51
  go_wp2_with fail
  refine HL.out.mono ?_
  rintro e w1 ⟨v, rfl, ho1, hg1⟩
  obtain ⟨A4, c4, rfl, -⟩ := ownsRow_slice ho1
  have HN := shade (rowT_cell ho1)
  have HG1 := shade hg1
  clear ho1 hg1 HL
  go_wp2
  go_loopw [5, 7] (fun y q wr => ∃ i : Nat, i ≤ n ∧ q = .int .i64 i ∧ y = .int .i64 ((wd (rowW F x n) i : Nat) : Int) ∧ ∃ m, w1.drewN m = wr) (fun _ q _ => n - (intOf q).toNat)
  case atStart => exact ⟨0, Nat.zero_le _, rfl, rfl, 0, rfl⟩
  case round =>
    obtain ⟨i, hi, rfl, rfl, m, rfl⟩ := hrel
    by_cases hin : i < n
    · obtain ⟨b, off, rfl, -⟩ := HN.out.resolve_left (by omega)
      have q0 : _ = some (Value.int .i64 ((rowW F x n i : Nat) : Int)) := HN.out.cell hin
      have HO := shade (fun W => ones_any (rowW F x n i) W (HR.out i hin))
      have HW := shade (show wd (rowW F x n) (i + 1) = max (wd (rowW F x n) i) (popc (rowW F x n i)) from rfl)
      obtain ⟨r, hr⟩ : ∃ r, rowW F x n i = r := ⟨_, rfl⟩
      rw [hr] at q0 HO HW
      clear hr
      have HW2 := shade (show ((wd (rowW F x n) (i + 1) : Nat) : Int) = if ((wd (rowW F x n) i : Nat) : Int) < (popc r : Nat) then ((popc r : Nat) : Int) else ((wd (rowW F x n) i : Nat) : Int) by
        rw [HW.out]
        split <;> omega)
      obtain ⟨Y, hY⟩ : ∃ Y : Int, ((wd (rowW F x n) i : Nat) : Int) = Y := ⟨_, rfl⟩
      obtain ⟨P, hP⟩ : ∃ P : Int, ((popc r : Nat) : Int) = P := ⟨_, rfl⟩
      rw [hY, hP] at HW2
      rw [hP] at HO
      rw [hY]
      clear hY hP HW
      go_wp2_with fail
      refine (HO.out _).mono ?_
      rintro e w' ⟨rfl, rfl⟩
      by_cases hlt : Y < P
      · rw [if_pos hlt] at HW2
        go_wp2
        exact ⟨⟨i + 1, by omega, by go_num, by rw [HW2.out], m, rfl⟩, by simp [intOf]; omega⟩
      · rw [if_neg hlt] at HW2
        have hle : P ≤ Y := by omega
        clear hlt
        go_wp2
        all_goals exact ⟨⟨i + 1, by omega, by go_num, by rw [HW2.out] <;> (try congr 1 <;> omega), m, rfl⟩, by simp [intOf]; omega⟩
    · have e : i = n := by omega
      subst e
      go_wp2
      go_ret
      exact ⟨rfl, grown_drewN HG1.out m⟩
/-- What WidthOf answers. -/
def wdK (n : Nat) (F : Nat → Wid) (x : Int) : Int := if vkB n F x then ((wd (rowW F x.toNat n) n : Nat) : Int) else -1
theorem SpecWidthOf_any (A : Option Addr) (n c : Nat) (x : Int) (F : Nat → Wid) (w : World) (hn : n ≤ 9223372036854775807) (h : Wds w A n F) :
    Calls Tryd.prog 11 #[.slice A n c, .int .i64 x] w fun e w' => e = .returned (.int .i64 (wdK n F x)) ∧ w.grownBy w' none := by
  have HK := shade (validKept_any A n c x F w hn h)
  unfold wdK
  rcases hv : vkB n F x with _ | _
  · rw [hv] at HK
    clear h hv
    go_enter Tryd.func11, Tryd.ntmps11
    go_wp2_with fail
    refine HK.out.mono ?_
    rintro e w1 ⟨rfl, hg1⟩
    have HG1 := shade hg1
    clear hg1 HK
    go_wp2
    go_ret
    exact ⟨rfl, HG1.out⟩
  · obtain ⟨h1, y, rfl, hy⟩ := vkB_iff.1 hv
    have HW := shade (fun W (hg : w.grownBy W none) => width_yes A n c y F W h1 hy (h.on hg))
    rw [hv] at HK
    clear h hv h1 hy
    go_enter Tryd.func11, Tryd.ntmps11
    go_wp2_with fail
    refine HK.out.mono ?_
    rintro e w1 ⟨rfl, hg1⟩
    have HG1 := shade hg1
    clear hg1 HK
    go_wp2_with fail
    refine (HW.out _ HG1.out).mono ?_
    rintro e w2 ⟨rfl, hg2⟩
    have HG2 := shade (grown_same HG1.out hg2)
    clear hg2
    go_wp2
    go_ret
    exact ⟨rfl, HG2.out⟩
set_option maxRecDepth 100000 in
set_option maxHeartbeats 8000000 in
theorem WidthOf_any (A : Option Addr) (n c : Nat) (x : Int) (F : Nat → Wid) (w : World) (hw : WT w) (hn : n ≤ 9223372036854775807) (h : Wds w A n F) :
    Calls Tryd.prog 10 #[.slice A n c, .int .i64 x] w fun e w' => e = .returned (.int .i64 (wdK n F x)) ∧ w.grownBy w' none := by
  have HN := shade (neededOf_any A n c x F w hw hn h)
  unfold NedRes at HN
  unfold wdK
  rcases hv : vkB n F x with _ | _
  · rw [hv] at HN
    clear h hv
    go_enter Tryd.func10, Tryd.ntmps10
    go_wp2_with fail
    refine HN.out.mono ?_
    rintro e w1 ⟨v, rfl, ho1, hg1⟩
    obtain ⟨A4, c4, rfl, -⟩ := ownsRow_slice ho1
    have HG1 := shade hg1
    clear ho1 hg1 HN
    go_wp2
    go_ret
    exact ⟨rfl, HG1.out⟩
  · obtain ⟨h1, y, rfl, hy⟩ := vkB_iff.1 hv
    have hn8 := (vwB_iff.1 h1).2
    have HR := shade (fun i (hi : i < n) => lt256 (rowW_lt (vwB_iff.1 h1).1 hy i hi) (by omega))
    have hk : nK n F (y : Int) = n := by unfold nK; rw [hv]; rfl
    rw [hv, hk] at HN
    rw [Int.toNat_natCast, if_pos rfl]
    clear h hv h1 hy hk hw
    go_enter Tryd.func10, Tryd.ntmps10
    go_wp2_with fail
    refine HN.out.mono ?_
    rintro e w1 ⟨v, rfl, ho1, hg1⟩
    obtain ⟨A4, c4, rfl, -⟩ := ownsRow_slice ho1
    have HM := shade (rowT_cell ho1)
    have HG1 := shade hg1
    clear ho1 hg1 HN
    go_wp2
    go_loopw [7, 20] (fun z q wr => ∃ i : Nat, i ≤ n ∧ q = .int .i64 i ∧ z = .int .i64 ((wd (rowW F y n) i : Nat) : Int) ∧ ∃ m, w1.drewN m = wr) (fun _ q _ => n - (intOf q).toNat)
    case atStart => exact ⟨0, Nat.zero_le _, rfl, rfl, 0, rfl⟩
    case round =>
      obtain ⟨i, hi, rfl, rfl, m, rfl⟩ := hrel
      by_cases hin : i < n
      · obtain ⟨b, off, rfl, -⟩ := HM.out.resolve_left (by omega)
        have q0 : _ = some (Value.int .i64 ((rowW F y n i : Nat) : Int)) := HM.out.cell hin
        have HO := shade (fun W => size_any (rowW F y n i) W (HR.out i hin))
        have HW := shade (show wd (rowW F y n) (i + 1) = max (wd (rowW F y n) i) (popc (rowW F y n i)) from rfl)
        obtain ⟨r, hr⟩ : ∃ r, rowW F y n i = r := ⟨_, rfl⟩
        rw [hr] at q0 HO HW
        clear hr
        have HW2 := shade (show ((wd (rowW F y n) (i + 1) : Nat) : Int) = if ((wd (rowW F y n) i : Nat) : Int) < (popc r : Nat) then ((popc r : Nat) : Int) else ((wd (rowW F y n) i : Nat) : Int) by
          rw [HW.out]
          split <;> omega)
        obtain ⟨Y, hY⟩ : ∃ Y : Int, ((wd (rowW F y n) i : Nat) : Int) = Y := ⟨_, rfl⟩
        obtain ⟨P, hP⟩ : ∃ P : Int, ((popc r : Nat) : Int) = P := ⟨_, rfl⟩
        rw [hY, hP] at HW2
        rw [hP] at HO
        rw [hY]
        clear hY hP HW
        go_wp2_with fail
        refine (HO.out _).mono ?_
        rintro e w' ⟨rfl, rfl⟩
        by_cases hlt : Y < P
        · rw [if_pos hlt] at HW2
          go_wp2
          go_roundw
          case rel => exact ⟨i + 1, by omega, by go_num, by rw [HW2.out], m, rfl⟩
          case measure => simp [intOf]; omega
        · rw [if_neg hlt] at HW2
          have hle : P ≤ Y := by omega
          clear hlt
          go_wp2
          all_goals
            go_roundw
            case rel => exact ⟨i + 1, by omega, by go_num, by rw [HW2.out] <;> (try congr 1 <;> omega), m, rfl⟩
            case measure => simp [intOf]; omega
      · have e : i = n := by omega
        subst e
        go_wp2
        go_ret
        exact ⟨rfl, grown_drewN HG1.out m⟩
theorem widthOf_both (n : Nat) (F : Nat → Wid) (x : Int) (hn : n ≤ 9223372036854775807) :
    ∃ v : Int, (∀ A c W, Wds W A n F → Calls Tryd.prog 11 #[.slice A n c, .int .i64 x] W fun e w' => e = .returned (.int .i64 v) ∧ W.grownBy w' none) ∧
      (∀ A c W, WT W → Wds W A n F → Calls Tryd.prog 10 #[.slice A n c, .int .i64 x] W fun e w' => e = .returned (.int .i64 v) ∧ W.grownBy w' none) :=
  ⟨_, fun A c W h => SpecWidthOf_any A n c x F W hn h, fun A c W hw h => WidthOf_any A n c x F W hw hn h⟩
end Go.Proofs.YtfckmechiochlaaDoor
