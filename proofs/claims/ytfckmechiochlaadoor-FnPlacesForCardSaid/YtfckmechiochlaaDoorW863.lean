/- PlacesFor, by the program. -/
import Derived.Test.YtfckmechiochlaaDoorW862
namespace Go.Proofs.YtfckmechiochlaaDoor
open Go.RowKit
set_option linter.unusedSimpArgs false
set_option maxRecDepth 100000 in
set_option maxHeartbeats 8000000 in
theorem PlacesFor_any (A : Option Addr) (n c : Nat) (x : Int) (F : Nat → Wid) (w : World) (hw : WT w) (hn : n ≤ 9223372036854775807) (h : Wds w A n F) :
    Calls Tryd.prog 12 #[.slice A n c, .int .i64 x] w (NumRes (nK n F x) (plK F x n) w) := by
  have HN := shade (placed_any A n c x F w hw hn h)
  have h8 := nK_le n F x
  unfold PlcRes at HN
  generalize nK n F x = K at *
  generalize vkB n F x = ok at *
  generalize plK F x n = f at *
  obtain ⟨i0, hi0, hz0, hz1, hz2⟩ := info_parts info3
  clear h hw
  go_enter Tryd.func12, Tryd.ntmps12
  go_wp2_with fail
  refine HN.out.mono ?_
  rintro e w1 ⟨v, rfl, ho1, hg1⟩
  obtain ⟨A4, c4, rfl, -⟩ := ownsRow_slice ho1
  have HR := shade (rowT_cell ho1)
  have HG1 := shade hg1
  clear ho1 hg1 HN
  go_wp2
  go_loopw [7, 18] (fun v q wr => ∃ i : Nat, i ≤ K ∧ q = .int .i64 i ∧ w1.grownBy wr none ∧ wr.ownsRow w1.heap.size 3 1 v i (numL i f)) (fun _ q _ => K - (intOf q).toNat)
  case atStart => exact ⟨0, Nat.zero_le _, rfl, grown_refl _ _, World.ownsRow_nil _ _ _ _⟩
  case round =>
    obtain ⟨i, hi, rfl, hgr, hown⟩ := hrel
    obtain ⟨A5, c5, rfl, -⟩ := ownsRow_slice hown
    have HRR := shade hgr
    have HO := shade hown
    have hgl := hgr.size
    have hg0 := HG1.out.size
    by_cases hin : i < K
    · have hn2 := HR.out.grown hgr (by intro _ _ _ e; cases e)
      obtain ⟨b, off, rfl, -⟩ := hn2.resolve_left (by omega)
      have q0 := hn2.cell hin
      clear hgr hown hn2
      go_wp2_with (first
        | (at_builtin; refine wpList_append_own _ rfl _ _ 27 rfl w1.heap.size 3 i0 (.int .i64 0) 1 8 Tryd.underlying27 hi0 hz0 hz1 hz2 rfl (by decide) _ _ _ rfl (World.ownsRow.alloc HO.out _) ⟨wr.heap.size, 0, none⟩ 1 1 [.int .i64 (f i)] rfl rfl (int_new _ _ _) (int_one _) (by unfold maxLen; omega) (by omega) (by simp at hgl ⊢; omega) ?_)
        | go_in)
      intro v8 w8 hown8 hgr8 hnil8
      have HO8 := shade (row_more hown8 rfl)
      have HZ8 := shade (grown_row (grown_same HRR.out (World.grownBy_alloc wr (.cells #[.int .i64 (f i)] 3) none)) hgr8 (fun j e => (World.ownsRow.lt HO.out j e).1))
      clear hown8 hgr8 hnil8
      go_wp2
      go_roundw
      case rel => exact ⟨i + 1, by omega, by go_num, HZ8.out, HO8.out⟩
      case measure => simp [intOf]; omega
    · have e : i = K := by omega
      subst e
      clear hgr hown
      go_wp2
      go_ret
      exact ⟨_, rfl, World.ownsRow.mono HO.out HG1.out.size, grown_same HG1.out HRR.out⟩
theorem placesFor_both (n : Nat) (F : Nat → Wid) (x : Int) (hn : n ≤ 9223372036854775807) :
    ∃ (K : Nat) (f : Nat → Int), K ≤ 300 ∧ (∀ A c W, Wds W A n F → Calls Tryd.prog 16 #[.slice A n c, .int .i64 x] W (NumRes K f W)) ∧
      (∀ A c W, WT W → Wds W A n F → Calls Tryd.prog 12 #[.slice A n c, .int .i64 x] W (NumRes K f W)) :=
  ⟨nK n F x, plK F x n, Nat.le_trans (nK_le n F x) (by omega), fun A c W h => SpecPlacesFor_any A n c x F W hn h, fun A c W hw h => PlacesFor_any A n c x F W hw hn h⟩
end Go.Proofs.YtfckmechiochlaaDoor
