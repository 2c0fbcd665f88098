/- LiveWide, by the program. -/
import Derived.Test.YtfckmechiochlaaDoorW845
namespace Go.Proofs.YtfckmechiochlaaDoor
open Go.RowKit
set_option linter.unusedSimpArgs false
/-- What neededOf leaves. -/
def NedRes (k n : Nat) (ok : Bool) (F : Nat → Wid) (x : Int) (w : World) (e : Ending) (w' : World) : Prop :=
  ∃ v, e = .returned (.tuple #[v, .bool ok]) ∧ w'.ownsRow w.heap.size 61 1 v k (numL k (rowK F x n)) ∧ w.grownBy w' none
set_option maxHeartbeats 4000000 in
theorem neededOf_no1 (A : Option Addr) (n c : Nat) (x : Int) (F : Nat → Wid) (w : World) (hw : WT w) (hn : n ≤ 9223372036854775807) (hv : vwB n F = false) (h : Wds w A n F) :
    Calls Tryd.prog 48 #[.slice A n c, .int .i64 x] w (NedRes 0 n false F x w) := by
  have HVW := shade (ValidWide_any A n c F w hw hn h)
  rw [hv] at HVW
  clear h hv hw
  go_enter Tryd.func48, Tryd.ntmps48
  go_wp2_with fail
  refine HVW.out.mono ?_
  rintro e w1 ⟨rfl, hg1⟩
  have HG := shade hg1
  clear hg1
  go_wp2
  go_ret2
  exact ⟨_, rfl, World.ownsRow_nil _ _ _ _, HG.out⟩
set_option maxHeartbeats 4000000 in
theorem neededOf_no2 (A : Option Addr) (n c : Nat) (x : Int) (F : Nat → Wid) (w : World) (hw : WT w) (hv : vwB n F = true) (hk : ktB n x = false) (h : Wds w A n F) :
    Calls Tryd.prog 48 #[.slice A n c, .int .i64 x] w (NedRes 0 n false F x w) := by
  have hn := (vwB_iff.1 hv).2
  have HVW := shade (ValidWide_any A n c F w hw (by omega) h)
  rw [hv] at HVW
  have hne : ¬ (x / 2 ^ n = 0) := by
    intro h0
    have hp : (0 : Int) < 2 ^ n := Int.pow_pos (by omega)
    have h1 := Int.emod_add_mul_ediv x (2 ^ n)
    have h2 := Int.emod_nonneg x (show (2 : Int) ^ n ≠ 0 by omega)
    have h3 := Int.emod_lt_of_pos x hp
    rw [h0] at h1
    have hk2 : ktB n x = true := by
      unfold ktB
      rw [Bool.and_eq_true, decide_eq_true_iff, decide_eq_true_iff]
      have e : ((2 ^ n : Nat) : Int) = 2 ^ n := by simp
      rw [e]
      omega
    rw [hk2] at hk
    cases hk
  have hne2 : (x / 2 ^ n == 0) = false := beq_eq_false_iff_ne.2 hne
  clear h hv hw hk
  go_enter Tryd.func48, Tryd.ntmps48
  go_wp2_with fail
  refine HVW.out.mono ?_
  rintro e w1 ⟨rfl, hg1⟩
  have HG := shade hg1
  clear hg1
  go_wp2
  go_ret2
  exact ⟨_, rfl, World.ownsRow_nil _ _ _ _, HG.out⟩
theorem neededOf_any (A : Option Addr) (n c : Nat) (x : Int) (F : Nat → Wid) (w : World) (hw : WT w) (hn : n ≤ 9223372036854775807) (h : Wds w A n F) :
    Calls Tryd.prog 48 #[.slice A n c, .int .i64 x] w (NedRes (nK n F x) n (vkB n F x) F x w) := by
  unfold nK
  rcases hv : vkB n F x with _ | _
  · rcases h1 : vwB n F with _ | _
    · exact neededOf_no1 A n c x F w hw hn h1 h
    · refine neededOf_no2 A n c x F w hw h1 ?_ h
      unfold vkB at hv
      rw [h1] at hv
      exact hv
  · obtain ⟨h1, y, rfl, hy⟩ := vkB_iff.1 hv
    exact neededOf_yes A n c y F w hw h1 hy h
theorem nK_le (n : Nat) (F : Nat → Wid) (x : Int) : nK n F x ≤ 8 := by
  unfold nK
  rcases hv : vkB n F x with _ | _
  · exact Nat.zero_le _
  · rw [if_pos rfl]
    exact (vwB_iff.1 (vkB_iff.1 hv).1).2
/-- A row of sets that a call has made, by its cells. -/
theorem rowT_cell {w : World} {B k : Nat} {t : TypeId} {A : Option Addr} {c : Nat} {f : Nat → Int} (h : w.ownsRow B t 1 (.slice A k c) k (numL k f)) : Nums w A k f := by
  rcases h.2 with ⟨e, h0⟩ | ⟨g', c', cur, e, hrest⟩
  · exact .inl h0
  · have hh := h
    injection e with e1 e2 e3
    subst e1
    refine .inr ⟨g', 0, rfl, (World.ownsRow.lt hh g' rfl).2, fun j hj => ?_⟩
    rw [Nat.zero_add, World.ownsRow.cellAt hh j (by omega)]
    exact numL_get k f j hj
set_option maxRecDepth 100000 in
set_option maxHeartbeats 8000000 in
theorem LiveWide_any (A : Option Addr) (n c : Nat) (x : Int) (F : Nat → Wid) (w : World) (hw : WT w) (hn : n ≤ 9223372036854775807) (h : Wds w A n F) :
    Calls Tryd.prog 17 #[.slice A n c, .int .i64 x] w (NumRes (nK n F x) (rowK F x n) w) := by
  have HN := shade (neededOf_any A n c x F w hw hn h)
  have h8 := nK_le n F x
  unfold NedRes at HN
  generalize nK n F x = K at *
  generalize vkB n F x = ok at *
  generalize rowK F x n = f at *
  obtain ⟨i0, hi0, hz0, hz1, hz2⟩ := info_parts info3
  clear h hw
  go_enter Tryd.func17, Tryd.ntmps17
  go_wp2_with fail
  refine HN.out.mono ?_
  rintro e w1 ⟨v, rfl, ho1, hg1⟩
  obtain ⟨A4, c4, rfl, -⟩ := ownsRow_slice ho1
  have HR := shade (rowT_cell ho1)
  have HG1 := shade hg1
  clear ho1 hg1 HN
  go_wp2
  go_loopw [7, 18] (fun v q wr => ∃ i : Nat, i ≤ K ∧ q = .int .i64 i ∧ w1.grownBy wr none ∧ wr.ownsRow w1.heap.size 3 1 v i (numL i f)) (fun _ q _ => K - (intOf q).toNat)
  case atStart => exact ⟨0, Nat.zero_le _, rfl, grown_refl _ _, World.ownsRow_nil _ _ _ _⟩
  case round =>
    obtain ⟨i, hi, rfl, hgr, hown⟩ := hrel
    obtain ⟨A5, c5, rfl, -⟩ := ownsRow_slice hown
    have HRR := shade hgr
    have HO := shade hown
    have hgl := hgr.size
    have hg0 := HG1.out.size
    by_cases hin : i < K
    · have hn2 := HR.out.grown hgr (by intro _ _ _ e; cases e)
      obtain ⟨b, off, rfl, _⟩ := hn2.resolve_left (by omega)
      have q0 := hn2.cell hin
      clear hgr hown hn2
      go_wp2_with (first
        | (at_builtin; refine wpList_append_own _ rfl _ _ 27 rfl w1.heap.size 3 i0 (.int .i64 0) 1 8 Tryd.underlying27 hi0 hz0 hz1 hz2 rfl (by decide) _ _ _ rfl (World.ownsRow.alloc HO.out _) ⟨wr.heap.size, 0, none⟩ 1 1 [.int .i64 (f i)] rfl rfl (int_new _ _ _) (int_one _) (by unfold maxLen; omega) (by omega) (by simp at hgl ⊢; omega) ?_)
        | go_in)
      intro v8 w8 hown8 hgr8 hnil8
      have HO8 := shade (row_more hown8 rfl)
      have HZ8 := shade (grown_row (grown_same HRR.out (World.grownBy_alloc wr (.cells #[.int .i64 (f i)] 3) none)) hgr8 (fun j e => (World.ownsRow.lt HO.out j e).1))
      clear hown8 hgr8 hnil8
      go_wp2
      go_roundw
      case rel => exact ⟨i + 1, by omega, by go_num, HZ8.out, HO8.out⟩
      case measure => simp [intOf]; omega
    · have e : i = K := by omega
      subst e
      clear hgr hown
      go_wp2
      go_ret
      exact ⟨_, rfl, World.ownsRow.mono HO.out HG1.out.size, grown_same HG1.out HRR.out⟩
theorem liveWide_both (n : Nat) (F : Nat → Wid) (x : Int) (hn : n ≤ 9223372036854775807) :
    ∃ (K : Nat) (f : Nat → Int), K ≤ 300 ∧ (∀ A c W, Wds W A n F → Calls Tryd.prog 56 #[.slice A n c, .int .i64 x] W (NumRes K f W)) ∧
      (∀ A c W, WT W → Wds W A n F → Calls Tryd.prog 17 #[.slice A n c, .int .i64 x] W (NumRes K f W)) :=
  ⟨nK n F x, rowK F x n, Nat.le_trans (nK_le n F x) (by omega), fun A c W h => SpecLiveWide_any A n c x F W hn h, fun A c W hw h => LiveWide_any A n c x F W hw hn h⟩
end Go.Proofs.YtfckmechiochlaaDoor
