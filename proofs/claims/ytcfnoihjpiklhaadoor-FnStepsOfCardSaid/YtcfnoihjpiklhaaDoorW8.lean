/- ValidInstr returns the test of validity at every instruction, provided that wordTexts holds its words. -/
import Derived.Test.YtcfnoihjpiklhaaDoorW7
namespace Go.Proofs.YtcfnoihjpiklhaaDoor
open Go.RowKit
theorem vB_false {l : List UInt8} {d a b k : Int} (h : ¬ VI l d a b k) : vB l d a b k = false := by simp [vB, h]


set_option maxHeartbeats 2000000 in
theorem ValidInstr_no0 (op : ByteArray) (d a b k : Int) (w : World) (hg : WT w) (n : Nat) (hn : n < 10) (hw : wordN op.toList = n) (td ta tb tk : Int) (ht : told (namesN n).data.toList d a b k = (td, ta, tb, tk)) (hne : (d == td) = false) :
    Calls Tryd.prog 55 #[IV op d a b k] w fun e w' => e = .returned (.bool (vB op.toList d a b k)) ∧ Below w.heap.size w w' := by
  have HV : vB op.toList d a b k = false := by
    refine vB_false fun h => ?_
    rw [VI_told op.toList d a b k n hn hw, ht] at h
    obtain ⟨h, _⟩ := h
    simp only [Prod.mk.injEq] at h
    simp [h] at hne
  rw [HV]
  clear HV
  have HG := shade hg
  have HW := shade hw
  have HT := shade ht
  clear hg hw ht
  have hnn : decide ((n : Int) < 0) = false := by simp
  go_enter Tryd.func55, Tryd.ntmps55
  go_wp2_with (first | (go_at_call 29; refine (wordOf_any _ _ (WT.alloc HG.out _)).mono ?_; rw [HW.out]; rintro e w' ⟨rfl, rfl⟩))
  go_region_held3 (fun w' => w'.cell? ⟨w.heap.size, 0, none⟩ = some (.string op) ∧ w'.cell? ⟨w.heap.size, 1, none⟩ = some (.int .i64 d) ∧ w'.cell? ⟨w.heap.size, 2, none⟩ = some (.int .i64 a) ∧ w'.cell? ⟨w.heap.size, 3, none⟩ = some (.int .i64 b) ∧ w'.cell? ⟨w.heap.size, 4, none⟩ = some (.int .i64 k)) (refine ⟨?_, ?_, ?_, ?_, ?_⟩ <;> go_cell)
    ((go_at_call 63; refine (toldParts_any _ _ _ _ _ _ hn _).mono ?_; rw [HT.out]; rintro e w1 ⟨rfl, hb⟩; have hc := bcells hb; have hB := ((Below.refl w.heap.size w).alloc (Nat.le_refl _) _).drew.trans (hb.mono (by simp))))
  go_wp2_with fail
  go_ret
  exact ⟨rfl, hB⟩

set_option maxHeartbeats 2000000 in
theorem ValidInstr_no1 (op : ByteArray) (d a b k : Int) (w : World) (hg : WT w) (n : Nat) (hn : n < 10) (hw : wordN op.toList = n) (ta tb tk : Int) (ht : told (namesN n).data.toList d a b k = (d, ta, tb, tk)) (hne : (a == ta) = false) :
    Calls Tryd.prog 55 #[IV op d a b k] w fun e w' => e = .returned (.bool (vB op.toList d a b k)) ∧ Below w.heap.size w w' := by
  have HV : vB op.toList d a b k = false := by
    refine vB_false fun h => ?_
    rw [VI_told op.toList d a b k n hn hw, ht] at h
    obtain ⟨h, _⟩ := h
    simp only [Prod.mk.injEq] at h
    simp [h] at hne
  rw [HV]
  clear HV
  have HG := shade hg
  have HW := shade hw
  have HT := shade ht
  clear hg hw ht
  have hnn : decide ((n : Int) < 0) = false := by simp
  go_enter Tryd.func55, Tryd.ntmps55
  go_wp2_with (first | (go_at_call 29; refine (wordOf_any _ _ (WT.alloc HG.out _)).mono ?_; rw [HW.out]; rintro e w' ⟨rfl, rfl⟩))
  go_region_held3 (fun w' => w'.cell? ⟨w.heap.size, 0, none⟩ = some (.string op) ∧ w'.cell? ⟨w.heap.size, 1, none⟩ = some (.int .i64 d) ∧ w'.cell? ⟨w.heap.size, 2, none⟩ = some (.int .i64 a) ∧ w'.cell? ⟨w.heap.size, 3, none⟩ = some (.int .i64 b) ∧ w'.cell? ⟨w.heap.size, 4, none⟩ = some (.int .i64 k)) (refine ⟨?_, ?_, ?_, ?_, ?_⟩ <;> go_cell)
    ((go_at_call 63; refine (toldParts_any _ _ _ _ _ _ hn _).mono ?_; rw [HT.out]; rintro e w1 ⟨rfl, hb⟩; have hc := bcells hb; have hB := ((Below.refl w.heap.size w).alloc (Nat.le_refl _) _).drew.trans (hb.mono (by simp))))
  go_wp2_with fail
  go_ret
  exact ⟨rfl, hB⟩

set_option maxHeartbeats 2000000 in
theorem ValidInstr_no2 (op : ByteArray) (d a b k : Int) (w : World) (hg : WT w) (n : Nat) (hn : n < 10) (hw : wordN op.toList = n) (tb tk : Int) (ht : told (namesN n).data.toList d a b k = (d, a, tb, tk)) (hne : (b == tb) = false) :
    Calls Tryd.prog 55 #[IV op d a b k] w fun e w' => e = .returned (.bool (vB op.toList d a b k)) ∧ Below w.heap.size w w' := by
  have HV : vB op.toList d a b k = false := by
    refine vB_false fun h => ?_
    rw [VI_told op.toList d a b k n hn hw, ht] at h
    obtain ⟨h, _⟩ := h
    simp only [Prod.mk.injEq] at h
    simp [h] at hne
  rw [HV]
  clear HV
  have HG := shade hg
  have HW := shade hw
  have HT := shade ht
  clear hg hw ht
  have hnn : decide ((n : Int) < 0) = false := by simp
  go_enter Tryd.func55, Tryd.ntmps55
  go_wp2_with (first | (go_at_call 29; refine (wordOf_any _ _ (WT.alloc HG.out _)).mono ?_; rw [HW.out]; rintro e w' ⟨rfl, rfl⟩))
  go_region_held3 (fun w' => w'.cell? ⟨w.heap.size, 0, none⟩ = some (.string op) ∧ w'.cell? ⟨w.heap.size, 1, none⟩ = some (.int .i64 d) ∧ w'.cell? ⟨w.heap.size, 2, none⟩ = some (.int .i64 a) ∧ w'.cell? ⟨w.heap.size, 3, none⟩ = some (.int .i64 b) ∧ w'.cell? ⟨w.heap.size, 4, none⟩ = some (.int .i64 k)) (refine ⟨?_, ?_, ?_, ?_, ?_⟩ <;> go_cell)
    ((go_at_call 63; refine (toldParts_any _ _ _ _ _ _ hn _).mono ?_; rw [HT.out]; rintro e w1 ⟨rfl, hb⟩; have hc := bcells hb; have hB := ((Below.refl w.heap.size w).alloc (Nat.le_refl _) _).drew.trans (hb.mono (by simp))))
  go_wp2_with fail
  go_ret
  exact ⟨rfl, hB⟩

set_option maxHeartbeats 2000000 in
theorem ValidInstr_no3 (op : ByteArray) (d a b k : Int) (w : World) (hg : WT w) (n : Nat) (hn : n < 10) (hw : wordN op.toList = n) (tk : Int) (ht : told (namesN n).data.toList d a b k = (d, a, b, tk)) (hne : (k == tk) = false) :
    Calls Tryd.prog 55 #[IV op d a b k] w fun e w' => e = .returned (.bool (vB op.toList d a b k)) ∧ Below w.heap.size w w' := by
  have HV : vB op.toList d a b k = false := by
    refine vB_false fun h => ?_
    rw [VI_told op.toList d a b k n hn hw, ht] at h
    obtain ⟨h, _⟩ := h
    simp only [Prod.mk.injEq] at h
    simp [h] at hne
  rw [HV]
  clear HV
  have HG := shade hg
  have HW := shade hw
  have HT := shade ht
  clear hg hw ht
  have hnn : decide ((n : Int) < 0) = false := by simp
  go_enter Tryd.func55, Tryd.ntmps55
  go_wp2_with (first | (go_at_call 29; refine (wordOf_any _ _ (WT.alloc HG.out _)).mono ?_; rw [HW.out]; rintro e w' ⟨rfl, rfl⟩))
  go_region_held3 (fun w' => w'.cell? ⟨w.heap.size, 0, none⟩ = some (.string op) ∧ w'.cell? ⟨w.heap.size, 1, none⟩ = some (.int .i64 d) ∧ w'.cell? ⟨w.heap.size, 2, none⟩ = some (.int .i64 a) ∧ w'.cell? ⟨w.heap.size, 3, none⟩ = some (.int .i64 b) ∧ w'.cell? ⟨w.heap.size, 4, none⟩ = some (.int .i64 k)) (refine ⟨?_, ?_, ?_, ?_, ?_⟩ <;> go_cell)
    ((go_at_call 63; refine (toldParts_any _ _ _ _ _ _ hn _).mono ?_; rw [HT.out]; rintro e w1 ⟨rfl, hb⟩; have hc := bcells hb; have hB := ((Below.refl w.heap.size w).alloc (Nat.le_refl _) _).drew.trans (hb.mono (by simp))))
  go_wp2_with fail
  go_ret
  exact ⟨rfl, hB⟩

theorem ValidInstr_any (op : ByteArray) (d a b k : Int) (w : World) (hg : WT w) :
    Calls Tryd.prog 55 #[IV op d a b k] w fun e w' => e = .returned (.bool (vB op.toList d a b k)) ∧ Below w.heap.size w w' := by
  obtain ⟨r1, r2⟩ := wordN_range op.toList
  by_cases hm : wordN op.toList = -1
  · rw [vB_false (fun h => by unfold VI at h; omega)]
    exact ValidInstr_neg op d a b k w hg hm
  obtain ⟨n, hn⟩ := Int.eq_ofNat_of_zero_le (show 0 ≤ wordN op.toList by omega)
  have hn10 : n < 10 := by omega
  rcases ht : told (namesN n).data.toList d a b k with ⟨td, ta, tb, tk⟩
  by_cases e0 : d = td
  · subst e0
    by_cases e1 : a = ta
    · subst e1
      by_cases e2 : b = tb
      · subst e2
        by_cases e3 : k = tk
        · subst e3
          exact ValidInstr_yes op d a b k w hg n hn10 hn ht
        · exact ValidInstr_no3 op d a b k w hg n hn10 hn tk ht (by simpa using e3)
      · exact ValidInstr_no2 op d a b k w hg n hn10 hn tb tk ht (by simpa using e2)
    · exact ValidInstr_no1 op d a b k w hg n hn10 hn ta tb tk ht (by simpa using e1)
  · exact ValidInstr_no0 op d a b k w hg n hn10 hn td ta tb tk ht (by simpa using e0)
end Go.Proofs.YtcfnoihjpiklhaaDoor