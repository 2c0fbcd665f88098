/- NextOf and its model answer alike. -/
import Derived.Test.YtbdlbooooiinkaaDoorW400d
namespace Go.Proofs.YtbdlbooooiinkaaDoor
open Go.RowKit
set_option linter.unusedSimpArgs false
set_option maxHeartbeats 4000000 in
theorem pNextOf_at (b off n c i : Nat) (F : Nat → Ins) (w : World) (hg : WT w) (hn : n ≤ 40) (hi : i < n) (h : Code w (some ⟨b, off, none⟩) n F) :
    Calls Tryd.prog 46 #[.slice (some ⟨b, off, none⟩) n c, .int .i64 i] w (IntRes (nxI (F i) i) w) := by
  obtain ⟨q0, q1, q2, q3, q4⟩ := h.five hi
  have HG := shade hg
  have hne : (i == n) = false := by simp; omega
  have hni : ((i : Int) == (n : Int)) = false := by simp; omega
  clear h hg
  generalize F i = cc at *
  obtain ⟨op, d, a, b', kk⟩ := cc
  simp only [] at q0 q1 q2 q3 q4
  have HW := shade (fun W (hW : WT W) => wordOf_any op W hW)
  unfold nxI
  simp only []
  have h9 := word9 op.toList
  have h8 := word8 op.toList
  have h7 := word7 op.toList
  rcases e9 : (op.toList == [104, 108, 116]) with _ | _
  · rw [e9] at h9
    rcases e8 : (op.toList == [106, 109, 112]) with _ | _
    · rw [e8] at h8
      rcases e7 : (op.toList == [98, 122]) with _ | _
      · rw [e7] at h7
        clear e9 e8 e7
        generalize wordN op.toList = x at *
        go_enter Tryd.func46, Tryd.ntmps46
        go_wp2_with (first | (go_at_call 63; refine (HW.out _ (HG.out.alloc _)).mono ?_; rintro e w' ⟨rfl, rfl⟩))
        go_ret
        exact ⟨.slice (some ⟨w.heap.size + 1, 0, none⟩) 1 1, rfl, by have h := World.ownsRow_lit (base := w.heap.size) (e := 3) (size := 1) (w.alloc (.cells #[.string op, .int .i64 d, .int .i64 a, .int .i64 b', .int .i64 kk] 86)) #[.int .i64 ((i : Int) + 1)] 1 (by simp) (by decide) rfl; rw [World.size_alloc] at h; exact h, grown_same (World.grownBy_alloc _ _ _) (World.grownBy_alloc _ _ _)⟩
      · rw [e7] at h7
        clear e9 e8 e7
        rcases ek : (kk == (i : Int) + 1) with _ | _
        · have ek2 : (kk != (i : Int) + 1) = true := by rw [bne, ek]; rfl
          generalize wordN op.toList = x at *
          go_enter Tryd.func46, Tryd.ntmps46
          go_wp2_with (first | (go_at_call 63; refine (HW.out _ (HG.out.alloc _)).mono ?_; rintro e w' ⟨rfl, rfl⟩))
          go_ret
          exact ⟨.slice (some ⟨w.heap.size + 1, 0, none⟩) 2 2, rfl, by have h := World.ownsRow_lit (base := w.heap.size) (e := 3) (size := 1) (w.alloc (.cells #[.string op, .int .i64 d, .int .i64 a, .int .i64 b', .int .i64 kk] 86)) #[.int .i64 ((i : Int) + 1), .int .i64 kk] 2 (by simp) (by decide) rfl; rw [World.size_alloc] at h; exact h, grown_same (World.grownBy_alloc _ _ _) (World.grownBy_alloc _ _ _)⟩
        · have ek2 : (kk != (i : Int) + 1) = false := by rw [bne, ek]; rfl
          generalize wordN op.toList = x at *
          go_enter Tryd.func46, Tryd.ntmps46
          go_wp2_with (first | (go_at_call 63; refine (HW.out _ (HG.out.alloc _)).mono ?_; rintro e w' ⟨rfl, rfl⟩))
          go_ret
          exact ⟨.slice (some ⟨w.heap.size + 1, 0, none⟩) 1 1, rfl, by have h := World.ownsRow_lit (base := w.heap.size) (e := 3) (size := 1) (w.alloc (.cells #[.string op, .int .i64 d, .int .i64 a, .int .i64 b', .int .i64 kk] 86)) #[.int .i64 ((i : Int) + 1)] 1 (by simp) (by decide) rfl; rw [World.size_alloc] at h; exact h, grown_same (World.grownBy_alloc _ _ _) (World.grownBy_alloc _ _ _)⟩
    · rw [e8] at h8
      clear e9 e8
      generalize wordN op.toList = x at *
      go_enter Tryd.func46, Tryd.ntmps46
      go_wp2_with (first | (go_at_call 63; refine (HW.out _ (HG.out.alloc _)).mono ?_; rintro e w' ⟨rfl, rfl⟩))
      go_ret
      exact ⟨.slice (some ⟨w.heap.size + 1, 0, none⟩) 1 1, rfl, by have h := World.ownsRow_lit (base := w.heap.size) (e := 3) (size := 1) (w.alloc (.cells #[.string op, .int .i64 d, .int .i64 a, .int .i64 b', .int .i64 kk] 86)) #[.int .i64 kk] 1 (by simp) (by decide) rfl; rw [World.size_alloc] at h; exact h, grown_same (World.grownBy_alloc _ _ _) (World.grownBy_alloc _ _ _)⟩
  · rw [e9] at h9
    clear e9
    generalize wordN op.toList = x at *
    go_enter Tryd.func46, Tryd.ntmps46
    go_wp2_with (first | (go_at_call 63; refine (HW.out _ (HG.out.alloc _)).mono ?_; rintro e w' ⟨rfl, rfl⟩))
    go_ret
    exact IntRes.nil _ _ (World.grownBy_alloc _ _ _)
theorem pNextOf_end (A : Option Addr) (n c : Nat) (w : World) :
    Calls Tryd.prog 46 #[.slice A n c, .int .i64 n] w (IntRes [] w) := by
  have hne : (n == n) = true := by simp
  go_enter Tryd.func46, Tryd.ntmps46
  go_wp2
  go_ret
  exact IntRes.nil _ _ (grown_refl _ _)
/-- What NextOf gives. -/
def nxA (n : Nat) (F : Nat → Ins) (i : Int) : List Int :=
  if vcB n F = true ∧ 0 ≤ i ∧ i < n then nxI (F i.toNat) i.toNat else []
theorem vcB_40 {n : Nat} {F : Nat → Ins} (h : vcB n F = true) : n ≤ 40 := by
  simp only [vcB, Bool.and_eq_true, decide_eq_true_eq] at h
  exact h.2
theorem nxA_le (n : Nat) (F : Nat → Ins) (i : Int) : (nxA n F i).length ≤ 2 := by
  unfold nxA
  split
  · exact nxI_le _ _
  · simp
set_option maxHeartbeats 4000000 in
theorem INextOf_any (A : Option Addr) (n c : Nat) (F : Nat → Ins) (i : Int) (w : World) (hg : WT w) (hn : n ≤ 9223372036854775807) (h : Code w A n F) :
    Calls Tryd.prog 15 #[.slice A n c, .int .i64 i] w (IntRes (nxA n F i) w) := by
  have HV := shade (ValidCode_any A n c F w hg hn h)
  have HG := shade hg
  have HC := shade h
  clear hg h
  unfold nxA
  rcases hv : vcB n F with _ | _
  · rw [hv] at HV
    rw [if_neg (by simp)]
    go_enter Tryd.func15, Tryd.ntmps15
    go_wp2_with fail
    refine HV.out.mono ?_
    rintro e w1 ⟨rfl, hgr⟩
    have HR := shade hgr
    clear hgr HV
    go_wp2_with fail
    go_ret
    exact IntRes.nil _ _ HR.out
  · have hn40 := vcB_40 hv
    rw [hv] at HV
    by_cases h0 : 0 ≤ i
    · by_cases h1 : i < n
      · rw [if_pos ⟨rfl, h0, h1⟩]
        obtain ⟨j, rfl⟩ := Int.eq_ofNat_of_zero_le h0
        rw [Int.toNat_natCast]
        obtain ⟨b, off, rfl, _⟩ := HC.out.resolve_left (by omega)
        go_enter Tryd.func15, Tryd.ntmps15
        go_wp2_with fail
        refine HV.out.mono ?_
        rintro e w1 ⟨rfl, hgr⟩
        have HR := shade hgr
        clear hgr HV
        go_wp2_with fail
        refine (pNextOf_at b off n c j F w1 (HG.out.below (below_of_grown HR.out) (wt_lt HG.out)) hn40 (by omega) (HC.out.on HR.out)).mono ?_
        rintro e w2 ⟨v, rfl, ho, hg2⟩
        have HO := shade (IntRes.after HR.out ⟨v, rfl, ho, hg2⟩)
        clear ho hg2
        go_wp2_with fail
        go_ret
        exact HO.out
      · rw [if_neg (by simp; omega)]
        go_enter Tryd.func15, Tryd.ntmps15
        go_wp2_with fail
        refine HV.out.mono ?_
        rintro e w1 ⟨rfl, hgr⟩
        have HR := shade hgr
        clear hgr HV
        go_wp2_with fail
        go_ret
        exact IntRes.nil _ _ HR.out
    · rw [if_neg (by simp; omega)]
      go_enter Tryd.func15, Tryd.ntmps15
      go_wp2_with fail
      refine HV.out.mono ?_
      rintro e w1 ⟨rfl, hgr⟩
      have HR := shade hgr
      clear hgr HV
      go_wp2_with fail
      go_ret
      exact IntRes.nil _ _ HR.out
set_option maxHeartbeats 4000000 in
theorem SNextOf_any (A : Option Addr) (n c : Nat) (F : Nat → Ins) (i : Int) (w : World) (hn : n ≤ 9223372036854775807) (h : Code w A n F) :
    Calls Tryd.prog 22 #[.slice A n c, .int .i64 i] w (IntRes (nxA n F i) w) := by
  have HV := shade (validCode_any A n c F w hn h)
  have HC := shade h
  clear h
  unfold nxA
  rcases hv : vcB n F with _ | _
  · rw [hv] at HV
    rw [if_neg (by simp)]
    go_enter Tryd.func22, Tryd.ntmps22
    go_wp2_with fail
    refine HV.out.mono ?_
    rintro e w1 ⟨rfl, hgr⟩
    have HR := shade hgr
    clear hgr HV
    go_wp2_with fail
    go_ret
    exact IntRes.nil _ _ HR.out
  · have hn40 := vcB_40 hv
    rw [hv] at HV
    have hin : ∀ W : World, Calls Tryd.prog 51 #[.int .i64 i, .int .i64 0, .int .i64 ((n : Int) - 1)] W fun e w' => e = .returned (.bool (inRB i 0 ((n : Int) - 1))) ∧ W = w' := fun W => inRB_any _ _ _ W
    have HI := shade hin
    clear hin
    by_cases h0 : 0 ≤ i ∧ i < n
    · rw [if_pos ⟨rfl, h0.1, h0.2⟩]
      rw [show inRB i 0 ((n : Int) - 1) = true by simp [inRB]; omega] at HI
      obtain ⟨j, rfl⟩ := Int.eq_ofNat_of_zero_le h0.1
      rw [Int.toNat_natCast]
      obtain ⟨b, off, rfl, _⟩ := HC.out.resolve_left (by omega)
      have hj : j < n := by omega
      clear h0
      go_enter Tryd.func22, Tryd.ntmps22
      go_wp2_with fail
      refine HV.out.mono ?_
      rintro e w1 ⟨rfl, hgr⟩
      have HR := shade hgr
      clear hgr HV
      go_wp2_with fail
      refine (HI.out _).mono ?_
      rintro e w2 ⟨rfl, rfl⟩
      go_wp2_with fail
      refine (nextOf_any b off n c j F w1 hn40 hj (HC.out.on HR.out)).mono ?_
      rintro e w2 ⟨v, rfl, ho, hg2⟩
      have HO := shade (IntRes.after HR.out ⟨v, rfl, ho, hg2⟩)
      clear ho hg2
      go_wp2_with fail
      go_ret
      exact HO.out
    · rw [if_neg (by simp; omega)]
      rw [show inRB i 0 ((n : Int) - 1) = false by simp [inRB]; omega] at HI
      clear h0
      go_enter Tryd.func22, Tryd.ntmps22
      go_wp2_with fail
      refine HV.out.mono ?_
      rintro e w1 ⟨rfl, hgr⟩
      have HR := shade hgr
      clear hgr HV
      go_wp2_with fail
      refine (HI.out _).mono ?_
      rintro e w2 ⟨rfl, rfl⟩
      go_wp2_with fail
      go_ret
      exact IntRes.nil _ _ HR.out
/-- NextOf and its model give the same numbers. -/
theorem next_both (n : Nat) (F : Nat → Ins) (i : Int) (hn : n ≤ 9223372036854775807) :
    ∃ (K : Nat) (f : Nat → Int), K ≤ 300 ∧ (∀ (A : Option Addr) (c : Nat) (W : World), Code W A n F → Calls Tryd.prog 22 #[.slice A n c, .int .i64 i] W (NumRes K f W)) ∧
      (∀ (A : Option Addr) (c : Nat) (W : World), WT W → Code W A n F → Calls Tryd.prog 15 #[.slice A n c, .int .i64 i] W (NumRes K f W)) :=
  ⟨(nxA n F i).length, fun j => (nxA n F i).getD j 0, by have := nxA_le n F i; omega, fun A c W hC => (SNextOf_any A n c F i W hn hC).mono fun _ _ h => h.num, fun A c W hg hC => (INextOf_any A n c F i W hg hn hC).mono fun _ _ h => h.num⟩
end Go.Proofs.YtbdlbooooiinkaaDoor
