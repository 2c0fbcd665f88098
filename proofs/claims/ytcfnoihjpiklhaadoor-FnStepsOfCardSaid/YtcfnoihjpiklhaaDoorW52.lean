/- ValidCode and its model: what they answer, for every program whose cells can be read. -/
import Derived.Test.YtcfnoihjpiklhaaDoorW51
namespace Go.Proofs.YtcfnoihjpiklhaaDoor
open Go.RowKit
/-- Is it a jump? -/
def jmpB (l : List UInt8) : Bool := (l == [98, 122]) || (l == [106, 109, 112])
/-- Is the instruction one of a program of n? -/
def okI (n : Nat) (c : Ins) : Bool := vB c.op.toList c.d c.a c.b c.k && !(jmpB c.op.toList && decide ((n : Int) < c.k))
/-- Is it a program? -/
def vcB (n : Nat) (f : Nat → Ins) : Bool := ((List.range n).all fun j => okI n (f j)) && decide (n ≤ 40)
theorem allI_iff {n : Nat} {f : Nat → Ins} {m : Nat} : ((List.range n).all fun j => okI m (f j)) = true ↔ ∀ j, j < n → okI m (f j) = true := by
  simp [List.all_eq_true]
theorem vcB_no {n k : Nat} {f : Nat → Ins} (hk : k < n) (h : okI n (f k) = false) : vcB n f = false := by
  rw [Bool.eq_false_iff]
  intro hv
  simp only [vcB, Bool.and_eq_true] at hv
  rw [allI_iff.1 hv.1 k hk] at h
  cases h
theorem vcB_all {n : Nat} {f : Nat → Ins} (h : ∀ j, j < n → okI n (f j) = true) : vcB n f = decide (n ≤ 40) := by
  unfold vcB
  rw [allI_iff.2 h]
  rfl
theorem ret_b {x y : Bool} (h : x = y) : Ending.returned (.bool x) = .returned (.bool y) := by rw [h]
theorem word7 (l : List UInt8) : (wordN l == 7) = (l == [98, 122]) := by
  rw [Bool.eq_iff_iff, beq_iff_eq, beq_iff_eq]
  constructor
  · intro h
    rcases word_is l 7 (by omega) h with h | h | h | h | h | h | h | h | h | h
    all_goals first
      | exact absurd h.1 (by omega)
      | exact (beq_iff_eq.1 h.2).symm
  · intro h
    rw [h]
    exact wordN_at7
theorem word8 (l : List UInt8) : (wordN l == 8) = (l == [106, 109, 112]) := by
  rw [Bool.eq_iff_iff, beq_iff_eq, beq_iff_eq]
  constructor
  · intro h
    rcases word_is l 8 (by omega) h with h | h | h | h | h | h | h | h | h | h
    all_goals first
      | exact absurd h.1 (by omega)
      | exact (beq_iff_eq.1 h.2).symm
  · intro h
    rw [h]
    exact wordN_at8
set_option maxHeartbeats 1000000 in
theorem isJump_any (op : ByteArray) (d a b k : Int) (w : World) (hg : WT w) :
    Calls Tryd.prog 56 #[IV op d a b k] w fun e w' => e = .returned (.bool (jmpB op.toList)) ∧ w.grownBy w' none := by
  have HG := shade hg
  clear hg
  have h7 := word7 op.toList
  have h8 := word8 op.toList
  unfold jmpB
  generalize (op.toList == [98, 122]) = x at *
  generalize (op.toList == [106, 109, 112]) = y at *
  have HW := shade (fun W (hW : WT W) => wordOf_any op W hW)
  generalize wordN op.toList = n at *
  rcases x with _ | _
  · rcases y with _ | _
    all_goals
      go_enter Tryd.func56, Tryd.ntmps56
      go_wp2_with (first | (go_at_call 29; refine (HW.out _ (HG.out.alloc _)).mono ?_; rintro e w' ⟨rfl, rfl⟩))
      go_ret
      exact ⟨rfl, World.grownBy_alloc _ _ _⟩
  · go_enter Tryd.func56, Tryd.ntmps56
    go_wp2_with (first | (go_at_call 29; refine (HW.out _ (HG.out.alloc _)).mono ?_; rintro e w' ⟨rfl, rfl⟩))
    go_ret
    exact ⟨by cases y <;> rfl, World.grownBy_alloc _ _ _⟩
theorem validCode_zero (A : Option Addr) (c : Nat) (f : Nat → Ins) (w : World) :
    Calls Tryd.prog 49 #[.slice A 0 c] w fun e w' => e = .returned (.bool (vcB 0 f)) ∧ w.grownBy w' none := by
  go_enter Tryd.func49, Tryd.ntmps49
  go_wp2
  refine wp_loop_rounds 1 ?_
  rw [rounds_succ]
  go_wp2
  go_ret
  exact ⟨rfl, World.grownBy.refl _ _⟩
set_option maxHeartbeats 8000000 in
theorem validCode_at (b off n c : Nat) (f : Nat → Ins) (w : World) (hn : n ≤ 9223372036854775807) (h : Code w (some ⟨b, off, none⟩) n f) :
    Calls Tryd.prog 49 #[.slice (some ⟨b, off, none⟩) n c] w fun e w' => e = .returned (.bool (vcB n f)) ∧ w.grownBy w' none := by
  have H := shade h
  clear h
  go_enter Tryd.func49, Tryd.ntmps49
  go_wp2
  go_loopw [3] (fun i wr => ∃ k : Nat, k ≤ n ∧ i = .int .i64 k ∧ (∀ j, j < k → okI n (f j) = true) ∧ w.grownBy wr none) (fun i _ => n - (intOf i).toNat)
  case atStart => exact ⟨0, Nat.zero_le _, rfl, fun j hj => absurd hj (by omega), World.grownBy.refl _ _⟩
  case round =>
    obtain ⟨k, hk, rfl, hall, hg⟩ := hrel
    have HA := shade hall
    clear hall
    by_cases hkn : k < n
    · obtain ⟨q0, q1, q2, q3, q4⟩ := (H.out.on hg).five hkn
      have HG := shade hg
      clear hg
      generalize hc : f k = cc at *
      obtain ⟨op, d, a, b', kk⟩ := cc
      simp only [] at q0 q1 q2 q3 q4
      have HC := shade hc
      clear hc
      have hO : ∀ x, okI n ⟨op, d, a, b', kk⟩ = x → okI n (f k) = x := fun x h => by rw [HC.out]; exact h
      have HO := shade hO
      clear hO
      have HN := shade (fun (h : okI n (f k) = true) j (hj : j < k + 1) => show okI n (f j) = true by
        by_cases e : j = k
        · rw [e]; exact h
        · exact HA.out j (by omega))
      rcases hv : vB op.toList d a b' kk with _ | _
      · have HV := shade hv
        clear hv
        go_wp2_with fail
        refine (validInstr_any _ _ _ _ _ _).mono ?_
        rw [HV.out]
        rintro e w2 ⟨rfl, o2, rfl⟩
        have z := World.block_lt_of_cell? _ _ q0; replace q0 := (World.cell?_alloc_some wr _ o2 (by rw [q0]; rfl)).trans q0; replace q1 := (World.cell?_alloc_some wr _ o2 (by rw [q1]; rfl)).trans q1; replace q2 := (World.cell?_alloc_some wr _ o2 (by rw [q2]; rfl)).trans q2; replace q3 := (World.cell?_alloc_some wr _ o2 (by rw [q3]; rfl)).trans q3; replace q4 := (World.cell?_alloc_some wr _ o2 (by rw [q4]; rfl)).trans q4
        go_wp2_with fail
        go_ret
        exact ⟨ret_b (vcB_no hkn (HO.out _ (by simp [okI, HV.out]))).symm, grown_alloc HG.out _⟩
      · have HV := shade hv
        clear hv
        rcases e1 : (op.toList == [98, 122]) with _ | _
        · rcases e2 : (op.toList == [106, 109, 112]) with _ | _
          · have HK := shade (HO.out true (by simp [okI, HV.out, jmpB, e1, e2]))
            go_wp2_with fail
            refine (validInstr_any _ _ _ _ _ _).mono ?_
            rw [HV.out]
            rintro e w2 ⟨rfl, o2, rfl⟩
            have z := World.block_lt_of_cell? _ _ q0; replace q0 := (World.cell?_alloc_some wr _ o2 (by rw [q0]; rfl)).trans q0; replace q1 := (World.cell?_alloc_some wr _ o2 (by rw [q1]; rfl)).trans q1; replace q2 := (World.cell?_alloc_some wr _ o2 (by rw [q2]; rfl)).trans q2; replace q3 := (World.cell?_alloc_some wr _ o2 (by rw [q3]; rfl)).trans q3; replace q4 := (World.cell?_alloc_some wr _ o2 (by rw [q4]; rfl)).trans q4
            go_wp2_with fail
            go_roundw
            case rel => exact ⟨k + 1, by omega, by go_num, HN.out HK.out, grown_alloc HG.out _⟩
            case measure => simp [intOf]; omega
          · by_cases hgt : (n : Int) < kk
            · have HK := shade (HO.out false (by simp [okI, HV.out, jmpB, e1, e2, hgt]))
              go_wp2_with fail
              refine (validInstr_any _ _ _ _ _ _).mono ?_
              rw [HV.out]
              rintro e w2 ⟨rfl, o2, rfl⟩
              have z := World.block_lt_of_cell? _ _ q0; replace q0 := (World.cell?_alloc_some wr _ o2 (by rw [q0]; rfl)).trans q0; replace q1 := (World.cell?_alloc_some wr _ o2 (by rw [q1]; rfl)).trans q1; replace q2 := (World.cell?_alloc_some wr _ o2 (by rw [q2]; rfl)).trans q2; replace q3 := (World.cell?_alloc_some wr _ o2 (by rw [q3]; rfl)).trans q3; replace q4 := (World.cell?_alloc_some wr _ o2 (by rw [q4]; rfl)).trans q4
              go_wp2_with fail
              go_ret
              exact ⟨ret_b (vcB_no hkn HK.out).symm, grown_alloc HG.out _⟩
            · have HK := shade (HO.out true (by simp [okI, HV.out, jmpB, e1, e2]; omega))
              have hgt : kk ≤ (n : Int) := by omega
              go_wp2_with fail
              refine (validInstr_any _ _ _ _ _ _).mono ?_
              rw [HV.out]
              rintro e w2 ⟨rfl, o2, rfl⟩
              have z := World.block_lt_of_cell? _ _ q0; replace q0 := (World.cell?_alloc_some wr _ o2 (by rw [q0]; rfl)).trans q0; replace q1 := (World.cell?_alloc_some wr _ o2 (by rw [q1]; rfl)).trans q1; replace q2 := (World.cell?_alloc_some wr _ o2 (by rw [q2]; rfl)).trans q2; replace q3 := (World.cell?_alloc_some wr _ o2 (by rw [q3]; rfl)).trans q3; replace q4 := (World.cell?_alloc_some wr _ o2 (by rw [q4]; rfl)).trans q4
              go_wp2_with fail
              go_roundw
              case rel => exact ⟨k + 1, by omega, by go_num, HN.out HK.out, grown_alloc HG.out _⟩
              case measure => simp [intOf]; omega
        · by_cases hgt : (n : Int) < kk
          · have HK := shade (HO.out false (by simp [okI, HV.out, jmpB, e1, hgt]))
            go_wp2_with fail
            refine (validInstr_any _ _ _ _ _ _).mono ?_
            rw [HV.out]
            rintro e w2 ⟨rfl, o2, rfl⟩
            have z := World.block_lt_of_cell? _ _ q0; replace q0 := (World.cell?_alloc_some wr _ o2 (by rw [q0]; rfl)).trans q0; replace q1 := (World.cell?_alloc_some wr _ o2 (by rw [q1]; rfl)).trans q1; replace q2 := (World.cell?_alloc_some wr _ o2 (by rw [q2]; rfl)).trans q2; replace q3 := (World.cell?_alloc_some wr _ o2 (by rw [q3]; rfl)).trans q3; replace q4 := (World.cell?_alloc_some wr _ o2 (by rw [q4]; rfl)).trans q4
            go_wp2_with fail
            go_ret
            exact ⟨ret_b (vcB_no hkn HK.out).symm, grown_alloc HG.out _⟩
          · have HK := shade (HO.out true (by simp [okI, HV.out, jmpB, e1]; omega))
            have hgt : kk ≤ (n : Int) := by omega
            go_wp2_with fail
            refine (validInstr_any _ _ _ _ _ _).mono ?_
            rw [HV.out]
            rintro e w2 ⟨rfl, o2, rfl⟩
            have z := World.block_lt_of_cell? _ _ q0; replace q0 := (World.cell?_alloc_some wr _ o2 (by rw [q0]; rfl)).trans q0; replace q1 := (World.cell?_alloc_some wr _ o2 (by rw [q1]; rfl)).trans q1; replace q2 := (World.cell?_alloc_some wr _ o2 (by rw [q2]; rfl)).trans q2; replace q3 := (World.cell?_alloc_some wr _ o2 (by rw [q3]; rfl)).trans q3; replace q4 := (World.cell?_alloc_some wr _ o2 (by rw [q4]; rfl)).trans q4
            go_wp2_with fail
            go_roundw
            case rel => exact ⟨k + 1, by omega, by go_num, HN.out HK.out, grown_alloc HG.out _⟩
            case measure => simp [intOf]; omega
    · have hkn2 : k = n := by omega
      subst hkn2
      have HG := shade hg
      clear hg
      go_wp2
      go_ret
      exact ⟨ret_b (by rw [vcB_all HA.out, Bool.eq_iff_iff]; simp; try omega), HG.out⟩


theorem validCode_any (A : Option Addr) (n c : Nat) (f : Nat → Ins) (w : World) (hn : n ≤ 9223372036854775807) (h : Code w A n f) :
    Calls Tryd.prog 49 #[.slice A n c] w fun e w' => e = .returned (.bool (vcB n f)) ∧ w.grownBy w' none := by
  by_cases h0 : n = 0
  · subst h0
    exact validCode_zero A c f w
  · obtain ⟨b, off, rfl, _⟩ := h.resolve_left h0
    exact validCode_at b off n c f w hn h
theorem vcB_big {n : Nat} {f : Nat → Ins} (h : 40 < n) : vcB n f = false := by
  unfold vcB
  rw [show decide (n ≤ 40) = false from decide_eq_false (by omega), Bool.and_false]
theorem ValidCode_big (A : Option Addr) (n c : Nat) (w : World) (h : 40 < n) (hn : n ≤ 9223372036854775807) :
    Calls Tryd.prog 44 #[.slice A n c] w fun e w' => e = .returned (.bool false) ∧ w.grownBy w' none := by
  go_enter Tryd.func44, Tryd.ntmps44
  go_wp2
  go_ret
  exact ⟨rfl, World.grownBy.refl _ _⟩
theorem ValidCode_zero (A : Option Addr) (c : Nat) (w : World) :
    Calls Tryd.prog 44 #[.slice A 0 c] w fun e w' => e = .returned (.bool true) ∧ w.grownBy w' none := by
  go_enter Tryd.func44, Tryd.ntmps44
  go_wp2
  refine wp_loop_rounds 1 ?_
  rw [rounds_succ]
  go_wp2
  go_ret
  exact ⟨rfl, World.grownBy.refl _ _⟩
set_option maxHeartbeats 8000000 in
theorem ValidCode_at (b off n c : Nat) (f : Nat → Ins) (w : World) (hg : WT w) (hn : n ≤ 40) (h : Code w (some ⟨b, off, none⟩) n f) :
    Calls Tryd.prog 44 #[.slice (some ⟨b, off, none⟩) n c] w fun e w' => e = .returned (.bool (vcB n f)) ∧ w.grownBy w' none := by
  have H := shade h
  have HG := shade hg
  clear h hg
  go_enter Tryd.func44, Tryd.ntmps44
  go_wp2
  go_loopw [10] (fun i wr => ∃ k : Nat, k ≤ n ∧ i = .int .i64 k ∧ (∀ j, j < k → okI n (f j) = true) ∧ w.grownBy wr none) (fun i _ => n - (intOf i).toNat)
  case atStart => exact ⟨0, Nat.zero_le _, rfl, fun j hj => absurd hj (by omega), World.grownBy.refl _ _⟩
  case round =>
    obtain ⟨k, hk, rfl, hall, hgr⟩ := hrel
    have HA := shade hall
    clear hall
    by_cases hkn : k < n
    · obtain ⟨q0, q1, q2, q3, q4⟩ := (H.out.on hgr).five hkn
      have HR := shade hgr
      clear hgr
      generalize hc : f k = cc at *
      obtain ⟨op, d, a, b', kk⟩ := cc
      simp only [] at q0 q1 q2 q3 q4
      have HC := shade hc
      clear hc
      have hO : ∀ x, okI n ⟨op, d, a, b', kk⟩ = x → okI n (f k) = x := fun x h => by rw [HC.out]; exact h
      have HO := shade hO
      clear hO
      have HN := shade (fun (h : okI n (f k) = true) j (hj : j < k + 1) => show okI n (f j) = true by
        by_cases e : j = k
        · rw [e]; exact h
        · exact HA.out j (by omega))
      rcases hv : vB op.toList d a b' kk with _ | _
      · have HV := shade hv
        clear hv
        go_wp2_with fail
        refine (ValidInstr_any _ _ _ _ _ _ ((HG.out.below (below_of_grown HR.out) (wt_lt HG.out)).alloc _)).mono ?_
        rw [HV.out]
        rintro e w2 ⟨rfl, hb⟩
        have hP := (Holds5.fresh wr 37 #[.string op, .int .i64 d, .int .i64 a, .int .i64 b', .int .i64 kk]).below hb (by simp)
        have HR2 := shade (grown_same HR.out (grown_same (World.grownBy_alloc wr (.cells #[.string op, .int .i64 d, .int .i64 a, .int .i64 b', .int .i64 kk] 37) none) (grown_of_below hb)))
        have HP := shade hP
        clear hb
        have p0 := hP.look 0; have p1 := hP.look 1; have p2 := hP.look 2; have p3 := hP.look 3; have p4 := hP.look 4
        simp at p0 p1 p2 p3 p4
        clear hP
        go_wp2_with fail
        go_ret
        exact ⟨ret_b (vcB_no hkn (HO.out _ (by simp [okI, HV.out]))).symm, HR2.out⟩
      · have HV := shade hv
        clear hv
        rcases hj : jmpB op.toList with _ | _
        · have HJ := shade hj
          have HK := shade (HO.out true (by simp [okI, HV.out, hj]))
          clear hj
          go_wp2_with fail
          refine (ValidInstr_any _ _ _ _ _ _ ((HG.out.below (below_of_grown HR.out) (wt_lt HG.out)).alloc _)).mono ?_
          rw [HV.out]
          rintro e w2 ⟨rfl, hb⟩
          have hP := (Holds5.fresh wr 37 #[.string op, .int .i64 d, .int .i64 a, .int .i64 b', .int .i64 kk]).below hb (by simp)
          have HR2 := shade (grown_same HR.out (grown_same (World.grownBy_alloc wr (.cells #[.string op, .int .i64 d, .int .i64 a, .int .i64 b', .int .i64 kk] 37) none) (grown_of_below hb)))
          have HP := shade hP
          clear hb
          have p0 := hP.look 0; have p1 := hP.look 1; have p2 := hP.look 2; have p3 := hP.look 3; have p4 := hP.look 4
          simp at p0 p1 p2 p3 p4
          clear hP
          go_wp2_with fail
          refine (isJump_any _ _ _ _ _ _ (HG.out.below (below_of_grown HR2.out) (wt_lt HG.out))).mono ?_
          rw [HJ.out]
          rintro e w3 ⟨rfl, hgr⟩
          have HR3 := shade (grown_same HR2.out hgr)
          have hP := HP.out.grown hgr (by intro e; cases e)
          clear hgr p0 p1 p2 p3 p4
          have p4 := hP.look 4
          simp at p4
          clear hP
          go_wp2_with fail
          go_roundw
          case rel => exact ⟨k + 1, by omega, by go_num, HN.out HK.out, HR3.out⟩
          case measure => simp [intOf]; omega
        · have HJ := shade hj
          by_cases hgt : (n : Int) < kk
          · have HK := shade (HO.out false (by simp [okI, HV.out, hj, hgt]))
            clear hj
            go_wp2_with fail
            refine (ValidInstr_any _ _ _ _ _ _ ((HG.out.below (below_of_grown HR.out) (wt_lt HG.out)).alloc _)).mono ?_
            rw [HV.out]
            rintro e w2 ⟨rfl, hb⟩
            have hP := (Holds5.fresh wr 37 #[.string op, .int .i64 d, .int .i64 a, .int .i64 b', .int .i64 kk]).below hb (by simp)
            have HR2 := shade (grown_same HR.out (grown_same (World.grownBy_alloc wr (.cells #[.string op, .int .i64 d, .int .i64 a, .int .i64 b', .int .i64 kk] 37) none) (grown_of_below hb)))
            have HP := shade hP
            clear hb
            have p0 := hP.look 0; have p1 := hP.look 1; have p2 := hP.look 2; have p3 := hP.look 3; have p4 := hP.look 4
            simp at p0 p1 p2 p3 p4
            clear hP
            go_wp2_with fail
            refine (isJump_any _ _ _ _ _ _ (HG.out.below (below_of_grown HR2.out) (wt_lt HG.out))).mono ?_
            rw [HJ.out]
            rintro e w3 ⟨rfl, hgr⟩
            have HR3 := shade (grown_same HR2.out hgr)
            have hP := HP.out.grown hgr (by intro e; cases e)
            clear hgr p0 p1 p2 p3 p4
            have p4 := hP.look 4
            simp at p4
            clear hP
            go_wp2_with fail
            go_ret
            exact ⟨ret_b (vcB_no hkn HK.out).symm, HR3.out⟩
          · have HK := shade (HO.out true (by simp [okI, HV.out, hj]; omega))
            clear hj
            have hgt : kk ≤ (n : Int) := by omega
            go_wp2_with fail
            refine (ValidInstr_any _ _ _ _ _ _ ((HG.out.below (below_of_grown HR.out) (wt_lt HG.out)).alloc _)).mono ?_
            rw [HV.out]
            rintro e w2 ⟨rfl, hb⟩
            have hP := (Holds5.fresh wr 37 #[.string op, .int .i64 d, .int .i64 a, .int .i64 b', .int .i64 kk]).below hb (by simp)
            have HR2 := shade (grown_same HR.out (grown_same (World.grownBy_alloc wr (.cells #[.string op, .int .i64 d, .int .i64 a, .int .i64 b', .int .i64 kk] 37) none) (grown_of_below hb)))
            have HP := shade hP
            clear hb
            have p0 := hP.look 0; have p1 := hP.look 1; have p2 := hP.look 2; have p3 := hP.look 3; have p4 := hP.look 4
            simp at p0 p1 p2 p3 p4
            clear hP
            go_wp2_with fail
            refine (isJump_any _ _ _ _ _ _ (HG.out.below (below_of_grown HR2.out) (wt_lt HG.out))).mono ?_
            rw [HJ.out]
            rintro e w3 ⟨rfl, hgr⟩
            have HR3 := shade (grown_same HR2.out hgr)
            have hP := HP.out.grown hgr (by intro e; cases e)
            clear hgr p0 p1 p2 p3 p4
            have p4 := hP.look 4
            simp at p4
            clear hP
            go_wp2_with fail
            go_roundw
            case rel => exact ⟨k + 1, by omega, by go_num, HN.out HK.out, HR3.out⟩
            case measure => simp [intOf]; omega
    · have hkn2 : k = n := by omega
      subst hkn2
      have HR := shade hgr
      clear hgr
      go_wp2
      go_ret
      exact ⟨ret_b (by rw [vcB_all HA.out]; simp [hn]), HR.out⟩
theorem ValidCode_any (A : Option Addr) (n c : Nat) (f : Nat → Ins) (w : World) (hg : WT w) (hn : n ≤ 9223372036854775807) (h : Code w A n f) :
    Calls Tryd.prog 44 #[.slice A n c] w fun e w' => e = .returned (.bool (vcB n f)) ∧ w.grownBy w' none := by
  by_cases hb : 40 < n
  · rw [vcB_big hb]
    exact ValidCode_big A n c w hb hn
  by_cases h0 : n = 0
  · subst h0
    exact ValidCode_zero A c w
  · obtain ⟨b, off, rfl, _⟩ := h.resolve_left h0
    exact ValidCode_at b off n c f w hg (by omega) h

end Go.Proofs.YtcfnoihjpiklhaaDoor
