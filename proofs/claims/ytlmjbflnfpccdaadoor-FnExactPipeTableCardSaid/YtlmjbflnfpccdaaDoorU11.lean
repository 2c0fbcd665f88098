/- What may go through the pipe, and who waits for whom, by the model. -/
import Derived.Test.YtlmjbflnfpccdaaDoorU10
import Derived.Test.YtlmjbflnfpccdaaDoorW952
import Derived.Test.YtlmjbflnfpccdaaDoorW110
namespace Go.Proofs.YtlmjbflnfpccdaaDoor
open Go.RowKit
set_option linter.unusedSimpArgs false
theorem validTrace_zero (A : Option Addr) (c : Nat) (w : World) :
    Calls Tryd.prog 52 #[.slice A 0 c] w fun e w' => e = .returned (.bool true) ∧ w.grownBy w' none := by
  go_enter Tryd.func52, Tryd.ntmps52
  go_wp2
  refine wp_loop_rounds 1 ?_
  rw [rounds_succ]
  go_wp2
  go_ret
  exact ⟨rfl, World.grownBy.refl _ _⟩
/-- Are they a trace? -/
def trB (n : Nat) (F : Nat → Ins) : Bool := ((List.range n).all fun j => pvI (F j)) && decide (n ≤ 300)
theorem trB_no {n k : Nat} {F : Nat → Ins} (hk : k < n) (h : pvI (F k) = false) : trB n F = false := by
  rw [Bool.eq_false_iff]
  intro hv
  simp only [trB, Bool.and_eq_true] at hv
  rw [allP_iff.1 hv.1 k hk] at h
  cases h
theorem trB_all {n : Nat} {F : Nat → Ins} (h : ∀ j, j < n → pvI (F j) = true) : trB n F = decide (n ≤ 300) := by
  unfold trB
  rw [allP_iff.2 h]
  rfl
theorem vpB_tr (n : Nat) (F : Nat → Ins) (m : Nat) : vpB n F m = (trB n F && decide (m = n)) := by
  unfold vpB trB
  rw [Bool.and_assoc]
set_option maxHeartbeats 8000000 in
theorem validTrace_at (b off n c : Nat) (F : Nat → Ins) (w : World) (hn : n ≤ 9223372036854775807) (h : Code w (some ⟨b, off, none⟩) n F) :
    Calls Tryd.prog 52 #[.slice (some ⟨b, off, none⟩) n c] w fun e w' => e = .returned (.bool (trB n F)) ∧ w.grownBy w' none := by
  have H := shade h
  clear h
  go_enter Tryd.func52, Tryd.ntmps52
  go_wp2
  go_loopw [3] (fun i wr => ∃ k : Nat, k ≤ n ∧ i = .int .i64 k ∧ (∀ j, j < k → pvI (F j) = true) ∧ w.grownBy wr none) (fun i _ => n - (intOf i).toNat)
  case atStart => exact ⟨0, Nat.zero_le _, rfl, fun j hj => absurd hj (by omega), World.grownBy.refl _ _⟩
  case round =>
    obtain ⟨k, hk, rfl, hall, hg⟩ := hrel
    have HA := shade hall
    clear hall
    by_cases hkn : k < n
    · obtain ⟨q0, q1, q2, q3, q4⟩ := (H.out.on hg).five hkn
      have HG := shade hg
      clear hg
      generalize hc : F k = cc at *
      obtain ⟨op, d, a, b', kk⟩ := cc
      simp only [] at q0 q1 q2 q3 q4
      have HC := shade hc
      clear hc
      have HO := shade (fun x (h : pvI ⟨op, d, a, b', kk⟩ = x) => show pvI (F k) = x by rw [HC.out]; exact h)
      have HN := shade (fun (h : pvI (F k) = true) j (hj : j < k + 1) => show pvI (F j) = true by
        by_cases e : j = k
        · rw [e]; exact h
        · exact HA.out j (by omega))
      have HVI := shade (fun W => validInstr_any op d a b' kk W)
      rcases hv : vB op.toList d a b' kk with _ | _
      · rw [hv] at HVI
        have HK := shade (HO.out false (by simp [pvI, vI, hv]))
        clear hv
        go_wp2_with fail
        refine (HVI.out _).mono ?_
        rintro e w2 ⟨rfl, o2, rfl⟩
        go_wp2_with fail
        go_ret
        exact ⟨ret_b (trB_no hkn HK.out).symm, grown_alloc HG.out _⟩
      · rw [hv] at HVI
        have HV := shade hv
        clear hv
        rcases e3 : (op.toList == [104, 108, 116]) with _ | _
        · have HK := shade (HO.out true (by simp [pvI, vI, HV.out, e3]))
          go_wp2_with fail
          refine (HVI.out _).mono ?_
          rintro e w2 ⟨rfl, o2, rfl⟩
          have z := World.block_lt_of_cell? _ _ q0; replace q0 := (World.cell?_alloc_some wr _ o2 (by rw [q0]; rfl)).trans q0
          go_wp2_with fail
          go_roundw
          case rel => exact ⟨k + 1, by omega, by go_num, HN.out HK.out, grown_alloc HG.out _⟩
          case measure => simp [intOf]; omega
        · have HK := shade (HO.out false (by simp [pvI, vI, HV.out, e3]))
          go_wp2_with fail
          refine (HVI.out _).mono ?_
          rintro e w2 ⟨rfl, o2, rfl⟩
          have z := World.block_lt_of_cell? _ _ q0; replace q0 := (World.cell?_alloc_some wr _ o2 (by rw [q0]; rfl)).trans q0
          go_wp2_with fail
          go_ret
          exact ⟨ret_b (trB_no hkn HK.out).symm, grown_alloc HG.out _⟩
    · have hkn2 : k = n := by omega
      subst hkn2
      have HG := shade hg
      clear hg
      go_wp2
      go_ret
      exact ⟨ret_b (by rw [trB_all HA.out, Bool.eq_iff_iff]; simp; try omega), HG.out⟩
theorem validTrace_any (A : Option Addr) (n c : Nat) (F : Nat → Ins) (w : World) (hn : n ≤ 9223372036854775807) (h : Code w A n F) :
    Calls Tryd.prog 52 #[.slice A n c] w fun e w' => e = .returned (.bool (trB n F)) ∧ w.grownBy w' none := by
  by_cases h0 : n = 0
  · subst h0
    exact validTrace_zero A c w
  · obtain ⟨b, off, rfl, _⟩ := h.resolve_left h0
    exact validTrace_at b off n c F w hn h
set_option maxHeartbeats 4000000 in
theorem validPipe_any (A : Option Addr) (n c : Nat) (F : Nat → Ins) (AJ : Option Addr) (m cj : Nat) (w : World) (hn : n ≤ 9223372036854775807) (h : Code w A n F) :
    Calls Tryd.prog 40 #[.slice A n c, .slice AJ m cj] w fun e w' => e = .returned (.bool (vpB n F m)) ∧ w.grownBy w' none := by
  have H := shade (validTrace_any A n c F w hn h)
  clear h
  rw [vpB_tr]
  rcases ht : trB n F with _ | _
  · rw [ht] at H
    go_enter Tryd.func40, Tryd.ntmps40
    go_wp2_with fail
    refine H.out.mono ?_
    rintro e w1 ⟨rfl, hg⟩
    have HG := shade hg
    clear hg
    go_wp2_with fail
    go_ret
    exact ⟨rfl, HG.out⟩
  · rw [ht] at H
    by_cases e : m = n
    · subst e
      rw [decide_eq_true rfl]
      go_enter Tryd.func40, Tryd.ntmps40
      go_wp2_with fail
      refine H.out.mono ?_
      rintro e w1 ⟨rfl, hg⟩
      have HG := shade hg
      clear hg
      go_wp2_with fail
      go_ret
      exact ⟨by simp, HG.out⟩
    · rw [decide_eq_false e]
      have h2 : ¬ (m : Int) = (n : Int) := by omega
      go_enter Tryd.func40, Tryd.ntmps40
      go_wp2_with fail
      refine H.out.mono ?_
      rintro e w1 ⟨rfl, hg⟩
      have HG := shade hg
      clear hg
      go_wp2_with fail
      go_ret
      exact ⟨by simp [h2], HG.out⟩
set_option maxRecDepth 100000 in
set_option maxHeartbeats 4000000 in
theorem gap_any (ca cb : Ins) (fw : Bool) (ha : vI ca = true) (hb : vI cb = true) (w : World) :
    Calls Tryd.prog 53 #[IV ca.op ca.d ca.a ca.b ca.k, IV cb.op cb.d cb.a cb.b cb.k, .bool fw] w fun e w' => e = .returned (.int .i64 (gpI ca cb fw)) ∧ w.grownBy w' none := by
  obtain ⟨opa, da, aa, ba, ka⟩ := ca
  obtain ⟨opb, db, ab, bb, kb⟩ := cb
  have HUA := shade (fun W => uses_spec _ ha W)
  have HUB := shade (fun W => uses_spec _ hb W)
  dsimp only at HUA HUB
  unfold gpI lg
  dsimp only
  clear ha hb
  generalize rdI ⟨opa, da, aa, ba, ka⟩ = ra at *
  generalize wrI ⟨opa, da, aa, ba, ka⟩ = wa at *
  generalize rdI ⟨opb, db, ab, bb, kb⟩ = rb at *
  generalize wrI ⟨opb, db, ab, bb, kb⟩ = wb at *
  rcases c1 : (bits .and .i64 wa rb == 0) with _ | _
  all_goals rcases fw with _ | _
  all_goals rcases e1 : (opa.toList == [108, 100]) with _ | _
  all_goals
    go_enter Tryd.func53, Tryd.ntmps53
    go_wp2_with fail
    refine (HUA.out _).mono ?_
    rintro e w1 ⟨rfl, hb1⟩
    have ha1 := (((Holds5.fresh w 53 #[.string opa, .int .i64 da, .int .i64 aa, .int .i64 ba, .int .i64 ka]).alloc (.cells #[.string opb, .int .i64 db, .int .i64 ab, .int .i64 bb, .int .i64 kb] 53)).below hb1 (by simp; omega))
    have HR1 := shade (grown_same (grown_same (World.grownBy_alloc w (.cells #[.string opa, .int .i64 da, .int .i64 aa, .int .i64 ba, .int .i64 ka] 53) none) (World.grownBy_alloc _ (.cells #[.string opb, .int .i64 db, .int .i64 ab, .int .i64 bb, .int .i64 kb] 53) none)) (grown_of_below hb1))
    have hb1' := ((Holds5.fresh (w.alloc (.cells #[.string opa, .int .i64 da, .int .i64 aa, .int .i64 ba, .int .i64 ka] 53)) 53 #[.string opb, .int .i64 db, .int .i64 ab, .int .i64 bb, .int .i64 kb]).below hb1 (by simp))
    rw [World.size_alloc] at hb1'
    have HA1 := shade ha1
    clear hb1 ha1
    have p0 := hb1'.look 0; have p1 := hb1'.look 1; have p2 := hb1'.look 2; have p3 := hb1'.look 3; have p4 := hb1'.look 4
    simp at p0 p1 p2 p3 p4
    clear hb1'
    go_wp2_with fail
    refine (HUB.out _).mono ?_
    rintro e w2 ⟨rfl, hb2⟩
    have ha2 := HA1.out.below hb2 HA1.out.inside
    have HR2 := shade (grown_same HR1.out (grown_of_below hb2))
    clear hb2 HR1 HA1 p0 p1 p2 p3 p4
    have p0 := ha2.look 0
    simp at p0
    clear ha2
    go_wp2_with fail
    go_ret
    exact ⟨rfl, HR2.out⟩
set_option maxRecDepth 100000 in
set_option maxHeartbeats 8000000 in
theorem lastWriter_at (b off n c : Nat) (F : Nat → Ins) (i k : Nat) (w : World) (hn : n ≤ 300) (hi : i < n) (hk : k ≤ n) (hik : i < k) (hv : ∀ j, j < n → vI (F j) = true) (h : Code w (some ⟨b, off, none⟩) n F) :
    Calls Tryd.prog 54 #[.slice (some ⟨b, off, none⟩) n c, .int .i64 (i : Int), .int .i64 (k : Int)] w fun e w' => e = .returned (.bool (lwB F i k)) ∧ w.grownBy w' none := by
  have H := shade h
  have HV := shade hv
  have HUI := shade (fun W => uses_spec (F i) (hv i hi) W)
  obtain ⟨q0, q1, q2, q3, q4⟩ := h.five hi
  have HLW := shade (@lwB_iff F i k)
  clear h hv
  obtain ⟨wi, hwi⟩ : ∃ wi, wrI (F i) = wi := ⟨_, rfl⟩
  rw [hwi] at HUI HLW
  clear hwi
  generalize F i = cc at *
  obtain ⟨op, d, a, b', kk⟩ := cc
  simp only [] at q0 q1 q2 q3 q4 HUI
  go_enter Tryd.func54, Tryd.ntmps54
  go_wp2_with fail
  refine (HUI.out _).mono ?_
  rintro e w1 ⟨rfl, hb1⟩
  have HG1 := shade (grown_of_below hb1)
  clear hb1 q0 q1 q2 q3 q4
  go_wp2_with fail
  go_loopw [9] (fun q wr => ∃ j : Nat, i < j ∧ j ≤ k ∧ q = .int .i64 (j : Int) ∧ (∀ t, i < t → t < j → bits .and .i64 (wrI (F t)) wi = 0) ∧ w.grownBy wr none) (fun q _ => k - (intOf q).toNat)
  case atStart => exact ⟨i + 1, by omega, by omega, by go_num, fun t h1 h2 => by omega, HG1.out⟩
  case round =>
    obtain ⟨j, hij, hjk, rfl, hall, hg⟩ := hrel
    have HA := shade hall
    have HG := shade hg
    clear hall hg
    by_cases hlt : j < k
    · have hjn : j < n := by omega
      have HUJ := shade (fun W => uses_spec (F j) (HV.out j hjn) W)
      obtain ⟨q0, q1, q2, q3, q4⟩ := (H.out.on HG.out).five hjn
      obtain ⟨wj, hwj⟩ : ∃ wj, wrI (F j) = wj := ⟨_, rfl⟩
      rw [hwj] at HUJ
      have HWJ := shade hwj
      clear hwj
      have i2 : (j : Int) < (n : Int) := by omega
      have i3 : (0 : Int) ≤ (j : Int) := by omega
      have i4 : (j : Int) < (k : Int) := by omega
      generalize F j = cj at q0 q1 q2 q3 q4 HUJ
      obtain ⟨op2, d2, a2, b2', kk2⟩ := cj
      simp only [] at q0 q1 q2 q3 q4 HUJ
      rcases c1 : (bits .and .i64 wj wi != 0) with _ | _
      · have HC1 := shade (bne_f.1 c1)
        go_wp2_with fail
        refine (HUJ.out _).mono ?_
        rintro e w2 ⟨rfl, hb2⟩
        have HG2 := shade (grown_same HG.out (grown_of_below hb2))
        clear hb2
        go_wp2_with fail
        go_roundw
        case rel => exact ⟨j + 1, by omega, by omega, by go_num, fun t h1 h2 => by
          by_cases e : t = j
          · rw [e, HWJ.out]; exact HC1.out
          · exact HA.out t h1 (by omega), HG2.out⟩
        case measure => simp [intOf]; omega
      · go_wp2_with fail
        refine (HUJ.out _).mono ?_
        rintro e w2 ⟨rfl, hb2⟩
        have HG2 := shade (grown_same HG.out (grown_of_below hb2))
        clear hb2
        go_wp2_with fail
        go_ret
        refine ⟨ret_b ?_, HG2.out⟩
        rw [eq_comm, Bool.eq_false_iff]
        intro hl
        have h3 := HLW.out.1 hl j hij hlt
        rw [HWJ.out] at h3
        rw [h3] at c1
        cases c1
    · obtain rfl : j = k := by omega
      go_wp2_with fail
      go_ret
      exact ⟨ret_b (HLW.out.2 HA.out).symm, HG.out⟩
end Go.Proofs.YtlmjbflnfpccdaaDoor
