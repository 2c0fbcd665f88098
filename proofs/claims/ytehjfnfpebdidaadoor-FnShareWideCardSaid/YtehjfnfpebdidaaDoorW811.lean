/- Wide instructions that are valid, by the model. -/
import Derived.Test.YtehjfnfpebdidaaDoorW810
namespace Go.Proofs.YtehjfnfpebdidaaDoor
open Go.RowKit
set_option linter.unusedSimpArgs false
theorem inRange_q (n lo hi : Int) (m : Nat) (w : World) : Calls Tryd.prog 36 #[.int .i64 n, .int .i64 lo, .int .i64 hi] (w.drewN m) fun e w'' => e = .returned (.bool (inB n lo hi)) ∧ ∃ m', w'' = w.drewN m' :=
  (inRange_any n lo hi _).mono fun _ _ ⟨he, hw⟩ => ⟨he, m, hw.symm⟩
theorem twoSided_q (op : ByteArray) (m : Nat) (w : World) : Calls Tryd.prog 37 #[.string op] (w.drewN m) fun e w'' => e = .returned (.bool (twoB op.toList)) ∧ ∃ m', w'' = w.drewN m' :=
  (twoSided_any op _).mono fun _ _ ⟨he, hw⟩ => ⟨he, m, hw.symm⟩
theorem validWide_zero (A : Option Addr) (c : Nat) (f : Nat → Wid) (w : World) :
    Calls Tryd.prog 24 #[.slice A 0 c] w fun e w' => e = .returned (.bool (vwB 0 f)) ∧ w.grownBy w' none := by
  go_enter Tryd.func24, Tryd.ntmps24
  go_wp2
  refine wp_loop_rounds 1 ?_
  rw [rounds_succ]
  go_wp2
  go_ret
  exact ⟨rfl, World.grownBy.refl _ _⟩
set_option maxHeartbeats 8000000 in
theorem validWide_at (b off n c : Nat) (f : Nat → Wid) (w : World) (hn : n ≤ 9223372036854775807) (h : Wds w (some ⟨b, off, none⟩) n f) :
    Calls Tryd.prog 24 #[.slice (some ⟨b, off, none⟩) n c] w fun e w' => e = .returned (.bool (vwB n f)) ∧ w.grownBy w' none := by
  have H := shade h
  clear h
  go_enter Tryd.func24, Tryd.ntmps24
  go_wp2
  go_loopw [3] (fun i wr => ∃ k : Nat, k ≤ n ∧ i = .int .i64 k ∧ (∀ j, j < k → okW j (f j) = true) ∧ w.grownBy wr none) (fun i _ => n - (intOf i).toNat)
  case atStart => exact ⟨0, Nat.zero_le _, rfl, fun j hj => absurd hj (by omega), World.grownBy.refl _ _⟩
  case round =>
    obtain ⟨k, hk, rfl, hall, hg⟩ := hrel
    have HA := shade hall
    clear hall
    by_cases hkn : k < n
    · obtain ⟨q0, q1, q2, q3⟩ := (H.out.on hg).four hkn
      have HG := shade hg
      clear hg
      generalize hc : f k = cc at *
      obtain ⟨op, a, b', kk⟩ := cc
      simp only [] at q0 q1 q2 q3
      have HC := shade hc
      clear hc
      have HN := shade (fun (h : okW k (f k) = true) j (hj : j < k + 1) => show okW j (f j) = true by
        by_cases e : j = k
        · rw [e]; exact h
        · exact HA.out j (by omega))
      have HO : ∀ x, okW k ⟨op, a, b', kk⟩ = x → Hid (okW k (f k) = x) := fun x h => shade (by rw [HC.out]; exact h)
      have HG2 := shade (fun o => grown_alloc HG.out o)
      rcases e0 : (op.toList == [115, 101, 116]) with _ | _
      · rcases e9 : twoB op.toList with _ | _
        all_goals
          go_wp2_with (first
            | (go_at_call 36; refine (inRange_any _ _ _ _).mono ?_; rintro e w' ⟨rfl, rfl⟩)
            | (go_at_call 37; refine (twoSided_any _ _).mono ?_; rw [e9]; rintro e w' ⟨rfl, rfl⟩)
            | go_in)
          all_goals first
            | (go_ret
               refine ⟨ret_b (vwB_no hkn (HO false ?_).out).symm, HG2.out _⟩
               clear HO HN HA HG HC HG2 H
               simp_all [okW, inB]
               done)
            | (go_ret
               refine ⟨ret_b (vwB_no hkn (HO false ?_).out).symm, HG2.out _⟩
               clear HO HN HA HG HC HG2 H
               simp_all [okW, inB]
               omega)
            | (refine ⟨⟨k + 1, by omega, by go_num, HN.out (HO true ?_).out, HG2.out _⟩, by simp [intOf]; omega⟩
               clear HO HN HA HG HC HG2 H
               simp_all [okW, inB]
               done)
            | (refine ⟨⟨k + 1, by omega, by go_num, HN.out (HO true ?_).out, HG2.out _⟩, by simp [intOf]; omega⟩
               clear HO HN HA HG HC HG2 H
               simp_all [okW, inB]
               omega)
      · go_wp2_with (first
            | (go_at_call 36; refine (inRange_any _ _ _ _).mono ?_; rintro e w' ⟨rfl, rfl⟩)
            | (go_at_call 37; refine (twoSided_any _ _).mono ?_; rintro e w' ⟨rfl, rfl⟩)
            | go_in)
        all_goals first
          | (go_ret
             refine ⟨ret_b (vwB_no hkn (HO false ?_).out).symm, HG2.out _⟩
             clear HO HN HA HG HC HG2 H
             simp_all [okW, inB]
             done)
          | (go_ret
             refine ⟨ret_b (vwB_no hkn (HO false ?_).out).symm, HG2.out _⟩
             clear HO HN HA HG HC HG2 H
             simp_all [okW, inB]
             omega)
          | (refine ⟨⟨k + 1, by omega, by go_num, HN.out (HO true ?_).out, HG2.out _⟩, by simp [intOf]; omega⟩
             clear HO HN HA HG HC HG2 H
             simp_all [okW, inB]
             done)
          | (refine ⟨⟨k + 1, by omega, by go_num, HN.out (HO true ?_).out, HG2.out _⟩, by simp [intOf]; omega⟩
             clear HO HN HA HG HC HG2 H
             simp_all [okW, inB]
             omega)
    · have hkn2 : k = n := by omega
      subst hkn2
      have HG := shade hg
      clear hg
      go_wp2
      go_ret
      exact ⟨ret_b (by rw [vwB_all HA.out]; exact decide_eq_decide.2 (by omega)), HG.out⟩
end Go.Proofs.YtehjfnfpebdidaaDoor
