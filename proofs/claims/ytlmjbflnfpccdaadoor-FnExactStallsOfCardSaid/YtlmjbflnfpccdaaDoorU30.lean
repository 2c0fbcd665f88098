/- What may go through the pipe, by the program. -/
import Derived.Test.YtlmjbflnfpccdaaDoorU11
namespace Go.Proofs.YtlmjbflnfpccdaaDoor
open Go.RowKit
set_option linter.unusedSimpArgs false
theorem mayPass_no (A : Option Addr) (n c : Nat) (AJ : Option Addr) (m cj : Nat) (w : World) (hn : n ≤ 9223372036854775807) (h : 300 < n ∨ m ≠ n) :
    Calls Tryd.prog 55 #[.slice A n c, .slice AJ m cj] w fun e w' => e = .returned (.bool false) ∧ w.grownBy w' none := by
  by_cases h1 : 300 < n
  · go_enter Tryd.func55, Tryd.ntmps55
    go_wp2
    go_ret
    exact ⟨rfl, World.grownBy.refl _ _⟩
  · have h3 : (n : Int) ≤ 300 := by omega
    have h4 : ((m : Int) != (n : Int)) = true := by
      simp
      omega
    go_enter Tryd.func55, Tryd.ntmps55
    go_wp2
    go_ret
    exact ⟨rfl, World.grownBy.refl _ _⟩
theorem mayPass_zero (A : Option Addr) (c : Nat) (AJ : Option Addr) (cj : Nat) (w : World) :
    Calls Tryd.prog 55 #[.slice A 0 c, .slice AJ 0 cj] w fun e w' => e = .returned (.bool true) ∧ w.grownBy w' none := by
  go_enter Tryd.func55, Tryd.ntmps55
  go_wp2
  refine wp_loop_rounds 1 ?_
  rw [rounds_succ]
  go_wp2
  go_ret
  exact ⟨rfl, World.grownBy.refl _ _⟩
set_option maxHeartbeats 8000000 in
theorem mayPass_at (b off n c : Nat) (F : Nat → Ins) (AJ : Option Addr) (cj : Nat) (w : World) (hg : WT w) (hn : n ≤ 300) (h : Code w (some ⟨b, off, none⟩) n F) :
    Calls Tryd.prog 55 #[.slice (some ⟨b, off, none⟩) n c, .slice AJ n cj] w fun e w' => e = .returned (.bool (vpB n F n)) ∧ w.grownBy w' none := by
  have H := shade h
  have HG := shade hg
  clear h hg
  go_enter Tryd.func55, Tryd.ntmps55
  go_wp2
  go_loopw [19] (fun i wr => ∃ k : Nat, k ≤ n ∧ i = .int .i64 k ∧ (∀ j, j < k → pvI (F j) = true) ∧ w.grownBy wr none) (fun i _ => n - (intOf i).toNat)
  case atStart => exact ⟨0, Nat.zero_le _, rfl, fun j hj => absurd hj (by omega), World.grownBy.refl _ _⟩
  case round =>
    obtain ⟨k, hk, rfl, hall, hgr⟩ := hrel
    have HA := shade hall
    clear hall
    by_cases hkn : k < n
    · obtain ⟨q0, q1, q2, q3, q4⟩ := (H.out.on hgr).five hkn
      have HR := shade hgr
      clear hgr
      generalize hc : F k = cc at *
      obtain ⟨op, d, a, b', kk⟩ := cc
      simp only [] at q0 q1 q2 q3 q4
      have HC := shade hc
      clear hc
      have HO := shade (fun x (h : pvI ⟨op, d, a, b', kk⟩ = x) => show pvI (F k) = x by rw [HC.out]; exact h)
      have HN := shade (fun (h : pvI (F k) = true) j (hj : j < k + 1) => show pvI (F j) = true by
        by_cases e : j = k
        · rw [e]; exact h
        · exact HA.out j (by omega))
      have HVI := shade (fun W (hW : WT W) => ValidInstr_any op d a b' kk W hW)
      rcases hv : vB op.toList d a b' kk with _ | _
      · rw [hv] at HVI
        have HK := shade (HO.out false (by simp [pvI, vI, hv]))
        clear hv
        go_wp2_with fail
        refine (HVI.out _ ((HG.out.below (below_of_grown HR.out) (wt_lt HG.out)).alloc _)).mono ?_
        rintro e w2 ⟨rfl, hb⟩
        have HR2 := shade (grown_same HR.out (grown_same (World.grownBy_alloc wr _ none) (grown_of_below hb)))
        clear hb
        go_wp2_with fail
        go_ret
        exact ⟨ret_b (vpB_no hkn HK.out).symm, HR2.out⟩
      · rw [hv] at HVI
        have HV := shade hv
        clear hv
        have h9 := word9' op.toList
        have HWO := shade (fun W (hW : WT W) => wordOf_any op W hW)
        have HO2 := shade (fun (x : Bool) (hx : (op.toList == [104, 108, 116]) = x) => HO.out (!x) (by simp [pvI, vI, HV.out, hx]))
        generalize (op.toList == [104, 108, 116]) = x at *
        generalize wordN op.toList = m at *
        have HK := shade (HO2.out x rfl)
        clear HO2
        rcases x with _ | _
        all_goals
          go_wp2_with fail
          refine (HVI.out _ ((HG.out.below (below_of_grown HR.out) (wt_lt HG.out)).alloc _)).mono ?_
          rintro e w2 ⟨rfl, hb⟩
          have hP := (Holds5.fresh wr 53 #[.string op, .int .i64 d, .int .i64 a, .int .i64 b', .int .i64 kk]).below hb (by simp)
          have HR2 := shade (grown_same HR.out (grown_same (World.grownBy_alloc wr (.cells #[.string op, .int .i64 d, .int .i64 a, .int .i64 b', .int .i64 kk] 53) none) (grown_of_below hb)))
          clear hb
          have p0 := hP.look 0
          simp at p0
          clear hP
          go_wp2_with fail
          refine (HWO.out _ (HG.out.below (below_of_grown HR2.out) (wt_lt HG.out))).mono ?_
          rintro e w4 ⟨rfl, rfl⟩
          go_wp2_with fail
        · go_roundw
          case rel => exact ⟨k + 1, by omega, by go_num, HN.out HK.out, HR2.out⟩
          case measure => simp [intOf]; omega
        · go_ret
          exact ⟨ret_b (vpB_no hkn HK.out).symm, HR2.out⟩
    · have hkn2 : k = n := by omega
      subst hkn2
      have HR := shade hgr
      clear hgr
      go_wp2
      go_ret
      exact ⟨ret_b (by rw [vpB_all HA.out]; simp [hn]), HR.out⟩
theorem mayPass_any (A : Option Addr) (n c : Nat) (F : Nat → Ins) (AJ : Option Addr) (m cj : Nat) (w : World) (hg : WT w) (hn : n ≤ 9223372036854775807) (h : Code w A n F) :
    Calls Tryd.prog 55 #[.slice A n c, .slice AJ m cj] w fun e w' => e = .returned (.bool (vpB n F m)) ∧ w.grownBy w' none := by
  by_cases hb : 300 < n
  · rw [vpB_big hb]
    exact mayPass_no A n c AJ m cj w hn (.inl hb)
  by_cases hl : m = n
  · subst hl
    by_cases h0 : m = 0
    · subst h0
      exact mayPass_zero A c AJ cj w
    · obtain ⟨b, off, rfl, _⟩ := h.resolve_left h0
      exact mayPass_at b off m c F AJ cj w hg (by omega) h
  · rw [vpB_len hl]
    exact mayPass_no A n c AJ m cj w hn (.inr hl)
end Go.Proofs.YtlmjbflnfpccdaaDoor
