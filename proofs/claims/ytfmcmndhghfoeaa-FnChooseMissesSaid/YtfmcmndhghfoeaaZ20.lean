/- CountMisses of the program. -/
import Derived.Test.YtfmcmndhghfoeaaZ19
namespace Go.Proofs.Ytfmcmndhghfoeaa
open Go.RowKit Go.Shelf
abbrev TCO : TypeId := 49
theorem cg_is (most f half : Int) (J : Nat → Bool) (j : Nat) : cg most f half J j = decide (half ≤ ct most f J j) := rfl
set_option maxHeartbeats 4000000 in
theorem ICount_in (AJ : Option Addr) (m cj : Nat) (J : Nat → Bool) (b f most half : Int) (hb : b = 1 ∧ most = 1 ∧ half = 1 ∨ b = 2 ∧ most = 3 ∧ half = 2 ∨ b = 3 ∧ most = 7 ∧ half = 4) (w : World) (hj : Bols w AJ m J) (hm : m ≤ 300) :
    Calls Try.prog 17 #[.slice AJ m cj, .int .i64 b, .int .i64 f] w fun e w' => e = .returned (.int .i64 (if 0 ≤ f ∧ f ≤ most then (msB J (cg most f half J) m : Int) else -1)) ∧ w.grownBy w' none := by
  have HO := shade (fun W => counterOf_any b f most (by omega) W)
  have HM := shade (show Mst most half by unfold Mst; omega)
  have hb1 : 1 ≤ b := by omega
  have hb3 : b ≤ 3 := by omega
  have HB := shade hb
  have H := shade hj
  have i1 : ¬ (300 : Int) < (m : Int) := by omega
  clear hb hj
  obtain ⟨v, hv⟩ : ∃ v, (if 0 ≤ f ∧ f ≤ most then (msB J (cg most f half J) m : Int) else -1) = v := ⟨_, rfl⟩
  rw [hv]
  have HV := shade hv
  clear hv
  rcases (show f < 0 ∨ (0 ≤ f ∧ most < f) ∨ (0 ≤ f ∧ f ≤ most) by omega) with h0 | ⟨h0, h1⟩ | ⟨h0, h1⟩
  · go_enter Try.func17, Try.ntmps17
    go_wp2_with fail
    refine (HO.out w).mono ?_
    rintro e w1 ⟨rfl, hg1, -⟩
    have HG1 := shade hg1
    have l1 := hg1.size
    clear hg1
    go_wp2_with fail
    all_goals (first | (exfalso; omega) | skip)
    all_goals
      go_ret
      exact ⟨by rw [← HV.out, if_neg (by omega)]; rfl, grown_same HG1.out (World.grownBy_alloc _ _ _)⟩
  · go_enter Try.func17, Try.ntmps17
    go_wp2_with fail
    refine (HO.out w).mono ?_
    rintro e w1 ⟨rfl, hg1, -⟩
    have HG1 := shade hg1
    have l1 := hg1.size
    clear hg1
    go_wp2_with fail
    all_goals (first | (exfalso; omega) | skip)
    all_goals
      go_ret
      exact ⟨by rw [← HV.out, if_neg (by omega)]; rfl, grown_same HG1.out (World.grownBy_alloc _ _ _)⟩
  · go_enter Try.func17, Try.ntmps17
    go_wp2_with fail
    refine (HO.out w).mono ?_
    rintro e w1 ⟨rfl, hg1, -⟩
    have HG1 := shade hg1
    have l1 := hg1.size
    clear hg1
    go_wp2_with fail
    all_goals (first | (exfalso; omega) | skip)
    all_goals
      refine (missesOf_any AJ m cj J (cg most f half J) _ #[.pointer (some ⟨w1.heap.size, 0, none⟩)] #[] (fun j W => Holds5 W w1.heap.size TCO #[.int .i64 (ct most f J j), .int .i64 most] ∧ Below w.heap.size w W) _ hm ⟨Holds5.fresh w1 TCO _, below_of_grown (grown_same HG1.out (World.grownBy_alloc _ _ _))⟩ (fun _ W h => H.out.below h.2) (enters_of Try.func39 (by kernel_rfl) rfl)
        (fun j W _ h => (ctry_any w1.heap.size 0 (ct most f J j) most half (J j) HM.out (ct_rng J h0 h1 j).1 (ct_rng J h0 h1 j).2 W (h.1.look 0) (h.1.look 1) (h.1.free 0)).mono (fun e w' he => ⟨he.1, ?_⟩))).mono ?_
      · obtain ⟨-, k, rfl⟩ := he
        refine ⟨(h.1.put 0 _).drewN k, ?_⟩
        have hb := h.2.trans (below_row (B := w.heap.size) (grown_drewN (grown_set w1.heap.size 0 (.int .i64 (stp (ct most f J j) (J j) most))) k) l1 h.2.size)
        exact hb
      · rintro e w2 ⟨rfl, -, hg⟩
        have HG := shade hg
        clear hg
        go_wp2_with fail
        go_ret
        exact ⟨by rw [← HV.out, if_pos ⟨h0, h1⟩]; rfl, grown_of_below HG.out⟩
theorem ICountMisses_any (AJ : Option Addr) (m cj : Nat) (J : Nat → Bool) (b f : Int) (w : World) (hj : Bols w AJ m J) :
    Calls Try.prog 17 #[.slice AJ m cj, .int .i64 b, .int .i64 f] w fun e w' => e = .returned (.int .i64 (countV J m b f)) ∧ w.grownBy w' none := by
  by_cases hin : m ≤ 300 ∧ 1 ≤ b ∧ b ≤ 3
  · obtain ⟨hm, hb1, hb3⟩ := hin
    have hv : ∀ most half : Int, (b = 1 ∧ most = 1 ∧ half = 1 ∨ b = 2 ∧ most = 3 ∧ half = 2 ∨ b = 3 ∧ most = 7 ∧ half = 4) → countV J m b f = (if 0 ≤ f ∧ f ≤ most then (msB J (cg most f half J) m : Int) else -1) := by
      intro most half h
      unfold countV
      rcases h with ⟨rfl, rfl, rfl⟩ | ⟨rfl, rfl, rfl⟩ | ⟨rfl, rfl, rfl⟩
      all_goals
        simp only [hm, true_and, show (1 : Int).toNat = 1 from rfl, show (2 : Int).toNat = 2 from rfl, show (3 : Int).toNat = 3 from rfl, Int.reducePow, Int.reduceSub, Nat.reduceSub, Int.reduceLE]
    rcases (show b = 1 ∨ b = 2 ∨ b = 3 by omega) with h | h | h
    · rw [hv 1 1 (.inl ⟨h, rfl, rfl⟩)]; exact ICount_in AJ m cj J b f 1 1 (.inl ⟨h, rfl, rfl⟩) w hj hm
    · rw [hv 3 2 (.inr (.inl ⟨h, rfl, rfl⟩))]; exact ICount_in AJ m cj J b f 3 2 (.inr (.inl ⟨h, rfl, rfl⟩)) w hj hm
    · rw [hv 7 4 (.inr (.inr ⟨h, rfl, rfl⟩))]; exact ICount_in AJ m cj J b f 7 4 (.inr (.inr ⟨h, rfl, rfl⟩)) w hj hm
  · have hv : countV J m b f = -1 := if_neg (fun h => hin ⟨h.1, h.2.1, h.2.2.1⟩)
    rw [hv]
    clear hj
    rcases (show 300 < m ∨ m ≤ 300 ∧ b < 1 ∨ m ≤ 300 ∧ 1 ≤ b ∧ 3 < b by omega) with h | ⟨h, h1⟩ | ⟨h, h1, h2⟩
    all_goals
      have i1 := Int.ofNat_lt.2 (show m < m + 1 by omega)
      have i2 : (300 : Int) < (m : Int) ∨ (m : Int) ≤ 300 := by omega
      clear i1
      (try have i1 : ¬ (300 : Int) < (m : Int) := by omega)
      (try have i1 : (300 : Int) < (m : Int) := by omega)
      clear i2
      go_enter Try.func17, Try.ntmps17
      go_wp2_with fail
      all_goals (first | (exfalso; omega) | skip)
      all_goals
        go_ret
        exact ⟨rfl, grown_refl _ _⟩
end Go.Proofs.Ytfmcmndhghfoeaa
