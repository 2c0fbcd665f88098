/- Walks of the laws' helpers over slices of numbers: compare, mark, test, copy, measure. -/
import Derived.Test.YtcfnoihjpiklhaaDoorW30
namespace Go.Proofs.YtcfnoihjpiklhaaDoor
open Go.RowKit
theorem info3 : (Tryd.prog.info? 3).map (fun i => (i.zero, i.size, i.bytes)) = some (some (.int .i64 0), 1, 8) := by kernel_rfl


theorem eqIntS_zero (A1 A2 : Option Addr) (c1 c2 : Nat) (w : World) :
    Calls Tryd.prog 37 #[.slice A1 0 c1, .slice A2 0 c2] w fun e w' => e = .returned (.bool true) ∧ ∃ m : Nat, w.drewN m = w' := by
  go_enter Tryd.func37, Tryd.ntmps37
  go_wp2
  refine wp_loop_rounds 1 ?_
  rw [rounds_succ]
  go_wp2
  go_ret
  exact ⟨rfl, 0, rfl⟩
set_option maxHeartbeats 1000000 in
theorem eqIntS_at (b1 o1 b2 o2 c1 c2 n : Nat) (f g : Nat → Int) (w : World) (hn : n ≤ 9223372036854775807) (h1 : Nums w (some ⟨b1, o1, none⟩) n f) (h2 : Nums w (some ⟨b2, o2, none⟩) n g) (he : ∀ j, j < n → f j = g j) :
    Calls Tryd.prog 37 #[.slice (some ⟨b1, o1, none⟩) n c1, .slice (some ⟨b2, o2, none⟩) n c2] w fun e w' => e = .returned (.bool true) ∧ ∃ m : Nat, w.drewN m = w' := by
  have H1 := shade h1
  have H2 := shade h2
  have HE := shade he
  clear h1 h2 he
  go_enter Tryd.func37, Tryd.ntmps37
  go_wp2
  go_loopw [5] (fun i wr => ∃ k m : Nat, k ≤ n ∧ i = .int .i64 k ∧ wr = w.drewN m) (fun i _ => n - (intOf i).toNat)
  case atStart => exact ⟨0, 0, Nat.zero_le _, rfl, rfl⟩
  case round =>
    obtain ⟨k, m, hk, rfl, rfl⟩ := hrel
    by_cases hkn : k < n
    · have q1 := H1.out.cell hkn
      have q2 := H2.out.cell hkn
      rw [HE.out k hkn] at q1
      go_wp2
      go_quiet (fail)
      go_wp2
      go_roundw
      case rel => exact ⟨k + 1, _, by omega, by go_num, rfl⟩
      case measure => simp [intOf]; omega
    · have hkn2 : k = n := by omega
      subst hkn2
      go_wp2
      go_ret
      exact ⟨rfl, m, rfl⟩
theorem eqIntS_any (A1 A2 : Option Addr) (c1 c2 n : Nat) (f g : Nat → Int) (w : World) (hn : n ≤ 9223372036854775807) (h1 : Nums w A1 n f) (h2 : Nums w A2 n g) (he : ∀ j, j < n → f j = g j) :
    Calls Tryd.prog 37 #[.slice A1 n c1, .slice A2 n c2] w fun e w' => e = .returned (.bool true) ∧ ∃ m : Nat, w.drewN m = w' := by
  by_cases h0 : n = 0
  · subst h0
    exact eqIntS_zero A1 A2 c1 c2 w
  · obtain ⟨b1, o1, rfl, _⟩ := h1.resolve_left h0
    obtain ⟨b2, o2, rfl, _⟩ := h2.resolve_left h0
    exact eqIntS_at b1 o1 b2 o2 c1 c2 n f g w hn h1 h2 he


theorem markIntS_zero (A : Option Addr) (c : Nat) (m : Int) (w : World) :
    Calls Tryd.prog 39 #[.slice A 0 c, .int .i64 m] w fun e w' => e = .returned (.int .i64 m) ∧ w = w' := by
  go_enter Tryd.func39, Tryd.ntmps39
  go_wp2
  refine wp_loop_rounds 1 ?_
  rw [rounds_succ]
  go_wp2
  go_ret
  exact ⟨rfl, rfl⟩
set_option maxHeartbeats 1000000 in
theorem markIntS_at (B g n cap : Nat) (f : Nat → Int) (m : Int) (w : World) (hm0 : 0 ≤ m) (hm : m + n ≤ 9223372036854775807) (h : Own w B (some ⟨g, 0, none⟩) n cap f) :
    Calls Tryd.prog 39 #[.slice (some ⟨g, 0, none⟩) n cap, .int .i64 m] w fun e w' => e = .returned (.int .i64 (m + n)) ∧ Own w' B (some ⟨g, 0, none⟩) n cap (fun j => m + (j : Int)) ∧ w.grownBy w' (some g) := by
  have H := shade h
  clear h
  go_enter Tryd.func39, Tryd.ntmps39
  go_wp2
  go_loopw [1, 5] (fun q i wr => ∃ k : Nat, k ≤ n ∧ i = .int .i64 k ∧ q = .int .i64 (m + k) ∧ Own wr B (some ⟨g, 0, none⟩) n cap (fun j => if j < k then m + (j : Int) else f j) ∧ w.grownBy wr (some g)) (fun _ i _ => n - (intOf i).toNat)
  case atStart => exact ⟨0, Nat.zero_le _, rfl, by simp, H.out.congr (fun j _ => by rw [if_neg (by omega)]), grown_refl _ _⟩
  case round =>
    obtain ⟨k, hk, rfl, rfl, hown, hgr⟩ := hrel
    by_cases hkn : k < n
    · have q1 := hown.nums.cell hkn
      have q2 := World.ownsRow.frozenAt hown k
      rw [Nat.zero_add] at q1
      have HO := shade hown
      have HR := shade hgr
      clear hown hgr
      go_wp2
      go_roundw
      case rel =>
        have hs := World.ownsRow.stored HO.out k (.int .i64 (m + k))
        refine ⟨k + 1, by omega, by go_num, by go_num, ?_, grown_same HR.out hs.2⟩
        have h1 := hs.1
        rw [numL_set n _ (fun j => if j < k + 1 then m + (j : Int) else f j) k (m + k) (by simp) (fun j _ hne => by
          show (if j < k then _ else _) = (if j < k + 1 then _ else _)
          by_cases h : j < k
          · rw [if_pos h, if_pos (by omega)]
          · rw [if_neg h, if_neg (by omega)])] at h1
        exact h1
      case measure => simp [intOf]; omega
    · have hkn2 : k = n := by omega
      subst hkn2
      have HO := shade hown
      have HR := shade hgr
      clear hown hgr
      go_wp2
      go_ret
      exact ⟨rfl, HO.out.congr (fun j hj => by rw [if_pos hj]), HR.out⟩


theorem szIntS_any (A : Option Addr) (n c : Nat) (left : Int) (w : World) (h0 : 0 ≤ left) (h1 : left ≤ 1048576) (hn : n ≤ 9223372036854775807) :
    Calls Tryd.prog 33 #[.slice A n c, .int .i64 left] w fun e w' => e = .returned (.int .i64 (if left - (n : Int) < 0 then -1 else left - n)) ∧ w = w' := by
  by_cases h : left - (n : Int) < 0
  · rw [if_pos h]
    go_enter Tryd.func33, Tryd.ntmps33
    go_wp2
    go_ret
    exact ⟨rfl, rfl⟩
  · rw [if_neg h]
    go_enter Tryd.func33, Tryd.ntmps33
    go_wp2
    go_ret
    exact ⟨rfl, rfl⟩


theorem made_zero (n : Nat) : (madeCells #[Value.int .i64 0] n).toList = numL n (fun _ => 0) := by
  rw [toList_madeCells_one]
  unfold numL
  rw [List.map_const', List.length_range]
set_option maxHeartbeats 1000000 in
theorem toIntS_zero (A : Option Addr) (cap : Nat) (f : Nat → Int) (w : World) :
    Calls Tryd.prog 35 #[.slice A 0 cap] w fun e w' => e = .returned (.slice (some ⟨w.heap.size, 0, none⟩) 0 0) ∧ Own w' w.heap.size (some ⟨w.heap.size, 0, none⟩) 0 0 f ∧ w.grownBy w' none := by
  obtain ⟨i0, hi, hz0, hz1, hz2⟩ := info_parts info3
  go_enter Tryd.func35, Tryd.ntmps35
  go_wp2_with (first
    | (at_make; refine wpList_make_full _ rfl _ _ 24 rfl w.heap.size 3 i0 (.int .i64 0) 1 Tryd.underlying24 hi hz0 hz1 .i64 .i64 0 0 0 rfl rfl rfl rfl (by omega) (by unfold maxLen; omega) (Nat.le_refl _) ?_)
    | go_in)
  intro w1 hown1 hgr1
  simp only [made_zero] at hown1
  have HO1 := shade hown1
  have HG1 := shade hgr1
  clear hown1 hgr1
  go_wp2
  refine wp_loop_rounds 1 ?_
  rw [rounds_succ]
  go_wp2
  go_ret
  exact ⟨rfl, Own.congr HO1.out (fun j hj => absurd hj (by omega)), HG1.out⟩
set_option maxHeartbeats 1000000 in
theorem toIntS_at (b off n cap : Nat) (f : Nat → Int) (w : World) (hn0 : 0 < n) (hn : n ≤ 1048576) (h : Nums w (some ⟨b, off, none⟩) n f) :
    Calls Tryd.prog 35 #[.slice (some ⟨b, off, none⟩) n cap] w fun e w' => e = .returned (.slice (some ⟨w.heap.size, 0, none⟩) n n) ∧ Own w' w.heap.size (some ⟨w.heap.size, 0, none⟩) n n f ∧ w.grownBy w' none := by
  have H := shade h
  have hlt : b < w.heap.size := by
    rcases h with h | ⟨b', off', hA, hb, _⟩
    · omega
    · injection hA with hA
      injection hA with e1 e2
      omega
  clear h
  obtain ⟨i0, hi, hz0, hz1, hz2⟩ := info_parts info3
  go_enter Tryd.func35, Tryd.ntmps35
  go_wp2_with (first
    | (at_make; refine wpList_make_full _ rfl _ _ 24 rfl w.heap.size 3 i0 (.int .i64 0) 1 Tryd.underlying24 hi hz0 hz1 .i64 .i64 n n n rfl rfl rfl rfl (by rw [hz2]; omega) (by unfold maxLen; omega) (Nat.le_refl _) ?_)
    | go_in)
  intro w1 hown1 hgr1
  simp only [made_zero] at hown1
  have HO1 := shade hown1
  have HG1 := shade hgr1
  clear hown1 hgr1
  go_wp2
  go_loopw [4] (fun i wr => ∃ k : Nat, k ≤ n ∧ i = .int .i64 k ∧ Own wr w.heap.size (some ⟨w.heap.size, 0, none⟩) n n (fun j => if j < k then f j else 0) ∧ w.grownBy wr none) (fun i _ => n - (intOf i).toNat)
  case atStart => exact ⟨0, Nat.zero_le _, rfl, Own.congr HO1.out (fun j _ => by rw [if_neg (by omega)]), HG1.out⟩
  case round =>
    obtain ⟨k, hk, rfl, hown, hgr⟩ := hrel
    by_cases hkn : k < n
    · have q0 := (H.out.grown hgr (by intro _ _ _ e; cases e)).cell hkn
      have q1 := hown.nums.cell hkn
      have q2 := World.ownsRow.frozenAt hown k
      rw [Nat.zero_add] at q1
      have HO := shade hown
      have HR := shade hgr
      clear hown hgr
      go_wp2
      go_roundw
      case rel =>
        have hs := World.ownsRow.stored HO.out k (.int .i64 (f k))
        refine ⟨k + 1, by omega, by go_num, ?_, grown_then HR.out hs.2 (Nat.le_refl _)⟩
        have h1 := hs.1
        rw [numL_set n _ (fun j => if j < k + 1 then f j else 0) k (f k) (by simp) (fun j _ hne => by
          show (if j < k then _ else _) = (if j < k + 1 then _ else _)
          by_cases h : j < k
          · rw [if_pos h, if_pos (by omega)]
          · rw [if_neg h, if_neg (by omega)])] at h1
        exact h1
      case measure => simp [intOf]; omega
    · have hkn2 : k = n := by omega
      subst hkn2
      have HO := shade hown
      have HR := shade hgr
      clear hown hgr
      go_wp2
      go_ret
      exact ⟨rfl, HO.out.congr (fun j hj => by rw [if_pos hj]), HR.out⟩


theorem toIntS_any (A : Option Addr) (n cap : Nat) (f : Nat → Int) (w : World) (hn : n ≤ 1048576) (h : Nums w A n f) :
    Calls Tryd.prog 35 #[.slice A n cap] w fun e w' => e = .returned (.slice (some ⟨w.heap.size, 0, none⟩) n n) ∧ Own w' w.heap.size (some ⟨w.heap.size, 0, none⟩) n n f ∧ w.grownBy w' none := by
  by_cases h0 : n = 0
  · subst h0
    exact toIntS_zero A cap f w
  · obtain ⟨b, off, rfl, _⟩ := h.resolve_left h0
    exact toIntS_at b off n cap f w (by omega) hn h


end Go.Proofs.YtcfnoihjpiklhaaDoor