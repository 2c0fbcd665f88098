/- The model's ValidMachine: what it answers, for every machine whose numbers can be read. -/
import Derived.Test.YtbdlbooooiinkaaDoorW37
import Derived.Test.YtbdlbooooiinkaaDoorW52
namespace Go.Proofs.YtbdlbooooiinkaaDoor
open Go.RowKit
/-- Is it in the range? -/
def inRB (n lo hi : Int) : Bool := decide (lo ≤ n) && decide (n ≤ hi)
set_option maxHeartbeats 1000000 in
theorem inRB_any (n lo hi : Int) (w : World) :
    Calls Tryd.prog 51 #[.int .i64 n, .int .i64 lo, .int .i64 hi] w fun e w' => e = .returned (.bool (inRB n lo hi)) ∧ w = w' := by
  go_enter Tryd.func51, Tryd.ntmps51
  go_wp2
  all_goals
    go_ret
    exact ⟨by simp [inRB]; try omega, rfl⟩
/-- Are all of the numbers words? -/
def okL (n : Nat) (f : Nat → Int) : Bool := (List.range n).all fun j => inRB (f j) 0 255
theorem okL_iff {n : Nat} {f : Nat → Int} : okL n f = true ↔ ∀ j, j < n → inRB (f j) 0 255 = true := by
  simp [okL, List.all_eq_true]
theorem okL_false {n k : Nat} {f : Nat → Int} (hk : k < n) (h : inRB (f k) 0 255 = false) : okL n f = false := by
  rw [Bool.eq_false_iff]
  intro h'
  rw [okL_iff.1 h' k hk] at h
  cases h
theorem validNumbers_zero (A : Option Addr) (c m : Nat) (f : Nat → Int) (w : World) :
    Calls Tryd.prog 69 #[.slice A 0 c, .int .i64 m] w fun e w' => e = .returned (.bool (okL 0 f && decide (0 = m))) ∧ w = w' := by
  go_enter Tryd.func69, Tryd.ntmps69
  go_wp2
  refine wp_loop_rounds 1 ?_
  rw [rounds_succ]
  go_wp2
  go_ret
  refine ⟨ret_b ?_, rfl⟩
  rw [Bool.eq_iff_iff]
  simp [okL]
  try omega
set_option maxHeartbeats 2000000 in
theorem validNumbers_at (b off n c m : Nat) (f : Nat → Int) (w : World) (hn : n ≤ 9223372036854775807) (h : Nums w (some ⟨b, off, none⟩) n f) :
    Calls Tryd.prog 69 #[.slice (some ⟨b, off, none⟩) n c, .int .i64 m] w fun e w' => e = .returned (.bool (okL n f && decide (n = m))) ∧ w = w' := by
  have H := shade h
  clear h
  go_enter Tryd.func69, Tryd.ntmps69
  go_wp2
  go_loop [5] (fun i => ∃ k : Nat, k ≤ n ∧ i = .int .i64 k ∧ ∀ j, j < k → inRB (f j) 0 255 = true) (fun i => n - (intOf i).toNat)
  case atStart => exact ⟨0, Nat.zero_le _, rfl, fun j hj => absurd hj (by omega)⟩
  case round =>
    obtain ⟨k, hk, rfl, hall⟩ := hrel
    have HA := shade hall
    clear hall
    by_cases hkn : k < n
    · have q1 := H.out.cell hkn
      rcases hr : inRB (f k) 0 255 with _ | _
      · have HR := shade hr
        clear hr
        go_wp2_with (first | (go_at_call 51; refine (inRB_any _ _ _ _).mono ?_; rw [HR.out]; rintro e w' ⟨rfl, rfl⟩))
        go_ret
        exact ⟨ret_b (by rw [okL_false hkn HR.out]; rfl), rfl⟩
      · have HR := shade hr
        clear hr
        go_wp2_with (first | (go_at_call 51; refine (inRB_any _ _ _ _).mono ?_; rw [HR.out]; rintro e w' ⟨rfl, rfl⟩))
        go_round
        case rel => exact ⟨k + 1, by omega, by go_num, fun j hj => by
          by_cases e : j = k
          · rw [e]; exact HR.out
          · exact HA.out j (by omega)⟩
        case measure => simp [intOf]; omega
    · have hkn2 : k = n := by omega
      subst hkn2
      go_wp2
      go_ret
      refine ⟨ret_b ?_, rfl⟩
      rw [okL_iff.2 HA.out]
      rw [Bool.eq_iff_iff]
      simp
      try omega
theorem validNumbers_any (A : Option Addr) (n c m : Nat) (f : Nat → Int) (w : World) (hn : n ≤ 9223372036854775807) (h : Nums w A n f) :
    Calls Tryd.prog 69 #[.slice A n c, .int .i64 m] w fun e w' => e = .returned (.bool (okL n f && decide (n = m))) ∧ w = w' := by
  by_cases h0 : n = 0
  · subst h0
    exact validNumbers_zero A c m f w
  · obtain ⟨b, off, rfl, _⟩ := h.resolve_left h0
    exact validNumbers_at b off n c m f w hn h
/-- Is the machine valid? -/
def vmB (at' : Int) (n1 n2 : Nat) (f1 f2 : Nat → Int) : Bool := inRB at' 0 40 && (okL n1 f1 && decide (n1 = 4)) && (okL n2 f2 && decide (n2 = 8))


set_option maxHeartbeats 4000000 in
theorem validMachine_any (at' : Int) (A1 A2 : Option Addr) (n1 n2 c1 c2 : Nat) (f1 f2 : Nat → Int) (w : World) (hn1 : n1 ≤ 9223372036854775807) (hn2 : n2 ≤ 9223372036854775807) (h1 : Nums w A1 n1 f1) (h2 : Nums w A2 n2 f2) :
    Calls Tryd.prog 43 #[MV at' A1 n1 c1 A2 n2 c2] w fun e w' => e = .returned (.bool (vmB at' n1 n2 f1 f2)) ∧ w.grownBy w' none := by
  have H1 := shade (fun o => validNumbers_any A1 n1 c1 4 f1 (w.alloc o) hn1 (h1.alloc o))
  have H2 := shade (fun o => validNumbers_any A2 n2 c2 8 f2 (w.alloc o) hn2 (h2.alloc o))
  clear h1 h2
  unfold vmB
  have H0 := shade (fun W => inRB_any at' 0 40 W)
  generalize inRB at' 0 40 = x at *
  generalize (okL n1 f1 && decide (n1 = 4)) = y at *
  generalize (okL n2 f2 && decide (n2 = 8)) = z at *
  rcases x with _ | _
  all_goals rcases y with _ | _
  all_goals rcases z with _ | _
  all_goals
    go_enter Tryd.func43, Tryd.ntmps43
    go_wp2_with (first | (go_at_call 51; refine (H0.out _).mono ?_; rintro e w' ⟨rfl, rfl⟩) | (go_at_call 69; first | (have hq := hdone1; refine (H2.out _).mono ?_; rintro e w' ⟨rfl, rfl⟩) | (refine (H1.out _).mono ?_; rintro e w' ⟨rfl, rfl⟩; have hdone1 := true)))
    go_ret
    exact ⟨rfl, World.grownBy_alloc _ _ _⟩

end Go.Proofs.YtbdlbooooiinkaaDoor