/- The laws' isIn and ascends, for every row of numbers that can be read. -/
import Derived.Test.YtbdlbooooiinkaaDoorW400d
namespace Go.Proofs.YtbdlbooooiinkaaDoor
open Go.RowKit
set_option linter.unusedSimpArgs false
/-- Is a number among the first of a row? -/
def isInB (f : Nat → Int) : Nat → Int → Bool
  | 0, _ => false
  | k + 1, x => isInB f k x || (f k == x)
theorem isInB_iff (f : Nat → Int) (x : Int) : ∀ n, isInB f n x = true ↔ ∃ j, j < n ∧ f j = x := by
  intro n
  induction n with
  | zero =>
    constructor
    · intro h
      cases h
    · rintro ⟨j, hj, _⟩
      omega
  | succ n ih =>
    show (isInB f n x || (f n == x)) = true ↔ _
    rw [Bool.or_eq_true, ih, beq_iff_eq]
    constructor
    · rintro (⟨j, hj, h⟩ | h)
      · exact ⟨j, by omega, h⟩
      · exact ⟨n, by omega, h⟩
    · rintro ⟨j, hj, h⟩
      by_cases e : j = n
      · subst e
        exact .inr h
      · exact .inl ⟨j, by omega, h⟩
theorem isInB_hit (f : Nat → Int) (x : Int) (n j : Nat) (hj : j < n) (h : f j = x) : isInB f n x = true := (isInB_iff f x n).2 ⟨j, hj, h⟩
theorem isIn_zero (A : Option Addr) (c : Nat) (x : Int) (w : World) :
    Calls Tryd.prog 14 #[.slice A 0 c, .int .i64 x] w fun e w' => e = .returned (.bool false) ∧ w = w' := by
  go_enter Tryd.func14, Tryd.ntmps14
  go_wp2
  refine wp_loop_rounds 1 ?_
  rw [rounds_succ]
  go_wp2
  go_ret
  exact ⟨rfl, rfl⟩
set_option maxHeartbeats 1000000 in
theorem isIn_at (b off n c : Nat) (f : Nat → Int) (x : Int) (w : World) (hn : n ≤ 9223372036854775807) (h : Nums w (some ⟨b, off, none⟩) n f) :
    Calls Tryd.prog 14 #[.slice (some ⟨b, off, none⟩) n c, .int .i64 x] w fun e w' => e = .returned (.bool (isInB f n x)) ∧ w = w' := by
  have H := shade h
  clear h
  go_enter Tryd.func14, Tryd.ntmps14
  go_wp2
  go_loop [5] (fun i => ∃ k : Nat, k ≤ n ∧ i = .int .i64 k ∧ isInB f k x = false) (fun i => n - (intOf i).toNat)
  case atStart => exact ⟨0, Nat.zero_le _, rfl, rfl⟩
  case round =>
    obtain ⟨k, hk, rfl, hno⟩ := hrel
    have HNO := shade hno
    clear hno
    by_cases hkn : k < n
    · have q1 := H.out.cell hkn
      rcases he : (f k == x) with _ | _
      · have HE := shade he
        obtain ⟨y, hy⟩ : ∃ y, f k = y := ⟨_, rfl⟩
        rw [hy] at q1 he
        clear hy
        go_wp2
        go_round
        case rel =>
          refine ⟨k + 1, by omega, by go_num, ?_⟩
          show (isInB f k x || (f k == x)) = false
          rw [HNO.out, HE.out]
          rfl
        case measure => simp [intOf]; omega
      · have HE := shade (isInB_hit f x n k hkn (beq_iff_eq.1 he))
        rw [beq_iff_eq.1 he] at q1
        clear he
        go_wp2
        go_ret
        exact ⟨ret_b HE.out.symm, rfl⟩
    · have hkn2 : k = n := by omega
      subst hkn2
      go_wp2
      go_ret
      exact ⟨ret_b HNO.out.symm, rfl⟩
theorem isIn_any (A : Option Addr) (n c : Nat) (f : Nat → Int) (x : Int) (w : World) (hn : n ≤ 9223372036854775807) (h : Nums w A n f) :
    Calls Tryd.prog 14 #[.slice A n c, .int .i64 x] w fun e w' => e = .returned (.bool (isInB f n x)) ∧ w = w' := by
  by_cases h0 : n = 0
  · subst h0
    exact isIn_zero A c x w
  · obtain ⟨b, off, rfl, _⟩ := h.resolve_left h0
    exact isIn_at b off n c f x w hn h
theorem ascends_zero (A : Option Addr) (c : Nat) (w : World) :
    Calls Tryd.prog 26 #[.slice A 0 c] w fun e w' => e = .returned (.bool true) ∧ w.grownBy w' none := by
  go_enter Tryd.func26, Tryd.ntmps26
  go_wp2
  refine wp_loop_rounds 1 ?_
  rw [rounds_succ]
  go_wp2
  go_ret
  exact ⟨rfl, grown_refl _ _⟩
set_option maxHeartbeats 1000000 in
theorem ascends_at (b off n c : Nat) (f : Nat → Int) (w : World) (hn0 : 0 < n) (hn : n ≤ 9223372036854775807) (h : Nums w (some ⟨b, off, none⟩) n f) (ha : ∀ j, j + 1 < n → f j < f (j + 1)) :
    Calls Tryd.prog 26 #[.slice (some ⟨b, off, none⟩) n c] w fun e w' => e = .returned (.bool true) ∧ w.grownBy w' none := by
  have H := shade h
  have HA := shade ha
  clear h ha
  go_enter Tryd.func26, Tryd.ntmps26
  go_wp2
  go_loopw [3] (fun i wr => ∃ k m : Nat, k + 1 ≤ n ∧ i = .int .i64 ((k : Int) + 1) ∧ wr = w.drewN m) (fun i _ => n - (intOf i).toNat)
  case atStart => exact ⟨0, 0, by omega, rfl, rfl⟩
  case round =>
    obtain ⟨k, m, hk, rfl, rfl⟩ := hrel
    by_cases hkn : k + 1 < n
    · have q1 := H.out.cell hkn
      have q2 := H.out.cell (show k < n by omega)
      have q3 := HA.out k hkn
      generalize f (k + 1) = y at *
      generalize f k = z at *
      go_wp2
      go_quiet (fail)
      go_wp2
      go_roundw
      case rel => exact ⟨k + 1, _, by omega, by go_num, rfl⟩
      case measure => simp [intOf]; omega
    · have hkn2 : n = k + 1 := by omega
      subst hkn2
      go_wp2
      go_ret
      exact ⟨rfl, grown_drewN (grown_refl _ _) _⟩
theorem ascends_any (A : Option Addr) (n c : Nat) (f : Nat → Int) (w : World) (hn : n ≤ 9223372036854775807) (h : Nums w A n f) (ha : ∀ j, j + 1 < n → f j < f (j + 1)) :
    Calls Tryd.prog 26 #[.slice A n c] w fun e w' => e = .returned (.bool true) ∧ w.grownBy w' none := by
  by_cases h0 : n = 0
  · subst h0
    exact ascends_zero A c w
  · obtain ⟨b, off, rfl, _⟩ := h.resolve_left h0
    exact ascends_at b off n c f w (by omega) hn h ha
end Go.Proofs.YtbdlbooooiinkaaDoor
