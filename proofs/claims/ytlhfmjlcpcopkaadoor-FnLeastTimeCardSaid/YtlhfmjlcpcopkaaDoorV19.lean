/- The greatest and the least of a row of numbers. -/
import Derived.Test.YtlhfmjlcpcopkaaDoorV13
namespace Go.Proofs.YtlhfmjlcpcopkaaDoor
open Go.RowKit
set_option linter.unusedSimpArgs false
def mxN (f : Nat → Int) : Nat → Int
  | 0 => f 0
  | k + 1 => max (mxN f k) (f (k + 1))
def mnN (f : Nat → Int) : Nat → Int
  | 0 => f 0
  | k + 1 => min (mnN f k) (f (k + 1))
theorem mxN_rng {f : Nat → Int} {lo hi : Int} (h : ∀ j, lo ≤ f j ∧ f j ≤ hi) : ∀ k, lo ≤ mxN f k ∧ mxN f k ≤ hi
  | 0 => h 0
  | k + 1 => by
    have h1 := mxN_rng h k
    have h2 := h (k + 1)
    show lo ≤ max (mxN f k) (f (k + 1)) ∧ max (mxN f k) (f (k + 1)) ≤ hi
    omega
theorem mnN_rng {f : Nat → Int} {lo hi : Int} (h : ∀ j, lo ≤ f j ∧ f j ≤ hi) : ∀ k, lo ≤ mnN f k ∧ mnN f k ≤ hi
  | 0 => h 0
  | k + 1 => by
    have h1 := mnN_rng h k
    have h2 := h (k + 1)
    show lo ≤ min (mnN f k) (f (k + 1)) ∧ min (mnN f k) (f (k + 1)) ≤ hi
    omega
theorem mxN_ge (f : Nat → Int) : ∀ {k j : Nat}, j ≤ k → f j ≤ mxN f k
  | 0, j, h => by
    obtain rfl : j = 0 := by omega
    exact Int.le_refl _
  | k + 1, j, h => by
    show f j ≤ max (mxN f k) (f (k + 1))
    by_cases e : j = k + 1
    · subst e
      omega
    · have := mxN_ge f (show j ≤ k by omega)
      omega
set_option maxRecDepth 100000 in
set_option maxHeartbeats 4000000 in
theorem maxNums_any (lo hi : Nat) (v : Value) (m : Nat) (f : Nat → Int) (w : World) (hn : m + 1 ≤ 40) (h : RowO w lo hi 3 v (m + 1) (numL (m + 1) f)) :
    Calls Tryd.prog 69 #[v] w fun e w' => e = .returned (.int .i64 (mxN f m)) ∧ w.grownBy w' none := by
  obtain ⟨A, c, rfl, hN⟩ := h.nums
  obtain ⟨b, off, rfl, hb, -⟩ := hN.resolve_left (by omega)
  have HC := shade hN
  have c0 := hN.cell (show 0 < m + 1 by omega)
  rw [Nat.add_zero] at c0
  clear h hN
  go_enter Tryd.func69, Tryd.ntmps69
  go_wp2_with fail
  clear c0
  go_loopw [3, 4] (fun u i wr => ∃ q : Nat, q ≤ m ∧ u = .int .i64 (mxN f q) ∧ i = .int .i64 ((q : Int) + 1) ∧ wr = w) (fun _ i _ => m + 1 - (intOf i).toNat)
  case atStart => exact ⟨0, Nat.zero_le _, rfl, rfl, rfl⟩
  case round =>
    obtain ⟨q, hq, rfl, rfl, rfl⟩ := hrel
    by_cases hqm : q < m
    · have c1 := HC.out.cell (show q + 1 < m + 1 by omega)
      have i0 : (q : Int) + 1 < (m : Int) + 1 := by omega
      have i1 : (0 : Int) ≤ (q : Int) + 1 := by omega
      have HX := shade (show mxN f (q + 1) = max (mxN f q) (f (q + 1)) from rfl)
      obtain ⟨x, hx⟩ : ∃ x, mxN f q = x := ⟨_, rfl⟩
      obtain ⟨y, hy⟩ : ∃ y, f (q + 1) = y := ⟨_, rfl⟩
      rw [hx, hy] at HX
      rw [hy] at c1
      rw [hx]
      clear hx hy
      go_wp2_with fail
      all_goals
        go_roundw
        case rel => exact ⟨q + 1, by omega, by rw [HX.out]; congr 1; (first | omega | (split <;> omega)), by go_num, trivial⟩
        case measure => simp [intOf]; omega
    · obtain rfl : q = m := by omega
      go_wp2_with fail
      go_ret
      exact ⟨rfl, grown_refl _ _⟩
set_option maxRecDepth 100000 in
set_option maxHeartbeats 4000000 in
theorem minNums_any (lo hi : Nat) (v : Value) (m : Nat) (f : Nat → Int) (w : World) (hn : m + 1 ≤ 40) (h : RowO w lo hi 3 v (m + 1) (numL (m + 1) f)) :
    Calls Tryd.prog 70 #[v] w fun e w' => e = .returned (.int .i64 (mnN f m)) ∧ w.grownBy w' none := by
  obtain ⟨A, c, rfl, hN⟩ := h.nums
  obtain ⟨b, off, rfl, hb, -⟩ := hN.resolve_left (by omega)
  have HC := shade hN
  have c0 := hN.cell (show 0 < m + 1 by omega)
  rw [Nat.add_zero] at c0
  clear h hN
  go_enter Tryd.func70, Tryd.ntmps70
  go_wp2_with fail
  clear c0
  go_loopw [3, 4] (fun u i wr => ∃ q : Nat, q ≤ m ∧ u = .int .i64 (mnN f q) ∧ i = .int .i64 ((q : Int) + 1) ∧ wr = w) (fun _ i _ => m + 1 - (intOf i).toNat)
  case atStart => exact ⟨0, Nat.zero_le _, rfl, rfl, rfl⟩
  case round =>
    obtain ⟨q, hq, rfl, rfl, rfl⟩ := hrel
    by_cases hqm : q < m
    · have c1 := HC.out.cell (show q + 1 < m + 1 by omega)
      have i0 : (q : Int) + 1 < (m : Int) + 1 := by omega
      have i1 : (0 : Int) ≤ (q : Int) + 1 := by omega
      have HX := shade (show mnN f (q + 1) = min (mnN f q) (f (q + 1)) from rfl)
      obtain ⟨x, hx⟩ : ∃ x, mnN f q = x := ⟨_, rfl⟩
      obtain ⟨y, hy⟩ : ∃ y, f (q + 1) = y := ⟨_, rfl⟩
      rw [hx, hy] at HX
      rw [hy] at c1
      rw [hx]
      clear hx hy
      go_wp2_with fail
      all_goals
        go_roundw
        case rel => exact ⟨q + 1, by omega, by rw [HX.out]; congr 1; (first | omega | (split <;> omega)), by go_num, trivial⟩
        case measure => simp [intOf]; omega
    · obtain rfl : q = m := by omega
      go_wp2_with fail
      go_ret
      exact ⟨rfl, grown_refl _ _⟩
end Go.Proofs.YtlhfmjlcpcopkaaDoor
