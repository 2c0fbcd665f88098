/- The least registers: plain facts, and the sets of registers by the program and by its model. -/
import Derived.Test.YtfckmechiochlaaDoorW846
namespace Go.Proofs.YtfckmechiochlaaDoor
open Go.RowKit
set_option linter.unusedSimpArgs false
/-- The registers that are taken by the first numbers of a set. -/
def usd (R : Nat) (p : Nat → Nat) : Nat → Nat
  | 0 => 0
  | k + 1 => if R.testBit k then usd R p k ||| 2 ^ p k else usd R p k
theorem usd_congr (R : Nat) (p q : Nat → Nat) : ∀ k, (∀ j, j < k → p j = q j) → usd R p k = usd R q k
  | 0, _ => rfl
  | k + 1, h => by
    simp only [usd]
    rw [usd_congr R p q k (fun j hj => h j (by omega)), h k (by omega)]
theorem usd_lt (R : Nat) (p : Nat → Nat) (m : Nat) : ∀ k, (∀ j, j < k → p j < m) → usd R p k < 2 ^ m
  | 0, _ => Nat.two_pow_pos m
  | k + 1, h => by
    have ih := usd_lt R p m k (fun j hj => h j (by omega))
    simp only [usd]
    split
    · exact Nat.or_lt_two_pow ih (pow_lt (h k (by omega)))
    · exact ih
theorem usd_bit (R : Nat) (p : Nat → Nat) (t : Nat) : ∀ k, (usd R p k).testBit t = true ↔ ∃ j, j < k ∧ R.testBit j = true ∧ p j = t
  | 0 => by simp [usd]
  | k + 1 => by
    have ih := usd_bit R p t k
    simp only [usd]
    by_cases hb : R.testBit k = true
    · rw [if_pos hb, Nat.testBit_or, Bool.or_eq_true, ih, Nat.testBit_two_pow, decide_eq_true_iff]
      constructor
      · rintro (⟨j, h1, h2, h3⟩ | h)
        · exact ⟨j, by omega, h2, h3⟩
        · exact ⟨k, by omega, hb, h⟩
      · rintro ⟨j, h1, h2, h3⟩
        by_cases e : j = k
        · rw [e] at h3
          exact .inr h3
        · exact .inl ⟨j, by omega, h2, h3⟩
    · rw [if_neg hb, ih]
      constructor
      · rintro ⟨j, h1, h2, h3⟩
        exact ⟨j, by omega, h2, h3⟩
      · rintro ⟨j, h1, h2, h3⟩
        by_cases e : j = k
        · rw [e] at h2
          exact absurd h2 hb
        · exact ⟨j, by omega, h2, h3⟩
/-- The least one outside a set. -/
def lstF (s : Nat) : Nat → Nat → Nat
  | 0, r => r
  | f + 1, r => if s.testBit r then lstF s f (r + 1) else r
def lst (s : Nat) : Nat := lstF s 9 0
theorem lstF_is (s r : Nat) (h1 : ∀ j, j < r → s.testBit j = true) (h2 : s.testBit r = false) : ∀ f j, j ≤ r → r - j < f → lstF s f j = r
  | 0, j, _, h => absurd h (by omega)
  | f + 1, j, hj, h => by
    simp only [lstF]
    by_cases e : j = r
    · rw [e, h2]
      rfl
    · rw [h1 j (by omega)]
      exact lstF_is s r h1 h2 f (j + 1) (by omega) (by omega)
theorem lst_is (s r : Nat) (hr : r ≤ 8) (h1 : ∀ j, j < r → s.testBit j = true) (h2 : s.testBit r = false) : lst s = r := lstF_is s r h1 h2 9 0 (by omega) (by omega)
theorem bit_high {s i j : Nat} (h : s < 2 ^ i) (hj : i ≤ j) : s.testBit j = false := by
  rw [Nat.testBit_lt_two_pow]
  exact Nat.lt_of_lt_of_le h (Nat.pow_le_pow_right (by omega) hj)
theorem lst_told (s i : Nat) (hi : i ≤ 8) (h : s < 2 ^ i) : lst s ≤ i ∧ (∀ j, j < lst s → s.testBit j = true) ∧ s.testBit (lst s) = false := by
  have hx : ∃ r, r ≤ i ∧ (∀ j, j < r → s.testBit j = true) ∧ s.testBit r = false := by
    have : ∀ d r, r + d = i → (∀ j, j < r → s.testBit j = true) → ∃ r, r ≤ i ∧ (∀ j, j < r → s.testBit j = true) ∧ s.testBit r = false := by
      intro d
      induction d with
      | zero => exact fun r hr hj => ⟨r, by omega, hj, bit_high h (by omega)⟩
      | succ d ih =>
        intro r hr hj
        by_cases hb : s.testBit r = true
        · exact ih (r + 1) (by omega) (fun j h' => by
            by_cases e : j = r
            · rw [e]; exact hb
            · exact hj j (by omega))
        · exact ⟨r, by omega, hj, by simpa using hb⟩
    exact this i 0 (by omega) (fun j hj => absurd hj (by omega))
  obtain ⟨r, h1, h2, h3⟩ := hx
  rw [lst_is s r (by omega) h2 h3]
  exact ⟨h1, h2, h3⟩
/-- The registers, one after the other. -/
def plL (R : Nat → Nat) : Nat → List Nat
  | 0 => []
  | i + 1 => plL R i ++ [lst (usd (R i) (fun k => (plL R i).getD k 0) i)]
def pl (R : Nat → Nat) (j : Nat) : Nat := (plL R (j + 1)).getD j 0
theorem plL_len (R : Nat → Nat) : ∀ n, (plL R n).length = n
  | 0 => rfl
  | n + 1 => by simp [plL, plL_len R n]
theorem plL_get (R : Nat → Nat) (j : Nat) : ∀ n, j < n → (plL R n).getD j 0 = pl R j
  | 0, h => absurd h (by omega)
  | n + 1, h => by
    by_cases e : j = n
    · rw [e]
      rfl
    · have hj : j < (plL R n).length := by rw [plL_len]; omega
      have := plL_get R j n (by omega)
      rw [← this]
      simp only [plL]
      simp [List.getElem?_append_left hj]
theorem pl_eq (R : Nat → Nat) (i : Nat) : pl R i = lst (usd (R i) (pl R) i) := by
  have : pl R i = lst (usd (R i) (fun k => (plL R i).getD k 0) i) := by
    have hl := plL_len R i
    unfold pl
    simp only [plL]
    generalize plL R i = l at hl
    subst hl
    simp
  rw [this, usd_congr (R i) (fun k => (plL R i).getD k 0) (pl R) i (fun j hj => plL_get R j i hj)]
theorem pl_le (R : Nat → Nat) : ∀ m i, i < m → i ≤ 8 → pl R i ≤ i
  | 0, _, h, _ => absurd h (by omega)
  | m + 1, i, hi, h8 => by
    rw [pl_eq]
    exact (lst_told _ i h8 (usd_lt _ _ i i (fun j hj => by
      have := pl_le R m j (by omega) (by omega)
      omega))).1
theorem usd_at (R : Nat → Nat) (r k i : Nat) (hk : k ≤ i) (hi : i ≤ 8) : usd r (pl R) k < 2 ^ i := usd_lt _ _ i k (fun j hj => by
  have := pl_le R (j + 1) j (by omega) (by omega)
  omega)
/-- A bit as a number. -/
def bi (s j : Nat) : Int := if s.testBit j then 1 else 0
theorem bit_eq : ∀ s : Fin 256, ∀ j : Fin 9, (wrap64 ((s.val : Int) / ((2 ^ j.val : Nat) : Int))).tmod 2 = bi s.val j.val := by decide +kernel
theorem bitS_any (s j : Nat) (w : World) (hs : s < 256) (hj : j ≤ 8) : Calls Tryd.prog 88 #[.int .i64 s, .int .i64 j] w fun e w' => e = .returned (.int .i64 (bi s j)) ∧ w = w' := by
  have HP := shade (fun W => power_nat j (by omega) W)
  have HE := shade (bit_eq ⟨s, hs⟩ ⟨j, by omega⟩)
  simp only [] at HE
  have h1 : 0 < 2 ^ j := Nat.two_pow_pos j
  generalize 2 ^ j = p at *
  generalize bi s j = v at *
  have h2 : (0 : Int) < (p : Int) := by omega
  have h3 : ¬ (p : Int) = 0 := by omega
  go_enter Tryd.func88, Tryd.ntmps88
  go_wp2_with (first
    | (go_at_call 46; refine (HP.out _).mono ?_; rintro e w' ⟨rfl, rfl⟩)
    | go_in)
  go_ret
  exact ⟨by rw [← HE.out]; rfl, rfl⟩
theorem hasP_any (s i : Nat) (w : World) (hs : s < 256) (hi : i ≤ 8) :
    Calls Tryd.prog 87 #[.int .i64 s, .int .i64 i] w fun e w' => e = .returned (.bool (s.testBit i)) ∧ w = w' := by
  have hb : ∀ s : Fin 256, ∀ i : Fin 9, (bits .and .i64 ((s.val : Int) / 2 ^ i.val) 1 == 1) = s.val.testBit i.val := by decide +kernel
  have i0 : (0 : Int) ≤ (i : Int) := by omega
  have i8 : (i : Int) ≤ 8 := by omega
  have HB := shade (hb ⟨s, hs⟩ ⟨i, by omega⟩)
  clear hb
  go_enter Tryd.func87, Tryd.ntmps87
  go_wp2
  go_ret
  exact ⟨by rw [← HB.out]; rfl, rfl⟩
theorem withP_any (s i : Nat) (w : World) (hs : s < 256) (hi : i < 8) :
    Calls Tryd.prog 103 #[.int .i64 s, .int .i64 i] w fun e w' => e = .returned (.int .i64 ((s ||| 2 ^ i : Nat) : Int)) ∧ w = w' := by
  have i0 : (0 : Int) ≤ (i : Int) := by omega
  have i8 : (i : Int) < 8 := by omega
  go_enter Tryd.func103, Tryd.ntmps103
  go_wp2
  go_ret
  exact ⟨by rw [← sets_with ⟨s, hs⟩ ⟨i, hi⟩]; rfl, rfl⟩
set_option maxHeartbeats 4000000 in
theorem leastOutside_any (s : Nat) (w : World) (hs : s < 256) :
    Calls Tryd.prog 84 #[.int .i64 s] w fun e w' => e = .returned (.int .i64 (lst s : Nat)) ∧ w = w' := by
  have HH := shade (fun i (hi : i ≤ 8) W => hasP_any s i W hs hi)
  obtain ⟨hL, hB, hE⟩ := lst_told s 8 (by omega) (by omega)
  generalize hl : lst s = L at *
  have HB := shade hB
  have HE := shade hE
  clear hB hE hl
  go_enter Tryd.func84, Tryd.ntmps84
  go_wp2
  go_loopw [3] (fun q wr => ∃ i : Nat, i ≤ L ∧ q = .int .i64 i ∧ w = wr) (fun q _ => L - (intOf q).toNat)
  case atStart => exact ⟨0, by omega, rfl, rfl⟩
  case round =>
    obtain ⟨i, hi, rfl, rfl⟩ := hrel
    by_cases hlt : i < L
    · have HC := shade (fun W => HH.out i (by omega) W)
      rw [HB.out i hlt] at HC
      go_wp2_with (first
        | (go_at_call 87; refine (HC.out _).mono ?_; rintro e w' ⟨rfl, rfl⟩)
        | go_in)
      go_roundw
      case rel => exact ⟨i + 1, by omega, by go_num, trivial⟩
      case measure => simp [intOf]; omega
    · obtain rfl : i = L := by omega
      have HC := shade (fun W => HH.out i (by omega) W)
      rw [HE.out] at HC
      go_wp2_with (first
        | (go_at_call 87; refine (HC.out _).mono ?_; rintro e w' ⟨rfl, rfl⟩)
        | go_in)
      go_ret
      exact ⟨rfl, rfl⟩
end Go.Proofs.YtfckmechiochlaaDoor
