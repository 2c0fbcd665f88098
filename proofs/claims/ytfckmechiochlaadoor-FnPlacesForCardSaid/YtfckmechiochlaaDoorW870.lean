/- Registers for numbers that are needed at once: as many as are needed at once are enough, and no fewer; plain facts. -/
import Derived.Test.YtfckmechiochlaaDoorW851
import Derived.Test.YtfckmechiochlaaDoorW860
namespace Go.Proofs.YtfckmechiochlaaDoor
open Go.RowKit
set_option linter.unusedSimpArgs false
/-- Rows of numbers that are needed from where they are made up to an end. -/
structure IV (R : Nat → Nat) (n : Nat) : Prop where
  n8 : n ≤ 8
  low : ∀ i, i < n → R i < 2 ^ (i + 1)
  own : ∀ i, i < n → (R i).testBit i = true
  int : ∀ k j i, k ≤ j → j ≤ i → i < n → (R i).testBit k = true → (R j).testBit k = true
/-- Registers below m, different where two are needed at once. -/
structure Col (R : Nat → Nat) (n m : Nat) (p : Nat → Nat) : Prop where
  low : ∀ k, k < n → p k < m
  ne : ∀ i a b, i < n → a < b → (R i).testBit a = true → (R i).testBit b = true → p a ≠ p b
theorem IV.lt8 {R : Nat → Nat} {n : Nat} (h : IV R n) (i : Nat) (hi : i < n) : R i < 256 := lt256 (h.low i hi) (by have := h.n8; omega)
theorem IV.le {R : Nat → Nat} {n : Nat} (h : IV R n) {i k : Nat} (hi : i < n) (hk : (R i).testBit k = true) : k ≤ i := by
  have := h.low i hi
  by_cases e : k ≤ i
  · exact e
  · rw [bit_high this (by omega)] at hk
    cases hk
theorem rows_iv {F : Nat → Wid} {x n : Nat} (hn : n ≤ 8) (hv : ∀ j, j < n → okW j (F j) = true) (hx : x < 2 ^ n) : IV (rowW F x n) n := by
  have hone : ∀ k i, k ≤ i → i + 1 < n → (rowW F x n (i + 1)).testBit k = true → (rowW F x n i).testBit k = true := fun k i hki hi hb => by
    unfold rowW at hb ⊢
    rw [Nat.testBit_or, Nat.testBit_two_pow] at hb
    have hb2 : (lvl F x n (n - 1 - (i + 1))).testBit k = true := by
      rw [Bool.or_eq_true] at hb
      rcases hb with h | h
      · exact h
      · rw [decide_eq_true_iff] at h
        omega
    have hs := lvl_step F x n (i + 1) hi
    rw [show n - (i + 1) = n - 1 - i by omega] at hs
    rw [hs, Nat.testBit_or, Nat.testBit_or, Nat.testBit_mod_two_pow, hb2]
    have : k < i + 1 := by omega
    simp [this]
  refine ⟨hn, fun i hi => rowW_lt hv hx i hi, fun i hi => ?_, fun k j i hkj hji hi hb => ?_⟩
  · unfold rowW
    rw [Nat.testBit_or, Nat.testBit_two_pow]
    simp
  · have : ∀ d, d ≤ i - j → (rowW F x n (i - d)).testBit k = true := by
      intro d
      induction d with
      | zero => exact fun _ => hb
      | succ d ih =>
        intro hd
        have h1 := ih (by omega)
        have h2 := hone k (i - (d + 1)) (by omega) (by omega)
        rw [show i - (d + 1) + 1 = i - d by omega] at h2
        exact h2 h1
    have h1 := this (i - j) (Nat.le_refl _)
    rwa [show i - (i - j) = j by omega] at h1
theorem popc_or : ∀ u : Fin 256, ∀ t : Fin 8, popc (u.val ||| 2 ^ t.val) = if u.val.testBit t.val then popc u.val else popc u.val + 1 := by decide +kernel
theorem popc_mod : ∀ r : Fin 256, ∀ k : Fin 8, popc (r.val % 2 ^ (k.val + 1)) = popc (r.val % 2 ^ k.val) + if r.val.testBit k.val then 1 else 0 := by decide +kernel
theorem lst_popc : ∀ u : Fin 256, lst u.val ≤ popc u.val := by decide +kernel
theorem popc_pow : ∀ m : Fin 9, ∀ u : Fin 256, u.val < 2 ^ m.val → popc u.val ≤ m.val := by decide +kernel
theorem usd_le (r : Nat) (p : Nat → Nat) (hr : r < 256) : ∀ k, k ≤ 8 → (∀ j, j < k → p j < 8) → popc (usd r p k) ≤ popc (r % 2 ^ k)
  | 0, _, _ => by
    show popc 0 ≤ _
    exact Nat.zero_le _
  | k + 1, hk, hp => by
    have ih := usd_le r p hr k (by omega) (fun j hj => hp j (by omega))
    have h1 := popc_mod ⟨r, hr⟩ ⟨k, by omega⟩
    simp only [] at h1
    have hu := lt256 (usd_lt r p 8 k (fun j hj => hp j (by omega))) (by omega)
    have h2 := popc_or ⟨usd r p k, hu⟩ ⟨p k, hp k (by omega)⟩
    simp only [] at h2
    simp only [usd]
    by_cases hb : r.testBit k = true
    · rw [if_pos hb, h2]
      rw [if_pos hb] at h1
      split <;> omega
    · rw [if_neg hb]
      rw [if_neg hb] at h1
      omega
theorem usd_eq (r : Nat) (p : Nat → Nat) (hr : r < 256) : ∀ k, k ≤ 8 → (∀ j, j < k → r.testBit j = true → p j < 8) → (∀ a b, a < b → b < k → r.testBit a = true → r.testBit b = true → p a ≠ p b) → popc (usd r p k) = popc (r % 2 ^ k) ∧ usd r p k < 2 ^ 8
  | 0, _, _, _ => by
    rw [Nat.pow_zero, Nat.mod_one]
    exact ⟨rfl, Nat.two_pow_pos _⟩
  | k + 1, hk, hp, hne => by
    obtain ⟨ih, hu⟩ := usd_eq r p hr k (by omega) (fun j hj => hp j (by omega)) (fun a b h1 h2 => hne a b h1 (by omega))
    have h1 := popc_mod ⟨r, hr⟩ ⟨k, by omega⟩
    simp only [] at h1
    simp only [usd]
    by_cases hb : r.testBit k = true
    · have hpk := hp k (by omega) hb
      have h2 := popc_or ⟨usd r p k, hu⟩ ⟨p k, hpk⟩
      simp only [] at h2
      have hno : ¬ (usd r p k).testBit (p k) = true := by
        rw [usd_bit]
        rintro ⟨j, h3, h4, h5⟩
        exact hne j k h3 (by omega) h4 hb h5
      rw [if_neg hno] at h2
      rw [if_pos hb, h2]
      rw [if_pos hb] at h1
      exact ⟨by omega, Nat.or_lt_two_pow hu (pow_lt hpk)⟩
    · rw [if_neg hb]
      rw [if_neg hb] at h1
      exact ⟨by omega, hu⟩
/-- The least registers are below how many are needed at once. -/
theorem pl_lt {R : Nat → Nat} {n : Nat} (h : IV R n) (i : Nat) (hi : i < n) : pl R i < popc (R i) := by
  have hn := h.n8
  have h8 := h.lt8 i hi
  have hp : ∀ j, j < i → pl R j < 8 := fun j hj => by
    have := pl_le R (j + 1) j (by omega) (by omega)
    omega
  have h1 := usd_le (R i) (pl R) h8 i (by omega) hp
  have hu := lt256 (usd_lt (R i) (pl R) 8 i hp) (by omega)
  have h2 := lst_popc ⟨usd (R i) (pl R) i, hu⟩
  simp only [] at h2
  have h3 := popc_mod ⟨R i, h8⟩ ⟨i, by omega⟩
  simp only [] at h3
  rw [h.own i hi, if_pos rfl, Nat.mod_eq_of_lt (h.low i hi)] at h3
  rw [pl_eq]
  omega
theorem pl_col {R : Nat → Nat} {n : Nat} (h : IV R n) : Col R n (wd R n) (pl R) := by
  have hn := h.n8
  refine ⟨fun k hk => Nat.lt_of_lt_of_le (pl_lt h k hk) (wd_ge R n k hk), fun i a b hi hab ha hb e => ?_⟩
  have hbi := h.le hi hb
  have hba := h.int a b i (by omega) hbi hi ha
  have hu : usd (R b) (pl R) b < 2 ^ 8 := usd_lt _ _ 8 b (fun j hj => by
    have := pl_le R (j + 1) j (by omega) (by omega)
    omega)
  have h2 := (lst_told _ 8 (Nat.le_refl _) hu).2.2
  rw [← pl_eq] at h2
  have h3 := (usd_bit (R b) (pl R) (pl R b) b).2 ⟨a, hab, hba, e⟩
  rw [h3] at h2
  cases h2
/-- No fewer are enough. -/
theorem col_wd {R : Nat → Nat} {n m : Nat} {p : Nat → Nat} (h : IV R n) (hc : Col R n m p) : wd R n ≤ m := by
  have hn := h.n8
  have hi : ∀ i, i < n → popc (R i) ≤ m := fun i hi => by
    by_cases hm : 8 ≤ m
    · have := popc_le (R i)
      omega
    · have h8 := h.lt8 i hi
      obtain ⟨h1, h2⟩ := usd_eq (R i) p h8 (i + 1) (by omega) (fun j hj hb => by
        have := hc.low j (by omega)
        omega) (fun a b hab hb ha hbb => hc.ne i a b hi hab ha hbb)
      rw [Nat.mod_eq_of_lt (h.low i hi)] at h1
      have h3 := usd_lt (R i) p m (i + 1) (fun j hj => hc.low j (by omega))
      have h4 := popc_pow ⟨m, by omega⟩ ⟨usd (R i) p (i + 1), h2⟩ h3
      simp only [] at h4
      omega
  have : ∀ k, k ≤ n → wd R k ≤ m := by
    intro k
    induction k with
    | zero => exact fun _ => Nat.zero_le _
    | succ k ih =>
      intro hk
      have h1 := ih (by omega)
      have h2 := hi k (by omega)
      simp only [wd]
      omega
  exact this n (Nat.le_refl _)
end Go.Proofs.YtfckmechiochlaaDoor
