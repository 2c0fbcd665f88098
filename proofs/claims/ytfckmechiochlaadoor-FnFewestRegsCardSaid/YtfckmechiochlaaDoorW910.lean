/- Registers that are tried: plain facts. -/
import Derived.Test.YtfckmechiochlaaDoorW870
namespace Go.Proofs.YtfckmechiochlaaDoor
open Go.RowKit
set_option linter.unusedSimpArgs false
/-- Are two needed at once in one of the first rows? -/
def clB (R : Nat → Nat) (a b : Nat) : Nat → Bool
  | 0 => false
  | n + 1 => clB R a b n || ((R n).testBit a && (R n).testBit b)
theorem clB_iff {R : Nat → Nat} {a b : Nat} : ∀ {n : Nat}, clB R a b n = true ↔ ∃ i, i < n ∧ (R i).testBit a = true ∧ (R i).testBit b = true
  | 0 => by simp [clB]
  | n + 1 => by
    simp only [clB, Bool.or_eq_true, Bool.and_eq_true, clB_iff (n := n)]
    constructor
    · rintro (⟨i, h1, h2⟩ | h)
      · exact ⟨i, by omega, h2⟩
      · exact ⟨n, by omega, h⟩
    · rintro ⟨i, h1, h2⟩
      by_cases e : i = n
      · subst e
        exact .inr h2
      · exact .inl ⟨i, by omega, h2⟩
/-- The first i registers, below m, different where two are needed at once. -/
def PCol (R : Nat → Nat) (n m : Nat) (p : Nat → Nat) (i : Nat) : Prop := (∀ k, k < i → p k < m) ∧ ∀ a b, a < b → b < i → clB R a b n = true → p a ≠ p b
/-- A register that may be the next one's. -/
def okR (R : Nat → Nat) (n : Nat) (p : Nat → Nat) (i r : Nat) : Prop := ∀ k, k < i → clB R k i n = true → p k ≠ r
/-- What is answered when the first i have registers. -/
def Ans (R : Nat → Nat) (n m : Nat) (p : Nat → Nat) (i : Nat) (b : Bool) : Prop :=
  (b = true → PCol R n m p i → ∃ q, Col R n m q) ∧ ((∀ k, k < i → p k = pl R k) → wd R n ≤ m → b = true)
/-- One more register. -/
def more (p : Nat → Nat) (i r : Nat) : Nat → Nat := fun k => if k = i then r else p k
theorem more_at (p : Nat → Nat) (i r : Nat) : more p i r i = r := if_pos rfl
theorem more_low (p : Nat → Nat) (i r k : Nat) (h : k < i) : more p i r k = p k := if_neg (by omega)
theorem PCol.nil (R : Nat → Nat) (n m : Nat) (p : Nat → Nat) : PCol R n m p 0 := ⟨fun k h => absurd h (by omega), fun a b _ h => absurd h (by omega)⟩
theorem PCol.more {R : Nat → Nat} {n m i r : Nat} {p : Nat → Nat} (h : PCol R n m p i) (hr : r < m) (hk : okR R n p i r) : PCol R n m (more p i r) (i + 1) := by
  refine ⟨fun k hk2 => ?_, fun a b hab hb hc => ?_⟩
  · by_cases e : k = i
    · rw [e, more_at]
      exact hr
    · rw [more_low _ _ _ _ (by omega)]
      exact h.1 k (by omega)
  · by_cases e : b = i
    · subst e
      rw [more_at, more_low _ _ _ _ hab]
      exact hk a hab hc
    · rw [more_low _ _ _ _ (by omega), more_low _ _ _ _ (by omega)]
      exact h.2 a b hab (by omega) hc
theorem PCol.col {R : Nat → Nat} {n m : Nat} {p : Nat → Nat} (hv : IV R n) (h : PCol R n m p n) : Col R n m p :=
  ⟨h.1, fun i a b hi hab ha hb => h.2 a b hab (by have := hv.le hi hb; omega) (clB_iff.2 ⟨i, hi, ha, hb⟩)⟩
theorem Ans.full {R : Nat → Nat} {n m : Nat} {p : Nat → Nat} (hv : IV R n) : Ans R n m p n true := ⟨fun _ h => ⟨p, h.col hv⟩, fun _ _ => rfl⟩
theorem Ans.next {R : Nat → Nat} {n m i r : Nat} {p : Nat → Nat} (hr : r < m) (hk : okR R n p i r) (h : Ans R n m (more p i r) (i + 1) true) : Ans R n m p i true :=
  ⟨fun _ h1 => h.1 rfl (h1.more hr hk), fun _ _ => rfl⟩
/-- No register below the least one may be the next one's, and each is another's. -/
theorem pl_no {R : Nat → Nat} {n i r : Nat} (hv : IV R n) (hi : i < n) (hr : r < pl R i) : ¬ okR R n (pl R) i r ∧ ∃ k, k < i ∧ pl R k = r := by
  have hn := hv.n8
  have hu : usd (R i) (pl R) i < 2 ^ 8 := usd_lt _ _ 8 i (fun j hj => by
    have := pl_le R (j + 1) j (by omega) (by omega)
    omega)
  have h2 := (lst_told _ 8 (Nat.le_refl _) hu).2.1
  rw [pl_eq] at hr
  have h3 := h2 r hr
  obtain ⟨j, h4, h5, h6⟩ := (usd_bit (R i) (pl R) r i).1 h3
  exact ⟨fun h => h j h4 (clB_iff.2 ⟨i, hi, h5, hv.own i hi⟩) h6, j, h4, h6⟩
theorem pl_ok {R : Nat → Nat} {n i : Nat} (hv : IV R n) (_hi : i < n) : okR R n (pl R) i (pl R i) := by
  intro k hk hc
  obtain ⟨j, hj, h1, h2⟩ := clB_iff.1 hc
  exact (pl_col hv).ne j k i hj hk h1 h2
theorem pl_m {R : Nat → Nat} {n i m : Nat} (hv : IV R n) (hi : i < n) (hm : wd R n ≤ m) : pl R i < m := Nat.lt_of_lt_of_le ((pl_col hv).low i hi) hm
theorem okR_congr {R : Nat → Nat} {n i r : Nat} {p q : Nat → Nat} (h : ∀ k, k < i → p k = q k) (hk : okR R n p i r) : okR R n q i r := fun k hki hc => by
  rw [← h k hki]
  exact hk k hki hc
/-- How far the trials of the next one have come without an answer. -/
def Tried (R : Nat → Nat) (n m : Nat) (p : Nat → Nat) (i r : Nat) : Prop := (∀ k, k < i → p k = pl R k) → wd R n ≤ m → r ≤ pl R i
theorem Tried.zero (R : Nat → Nat) (n m : Nat) (p : Nat → Nat) (i : Nat) : Tried R n m p i 0 := fun _ _ => Nat.zero_le _
theorem Tried.skip {R : Nat → Nat} {n m i r : Nat} {p : Nat → Nat} (hv : IV R n) (hi : i < n) (h : Tried R n m p i r) (hk : ¬ okR R n p i r) : Tried R n m p i (r + 1) := fun hp hm => by
  have h1 := h hp hm
  by_cases e : r = pl R i
  · exfalso
    refine hk ?_
    rw [e]
    exact okR_congr (fun k hk => (hp k hk).symm) (pl_ok hv hi)
  · omega
theorem Tried.no {R : Nat → Nat} {n m i r : Nat} {p : Nat → Nat} (h : Tried R n m p i r) (h2 : Ans R n m (more p i r) (i + 1) false) : Tried R n m p i (r + 1) := fun hp hm => by
  have h1 := h hp hm
  by_cases e : r = pl R i
  · exfalso
    have := h2.2 (fun k hk => by
      by_cases e2 : k = i
      · rw [e2, more_at, e]
      · rw [more_low _ _ _ _ (by omega)]
        exact hp k (by omega)) hm
    cases this
  · omega
theorem Tried.end {R : Nat → Nat} {n m i : Nat} {p : Nat → Nat} (hv : IV R n) (hi : i < n) (h : Tried R n m p i m) : Ans R n m p i false :=
  ⟨(fun h => by cases h), fun hp hm => by
    have h1 := h hp hm
    have h2 := pl_m hv hi hm
    omega⟩
/-- A register that no one has is none of those below the next one's least register. -/
theorem Tried.fresh {R : Nat → Nat} {n m i r : Nat} {p : Nat → Nat} (hv : IV R n) (hi : i < n) (h : Tried R n m p i (r + 1)) (hf : ∀ k, k < i → p k ≠ r) : Ans R n m p i false :=
  ⟨(fun h => by cases h), fun hp hm => by
    have h1 := h hp hm
    obtain ⟨-, k, h2, h3⟩ := pl_no hv hi (show r < pl R i by omega)
    exact absurd ((hp k h2).trans h3) (hf k h2)⟩
/-- What is found is how many are needed at once. -/
theorem found {R : Nat → Nat} {n m : Nat} {p : Nat → Nat} (hv : IV R n) (hle : m ≤ wd R n) (h : Ans R n m p 0 true) : wd R n = m := by
  obtain ⟨q, hq⟩ := h.1 rfl (PCol.nil R n m p)
  have := col_wd hv hq
  omega
theorem not_found {R : Nat → Nat} {n m : Nat} {p : Nat → Nat} (hle : m ≤ wd R n) (h : Ans R n m p 0 false) : m + 1 ≤ wd R n := by
  by_cases e : m = wd R n
  · have := h.2 (fun k hk => absurd hk (by omega)) (by omega)
    cases this
  · omega
end Go.Proofs.YtfckmechiochlaaDoor
