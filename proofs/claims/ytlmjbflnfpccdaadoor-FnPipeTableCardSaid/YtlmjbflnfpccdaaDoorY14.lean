/- What laws on pipes stand on: plain facts; rows compared. -/
import Derived.Test.YtlmjbflnfpccdaaDoorG112
import Derived.Test.YtlmjbflnfpccdaaDoorG33
namespace Go.Proofs.YtlmjbflnfpccdaaDoor
open Go.RowKit
theorem equalInts_row (lo1 hi1 lo2 hi2 K : Nat) (v1 v2 : Value) (f : Nat → Int) (w : World) (hK : K ≤ 300) (h1 : RowO w lo1 hi1 3 v1 K (numL K f)) (h2 : RowO w lo2 hi2 3 v2 K (numL K f)) :
    Calls Tryd.prog 33 #[v1, v2] w fun e w' => e = .returned (.bool true) ∧ w.grownBy w' none := by
  obtain ⟨A1, c1, rfl, hn1⟩ := h1.nums
  obtain ⟨A2, c2, rfl, hn2⟩ := h2.nums
  refine (equalInts_any A1 A2 c1 c2 K f f w (by omega) hn1 hn2 (fun _ _ => rfl)).mono ?_
  rintro e w' ⟨rfl, m, rfl⟩
  exact ⟨rfl, grown_drewN (grown_refl _ _) _⟩
/-- A tick for each one, and those of jumps. -/
theorem pk_low (F : Nat → Ins) (J : Nat → Bool) (fw : Bool) : ∀ k : Nat, 2 + (k : Int) + bub J k ≤ pk F J fw k
  | 0 => by
    have h := (pk_rng F J fw 0).1
    show 2 + ((0 : Nat) : Int) + 0 ≤ _
    omega
  | k + 1 => by
    have h1 := pk_low F J fw k
    have h2 := pk_up F J fw (k + 1)
    have h3 : st J (pk F J fw) (k + 1) = pk F J fw k + 1 + (if J k = true then 2 else 0) := if_neg (by omega)
    have h4 : bub J (k + 1) = bub J k + (if J k = true then 2 else 0) := rfl
    rw [h3] at h2
    omega
theorem pk_asc (F : Nat → Ins) (J : Nat → Bool) (fw : Bool) (k : Nat) : pk F J fw k + 1 + (if J k = true then 2 else 0) ≤ pk F J fw (k + 1) := by
  have h2 := pk_up F J fw (k + 1)
  have h3 : st J (pk F J fw) (k + 1) = pk F J fw k + 1 + (if J k = true then 2 else 0) := if_neg (by omega)
  rw [h3] at h2
  exact h2
theorem sx_le2 {a a' : Int} {w w' g g' : Nat → Int} : ∀ {n : Nat}, a ≤ a' → (∀ i, i < n → g i ≤ g' i ∧ w i ≤ w' i) → sx a w g n ≤ sx a' w' g' n := by
  intro n ha h
  obtain ⟨h1, h2⟩ := sx_le.1 (Int.le_refl (sx a' w' g' n))
  refine sx_le.2 ⟨by omega, fun i hi hw => ?_⟩
  obtain ⟨h3, h4⟩ := h i hi
  have h5 := h2 i hi (by omega)
  omega
theorem gp_fast (a b : Ins) (fw : Bool) : gpI a b true ≤ gpI a b fw := by
  cases fw
  · unfold gpI lg
    repeat' split
    all_goals first | omega | contradiction | simp_all
  · exact Int.le_refl _
theorem wg_fast (F : Nat → Ins) (fw : Bool) (k i : Nat) : wg F true k i ≤ wg F fw k i := by
  unfold wg
  split
  · exact gp_fast _ _ _
  · exact Int.le_refl _
/-- With forward nothing is later. -/
theorem pk_fast (F : Nat → Ins) (J : Nat → Bool) (fw : Bool) : ∀ (m k : Nat), k < m → pk F J true k ≤ pk F J fw k
  | 0, k, h => absurd h (Nat.not_lt_zero k)
  | m + 1, k, h => by
    rw [← pk_eq F J true k, ← pk_eq F J fw k]
    refine sx_le2 ?_ fun i hi => ⟨?_, wg_fast F fw k _⟩
    · unfold st
      by_cases e : k = 0
      · rw [if_pos e, if_pos e]
        exact Int.le_refl _
      · rw [if_neg e, if_neg e]
        have := pk_fast F J fw m (k - 1) (by omega)
        omega
    · exact pk_fast F J fw m _ (by omega)
theorem ptm_fast (n : Nat) (F : Nat → Ins) (J : Nat → Bool) (fw : Bool) : ptm n (pk F J true) ≤ ptm n (pk F J fw) := by
  unfold ptm
  split
  · exact Int.le_refl _
  · have := pk_fast F J fw (n - 1 + 1) (n - 1) (by omega)
    omega
theorem ptm_less (q : Nat) (F : Nat → Ins) (J : Nat → Bool) (fw : Bool) : ptm q (pk F J fw) < ptm (q + 1) (pk F J fw) ∧ (q : Int) + 5 ≤ ptm (q + 1) (pk F J fw) := by
  have h1 := pk_low F J fw q
  have h2 := (bub_rng J q).1
  have h3 : ptm (q + 1) (pk F J fw) = pk F J fw q + 3 := if_neg (by omega)
  rw [h3]
  refine ⟨?_, by omega⟩
  unfold ptm
  split
  · omega
  · have h4 := pk_asc F J fw (q - 1)
    rw [show q - 1 + 1 = q by omega] at h4
    have : (0 : Int) ≤ (if J (q - 1) = true then 2 else 0) := by split <;> omega
    omega
theorem vpB_init {q : Nat} {F : Nat → Ins} (h : vpB (q + 1) F (q + 1) = true) : vpB q F q = true := by
  simp only [vpB, Bool.and_eq_true, decide_eq_true_eq] at h ⊢
  obtain ⟨h1, h2, -⟩ := h
  exact ⟨allP_iff.2 fun j hj => allP_iff.1 h1 j (by omega), by omega, trivial⟩
theorem Code.init {W : World} {A : Option Addr} {q : Nat} {F : Nat → Ins} (h : Code W A (q + 1) F) : Code W A q F := by
  obtain ⟨b, off, e, hb, hc⟩ := h.resolve_left (by omega)
  exact .inr ⟨b, off, e, hb, fun j i hj hi => hc j i (by omega) hi⟩
theorem Bols.init {W : World} {A : Option Addr} {q : Nat} {f : Nat → Bool} (h : Bols W A (q + 1) f) : Bols W A q f := by
  obtain ⟨b, off, e, hb, hc⟩ := h.resolve_left (by omega)
  exact .inr ⟨b, off, e, hb, fun j hj => hc j (by omega)⟩
end Go.Proofs.YtlmjbflnfpccdaaDoor
