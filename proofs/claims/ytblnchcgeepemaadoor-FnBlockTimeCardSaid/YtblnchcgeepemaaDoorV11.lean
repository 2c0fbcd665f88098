/- The longest ways to the end; plain facts. -/
import Derived.Test.YtblnchcgeepemaaDoorW960
import Derived.Test.YtblnchcgeepemaaDoorW962
namespace Go.Proofs.YtblnchcgeepemaaDoor
open Go.RowKit
/-- The heights when the last t rows are done. -/
def ht (F : Nat → Ins) (n : Nat) : Nat → Nat → Int
  | 0, i => latF F i
  | t + 1, i => if i < n - 1 - t ∧ 0 < wtR F (n - 1 - t) i then max (ht F n t i) (wtR F (n - 1 - t) i + ht F n t (n - 1 - t)) else ht F n t i
/-- The heights. -/
def hgt (F : Nat → Ins) (n i : Nat) : Int := ht F n n i
theorem ht_same {F : Nat → Ins} {n t i : Nat} (h : n - 1 - t ≤ i) : ht F n (t + 1) i = ht F n t i := by
  show (if i < n - 1 - t ∧ 0 < wtR F (n - 1 - t) i then _ else ht F n t i) = _
  rw [if_neg (fun h' => by omega)]
theorem ht_from {F : Nat → Ins} {n i : Nat} : ∀ {t d : Nat}, n - 1 - t ≤ i → ht F n (t + d) i = ht F n t i
  | t, 0, _ => rfl
  | t, d + 1, h => by
    have h1 := ht_from (F := F) (n := n) (i := i) (t := t) (d := d) h
    have h2 := ht_same (F := F) (n := n) (t := t + d) (i := i) (by omega)
    show ht F n (t + d + 1) i = _
    rw [h2, h1]
/-- A height stands as soon as all behind it are done. -/
theorem ht_done {F : Nat → Ins} {n t i : Nat} (ht' : t ≤ n) (h : n - 1 - t ≤ i) : ht F n t i = hgt F n i := by
  have := ht_from (F := F) (n := n) (i := i) (t := t) (d := n - t) h
  unfold hgt
  rw [← this, show t + (n - t) = n by omega]
theorem ht_rng (F : Nat → Ins) (n : Nat) : ∀ t i, 1 ≤ ht F n t i ∧ ht F n t i ≤ 3 * ((t : Int) + 1)
  | 0, i => by
    have := lat_rng (F i).op.toList
    show 1 ≤ lat (F i).op.toList ∧ lat (F i).op.toList ≤ _
    omega
  | t + 1, i => by
    have h1 := ht_rng F n t i
    have h2 := ht_rng F n t (n - 1 - t)
    have h3 := wtI_rng (F i) (F (n - 1 - t))
    have h4 : wtR F (n - 1 - t) i = wtI (F i) (F (n - 1 - t)) := rfl
    have he : ht F n (t + 1) i = max (ht F n t i) (wtR F (n - 1 - t) i + ht F n t (n - 1 - t)) ∨ ht F n (t + 1) i = ht F n t i := by
      show (if i < n - 1 - t ∧ 0 < wtR F (n - 1 - t) i then max (ht F n t i) (wtR F (n - 1 - t) i + ht F n t (n - 1 - t)) else ht F n t i) = _ ∨ (if i < n - 1 - t ∧ 0 < wtR F (n - 1 - t) i then max (ht F n t i) (wtR F (n - 1 - t) i + ht F n t (n - 1 - t)) else ht F n t i) = _
      split
      · exact .inl rfl
      · exact .inr rfl
    rcases he with he | he <;> rw [he] <;> omega
theorem hgt_rng (F : Nat → Ins) {n : Nat} (hn : n ≤ 6) (i : Nat) : 1 ≤ hgt F n i ∧ hgt F n i ≤ 21 := by
  have := ht_rng F n n i
  unfold hgt
  omega
theorem ht_le {F : Nat → Ins} {n : Nat} {z : Int} {i : Nat} : ∀ {t : Nat}, t ≤ n → (ht F n t i ≤ z ↔ (latF F i ≤ z ∧ ∀ k, k < n → n ≤ k + t → i < k → 0 < wtR F k i → wtR F k i + hgt F n k ≤ z))
  | 0, _ => ⟨fun h => ⟨h, fun k h1 h2 => by omega⟩, fun h => h.1⟩
  | t + 1, h => by
    have ih := ht_le (F := F) (n := n) (z := z) (i := i) (t := t) (by omega)
    have hk : ht F n t (n - 1 - t) = hgt F n (n - 1 - t) := ht_done (by omega) (Nat.le_refl _)
    show (if i < n - 1 - t ∧ 0 < wtR F (n - 1 - t) i then max (ht F n t i) (wtR F (n - 1 - t) i + ht F n t (n - 1 - t)) else ht F n t i) ≤ z ↔ _
    by_cases hc : i < n - 1 - t ∧ 0 < wtR F (n - 1 - t) i
    · rw [if_pos hc, hk]
      constructor
      · intro h'
        obtain ⟨h1, h2⟩ := ih.1 (by omega)
        refine ⟨h1, fun k k1 k2 k3 k4 => ?_⟩
        by_cases e : k = n - 1 - t
        · rw [e]
          omega
        · exact h2 k k1 (by omega) k3 k4
      · rintro ⟨h1, h2⟩
        have h3 := ih.2 ⟨h1, fun k k1 k2 => h2 k k1 (by omega)⟩
        have h4 := h2 (n - 1 - t) (by omega) (by omega) hc.1 hc.2
        omega
    · rw [if_neg hc]
      constructor
      · intro h'
        obtain ⟨h1, h2⟩ := ih.1 h'
        refine ⟨h1, fun k k1 k2 k3 k4 => ?_⟩
        by_cases e : k = n - 1 - t
        · rw [e] at k3 k4
          exact absurd ⟨k3, k4⟩ hc
        · exact h2 k k1 (by omega) k3 k4
      · rintro ⟨h1, h2⟩
        exact ih.2 ⟨h1, fun k k1 k2 => h2 k k1 (by omega)⟩
theorem hgt_le {F : Nat → Ins} {n : Nat} {z : Int} {i : Nat} : hgt F n i ≤ z ↔ (latF F i ≤ z ∧ ∀ k, k < n → i < k → 0 < wtR F k i → wtR F k i + hgt F n k ≤ z) := by
  unfold hgt
  rw [ht_le (Nat.le_refl n)]
  exact ⟨fun h => ⟨h.1, fun k k1 k2 k3 => h.2 k k1 (by omega) k2 k3⟩, fun h => ⟨h.1, fun k k1 _ k2 k3 => h.2 k k1 k2 k3⟩⟩
/-- The model's way: from the next one on. -/
theorem hgt_spec {F : Nat → Ins} {n i : Nat} (hi : i < n) : sx (latF F i) (fun j => wtR F (i + 1 + j) i) (fun j => hgt F n (i + 1 + j)) (n - 1 - i) = hgt F n i := by
  have h1 : sx (latF F i) (fun j => wtR F (i + 1 + j) i) (fun j => hgt F n (i + 1 + j)) (n - 1 - i) ≤ hgt F n i := by
    have h := hgt_le.1 (Int.le_refl (hgt F n i))
    refine sx_le.2 ⟨h.1, fun j hj hw => ?_⟩
    have := h.2 (i + 1 + j) (by omega) (by omega) hw
    show hgt F n (i + 1 + j) + wtR F (i + 1 + j) i ≤ _
    omega
  have h2 : hgt F n i ≤ sx (latF F i) (fun j => wtR F (i + 1 + j) i) (fun j => hgt F n (i + 1 + j)) (n - 1 - i) := by
    have h := sx_le.1 (Int.le_refl (sx (latF F i) (fun j => wtR F (i + 1 + j) i) (fun j => hgt F n (i + 1 + j)) (n - 1 - i)))
    refine hgt_le.2 ⟨h.1, fun k k1 k2 k3 => ?_⟩
    have := h.2 (k - i - 1) (by omega) (by rw [show i + 1 + (k - i - 1) = k by omega]; exact k3)
    rw [show i + 1 + (k - i - 1) = k by omega] at this
    omega
  omega
end Go.Proofs.YtblnchcgeepemaaDoor
