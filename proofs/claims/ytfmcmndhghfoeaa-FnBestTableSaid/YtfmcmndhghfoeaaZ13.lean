/- What went before, and its counters: how they lie in memory. -/
import Derived.Test.YtfmcmndhghfoeaaZ12
namespace Go.Proofs.Ytfmcmndhghfoeaa
open Go.RowKit
/-- The cells of a way and its sixteen counters. -/
def lbA (s y : Int) (T G : Nat → Int) : Array Value := #[.int .i64 s, .int .i64 y, .int .i64 (T 0), .int .i64 (G 0), .int .i64 (T 1), .int .i64 (G 1), .int .i64 (T 2), .int .i64 (G 2), .int .i64 (T 3), .int .i64 (G 3), .int .i64 (T 4), .int .i64 (G 4), .int .i64 (T 5), .int .i64 (G 5), .int .i64 (T 6), .int .i64 (G 6), .int .i64 (T 7), .int .i64 (G 7), .int .i64 (T 8), .int .i64 (G 8), .int .i64 (T 9), .int .i64 (G 9), .int .i64 (T 10), .int .i64 (G 10), .int .i64 (T 11), .int .i64 (G 11), .int .i64 (T 12), .int .i64 (G 12), .int .i64 (T 13), .int .i64 (G 13), .int .i64 (T 14), .int .i64 (G 14), .int .i64 (T 15), .int .i64 (G 15)]
/-- One in place of another. -/
def up (T : Nat → Int) (i : Nat) (x : Int) : Nat → Int := fun j => if j = i then x else T j
theorem lbA_at (s y : Int) (T G : Nat → Int) (i : Nat) (h : i < 16) : (lbA s y T G)[2 + i * 2]? = some (.int .i64 (T i)) ∧ (lbA s y T G)[2 + i * 2 + 1]? = some (.int .i64 (G i)) := by
  match i, h with
  | 0, _ => exact ⟨rfl, rfl⟩
  | 1, _ => exact ⟨rfl, rfl⟩
  | 2, _ => exact ⟨rfl, rfl⟩
  | 3, _ => exact ⟨rfl, rfl⟩
  | 4, _ => exact ⟨rfl, rfl⟩
  | 5, _ => exact ⟨rfl, rfl⟩
  | 6, _ => exact ⟨rfl, rfl⟩
  | 7, _ => exact ⟨rfl, rfl⟩
  | 8, _ => exact ⟨rfl, rfl⟩
  | 9, _ => exact ⟨rfl, rfl⟩
  | 10, _ => exact ⟨rfl, rfl⟩
  | 11, _ => exact ⟨rfl, rfl⟩
  | 12, _ => exact ⟨rfl, rfl⟩
  | 13, _ => exact ⟨rfl, rfl⟩
  | 14, _ => exact ⟨rfl, rfl⟩
  | 15, _ => exact ⟨rfl, rfl⟩
  | n + 16, h => exact absurd h (by omega)
theorem lbA_put (s y : Int) (T G : Nat → Int) (i : Nat) (x : Int) (h : i < 16) : (lbA s y T G).setIfInBounds (2 + i * 2) (.int .i64 x) = lbA s y (up T i x) G := by
  match i, h with
  | 0, _ => rfl
  | 1, _ => rfl
  | 2, _ => rfl
  | 3, _ => rfl
  | 4, _ => rfl
  | 5, _ => rfl
  | 6, _ => rfl
  | 7, _ => rfl
  | 8, _ => rfl
  | 9, _ => rfl
  | 10, _ => rfl
  | 11, _ => rfl
  | 12, _ => rfl
  | 13, _ => rfl
  | 14, _ => rfl
  | 15, _ => rfl
  | n + 16, h => exact absurd h (by omega)
theorem lbA_put1 (s y : Int) (T G : Nat → Int) (i : Nat) (x : Int) (h : i < 16) : (lbA s y T G).setIfInBounds (2 + i * 2 + 1) (.int .i64 x) = lbA s y T (up G i x) := by
  match i, h with
  | 0, _ => rfl
  | 1, _ => rfl
  | 2, _ => rfl
  | 3, _ => rfl
  | 4, _ => rfl
  | 5, _ => rfl
  | 6, _ => rfl
  | 7, _ => rfl
  | 8, _ => rfl
  | 9, _ => rfl
  | 10, _ => rfl
  | 11, _ => rfl
  | 12, _ => rfl
  | 13, _ => rfl
  | 14, _ => rfl
  | 15, _ => rfl
  | n + 16, h => exact absurd h (by omega)
theorem lbA_way (s y z : Int) (T G : Nat → Int) : (lbA s y T G).setIfInBounds 1 (.int .i64 z) = lbA s z T G := rfl
theorem lbA_congr (s y : Int) {T T' G G' : Nat → Int} (h : ∀ i, i < 16 → T i = T' i) (h' : ∀ i, i < 16 → G i = G' i) : lbA s y T G = lbA s y T' G' := by
  unfold lbA
  rw [h 0 (by omega), h' 0 (by omega), h 1 (by omega), h' 1 (by omega), h 2 (by omega), h' 2 (by omega), h 3 (by omega), h' 3 (by omega), h 4 (by omega), h' 4 (by omega), h 5 (by omega), h' 5 (by omega), h 6 (by omega), h' 6 (by omega), h 7 (by omega), h' 7 (by omega), h 8 (by omega), h' 8 (by omega), h 9 (by omega), h' 9 (by omega), h 10 (by omega), h' 10 (by omega), h 11 (by omega), h' 11 (by omega), h 12 (by omega), h' 12 (by omega), h 13 (by omega), h' 13 (by omega), h 14 (by omega), h' 14 (by omega), h 15 (by omega), h' 15 (by omega)]
end Go.Proofs.Ytfmcmndhghfoeaa
