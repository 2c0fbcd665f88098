/- When the instructions of an order begin; plain facts. -/
import Derived.Test.YtlmjbflnfpccdaaDoorG950
namespace Go.Proofs.YtlmjbflnfpccdaaDoor
/-- The greatest of a number and the first n of a row. -/
def mx (a : Int) (g : Nat → Int) : Nat → Int
  | 0 => a
  | n + 1 => max (mx a g n) (g n)
theorem mx_le {a z : Int} {g : Nat → Int} : ∀ {n : Nat}, mx a g n ≤ z ↔ (a ≤ z ∧ ∀ i, i < n → g i ≤ z)
  | 0 => ⟨fun h => ⟨h, fun i hi => absurd hi (Nat.not_lt_zero i)⟩, fun h => h.1⟩
  | n + 1 => by
    show max (mx a g n) (g n) ≤ z ↔ _
    constructor
    · intro h
      have h1 : mx a g n ≤ z := by omega
      obtain ⟨h2, h3⟩ := mx_le.1 h1
      exact ⟨h2, fun i hi => by
        by_cases e : i = n
        · rw [e]; omega
        · exact h3 i (by omega)⟩
    · rintro ⟨h1, h2⟩
      have h3 : mx a g n ≤ z := mx_le.2 ⟨h1, fun i hi => h2 i (by omega)⟩
      have h4 := h2 n (by omega)
      omega
theorem mx_ge (a : Int) (g : Nat → Int) (n : Nat) : a ≤ mx a g n ∧ ∀ i, i < n → g i ≤ mx a g n := mx_le.1 (Int.le_refl _)
theorem mx_congr {a : Int} {g g' : Nat → Int} {n : Nat} (h : ∀ i, i < n → g i = g' i) : mx a g n = mx a g' n := by
  have h1 := mx_ge a g n
  have h2 := mx_ge a g' n
  have h3 : mx a g n ≤ mx a g' n := mx_le.2 ⟨h2.1, fun i hi => by rw [h i hi]; exact h2.2 i hi⟩
  have h4 : mx a g' n ≤ mx a g n := mx_le.2 ⟨h1.1, fun i hi => by rw [← h i hi]; exact h1.2 i hi⟩
  omega
/-- How long the instruction i waits for j, which is ahead of it in an order. -/
def wI (F : Nat → Ins) (i j : Nat) : Int := if j < i then max 1 (wtI (F j) (F i)) else 1
theorem wI_rng (F : Nat → Ins) (i j : Nat) : 1 ≤ wI F i j ∧ wI F i j ≤ 3 := by
  have := wtI_rng (F j) (F i)
  unfold wI
  split <;> omega
/-- The first k beginnings. -/
def bgF (F : Nat → Ins) (o : Nat → Nat) : Nat → Nat → Int
  | 0 => fun _ => 0
  | k + 1 => fun j => if j = k then mx 0 (fun n => bgF F o k n + wI F (o k) (o n)) k else bgF F o k j
/-- When the one at place j begins. -/
def bg (F : Nat → Ins) (o : Nat → Nat) (j : Nat) : Int := bgF F o (j + 1) j
theorem bgF_at (F : Nat → Ins) (o : Nat → Nat) {j : Nat} : ∀ {k : Nat}, j < k → bgF F o k j = bg F o j
  | 0, h => absurd h (Nat.not_lt_zero j)
  | k + 1, h => by
    by_cases e : j = k
    · rw [e]; rfl
    · show (if j = k then _ else bgF F o k j) = _
      rw [if_neg e]
      exact bgF_at F o (by omega)
theorem bg_eq (F : Nat → Ins) (o : Nat → Nat) (k : Nat) : bg F o k = mx 0 (fun n => bg F o n + wI F (o k) (o n)) k := by
  show (if k = k then _ else bgF F o k k) = _
  rw [if_pos rfl]
  exact mx_congr fun i hi => by rw [bgF_at F o hi]
theorem bg_up (F : Nat → Ins) (o : Nat → Nat) {n k : Nat} (h : n < k) : bg F o n + wI F (o k) (o n) ≤ bg F o k := by
  rw [bg_eq F o k]
  exact (mx_ge 0 (fun n => bg F o n + wI F (o k) (o n)) k).2 n h
theorem bg_pos (F : Nat → Ins) (o : Nat → Nat) (k : Nat) : 0 ≤ bg F o k := by
  rw [bg_eq F o k]
  exact (mx_ge 0 (fun n => bg F o n + wI F (o k) (o n)) k).1
theorem bg_lt (F : Nat → Ins) (o : Nat → Nat) {n k : Nat} (h : n < k) : bg F o n < bg F o k := by
  have h1 := bg_up F o h
  have h2 := wI_rng F (o k) (o n)
  omega
theorem bg_small (F : Nat → Ins) (o : Nat → Nat) : ∀ (m k : Nat), k < m → bg F o k ≤ 3 * (k : Int)
  | 0, k, h => absurd h (Nat.not_lt_zero k)
  | m + 1, k, h => by
    rw [bg_eq F o k]
    refine mx_le.2 ⟨by omega, fun i hi => ?_⟩
    have h1 := bg_small F o m i (by omega)
    have h2 := wI_rng F (o k) (o i)
    show bg F o i + wI F (o k) (o i) ≤ _
    omega
theorem bg_le (F : Nat → Ins) (o : Nat → Nat) (k : Nat) : bg F o k ≤ 3 * (k : Int) := bg_small F o (k + 1) k (by omega)
theorem bg_congr {F F' : Nat → Ins} {o o' : Nat → Nat} : ∀ (m : Nat), (∀ i, i < m → o i = o' i) → (∀ i j, i < m → j < m → wI F (o i) (o j) = wI F' (o i) (o j)) → ∀ k, k < m → bg F o k = bg F' o' k
  | 0, _, _, k, h => absurd h (Nat.not_lt_zero k)
  | m + 1, ho, hw, k, h => by
    rw [bg_eq F o k, bg_eq F' o' k]
    refine mx_congr fun i hi => ?_
    show bg F o i + wI F (o k) (o i) = bg F' o' i + wI F' (o' k) (o' i)
    rw [bg_congr m (fun i hi => ho i (by omega)) (fun i j hi hj => hw i j (by omega) (by omega)) i (by omega), ← ho k h, ← ho i (by omega), hw k i h (by omega)]
/-- The model's way: from behind the last one on, and behind those for which it waits. -/
def sx (a : Int) (w g : Nat → Int) : Nat → Int
  | 0 => a
  | n + 1 => if 0 < w n then max (sx a w g n) (g n + w n) else sx a w g n
theorem sx_le {a z : Int} {w g : Nat → Int} : ∀ {n : Nat}, sx a w g n ≤ z ↔ (a ≤ z ∧ ∀ i, i < n → 0 < w i → g i + w i ≤ z)
  | 0 => ⟨fun h => ⟨h, fun i hi => absurd hi (Nat.not_lt_zero i)⟩, fun h => h.1⟩
  | n + 1 => by
    have ih := sx_le (a := a) (z := z) (w := w) (g := g) (n := n)
    by_cases hw : 0 < w n
    · show (if 0 < w n then max (sx a w g n) (g n + w n) else sx a w g n) ≤ z ↔ _
      rw [if_pos hw]
      constructor
      · intro h
        obtain ⟨h2, h3⟩ := ih.1 (by omega)
        exact ⟨h2, fun i hi hwi => by
          by_cases e : i = n
          · rw [e]; omega
          · exact h3 i (by omega) hwi⟩
      · rintro ⟨h1, h2⟩
        have h3 := ih.2 ⟨h1, fun i hi => h2 i (by omega)⟩
        have h4 := h2 n (by omega) hw
        omega
    · show (if 0 < w n then max (sx a w g n) (g n + w n) else sx a w g n) ≤ z ↔ _
      rw [if_neg hw]
      constructor
      · intro h
        obtain ⟨h2, h3⟩ := ih.1 h
        exact ⟨h2, fun i hi hwi => by
          by_cases e : i = n
          · rw [e] at hwi; exact absurd hwi hw
          · exact h3 i (by omega) hwi⟩
      · rintro ⟨h1, h2⟩
        exact ih.2 ⟨h1, fun i hi => h2 i (by omega)⟩
/-- An order in which nothing stands ahead of what it waits for. -/
def Topo (F : Nat → Ins) (o : Nat → Nat) (m : Nat) : Prop := ∀ i k, i < k → k < m → o i ≠ o k ∧ (o k < o i → wtI (F (o k)) (F (o i)) = 0)
theorem topo_id (F : Nat → Ins) (m : Nat) : Topo F (fun i => i) m := fun i k h _ => ⟨fun (e : i = k) => by omega, fun (h' : k < i) => by omega⟩
/-- Where the model begins. -/
def sa (f : Nat → Int) (k : Nat) : Int := if k = 0 then 0 else f (k - 1) + 1
theorem bg_spec {F : Nat → Ins} {o : Nat → Nat} {m : Nat} (h : Topo F o m) {k : Nat} (hk : k < m) :
    sx (sa (bg F o) k) (fun i => wtI (F (o i)) (F (o k))) (bg F o) k = bg F o k := by
  have h1 : sx (sa (bg F o) k) (fun i => wtI (F (o i)) (F (o k))) (bg F o) k ≤ bg F o k := by
    refine sx_le.2 ⟨?_, fun i hi hw => ?_⟩
    · unfold sa
      split
      · exact bg_pos F o k
      · have := bg_lt F o (show k - 1 < k by omega)
        omega
    · have h2 := bg_up F o hi
      obtain ⟨h3, h4⟩ := h i k hi hk
      have hlt : o i < o k := by
        rcases Nat.lt_trichotomy (o i) (o k) with h5 | h5 | h5
        · exact h5
        · exact absurd h5 h3
        · have := wtI_comm.1 (h4 h5)
          have hw' : 0 < wtI (F (o i)) (F (o k)) := hw
          omega
      have h6 : wtI (F (o i)) (F (o k)) ≤ wI F (o k) (o i) := by
        unfold wI
        rw [if_pos hlt]
        omega
      show bg F o i + wtI (F (o i)) (F (o k)) ≤ _
      omega
  have h2 : bg F o k ≤ sx (sa (bg F o) k) (fun i => wtI (F (o i)) (F (o k))) (bg F o) k := by
    obtain ⟨g1, g2⟩ := sx_le.1 (Int.le_refl (sx (sa (bg F o) k) (fun i => wtI (F (o i)) (F (o k))) (bg F o) k))
    generalize sx (sa (bg F o) k) (fun i => wtI (F (o i)) (F (o k))) (bg F o) k = z at *
    rw [bg_eq F o k]
    have g0 : 0 ≤ z := by
      unfold sa at g1
      split at g1
      · exact g1
      · have := bg_pos F o (k - 1)
        omega
    refine mx_le.2 ⟨g0, fun i hi => ?_⟩
    show bg F o i + wI F (o k) (o i) ≤ z
    have g3 : bg F o i + 1 ≤ z := by
      unfold sa at g1
      rw [if_neg (by omega)] at g1
      by_cases e : i = k - 1
      · rw [e]; exact g1
      · have := bg_lt F o (show i < k - 1 by omega)
        omega
    unfold wI
    split
    · have g4 := g2 i hi
      by_cases hw : 0 < wtI (F (o i)) (F (o k))
      · have g5 : bg F o i + wtI (F (o i)) (F (o k)) ≤ z := g4 hw
        omega
      · omega
    · exact g3
  omega
/-- When all are done. -/
def dn (f : Nat → Int) (l : Nat → Int) (m : Nat) : Int := mx 0 (fun i => f i + l i) m
def eF (F : Nat → Ins) (o : Nat → Nat) (m : Nat) : Int := dn (bg F o) (fun i => lat (F (o i)).op.toList) m
theorem dn_rng {F : Nat → Ins} {o : Nat → Nat} {m : Nat} : 0 ≤ eF F o m ∧ eF F o m ≤ 3 * (m : Int) := by
  refine ⟨(mx_ge 0 _ m).1, mx_le.2 ⟨by omega, fun i hi => ?_⟩⟩
  have h1 := bg_le F o i
  have h2 := lat_rng (F (o i)).op.toList
  show bg F o i + lat (F (o i)).op.toList ≤ _
  omega
end Go.Proofs.YtlmjbflnfpccdaaDoor
