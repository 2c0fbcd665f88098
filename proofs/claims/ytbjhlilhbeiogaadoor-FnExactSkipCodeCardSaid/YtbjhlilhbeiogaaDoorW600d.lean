/- Programs without some of their instructions: plain facts. -/
import Derived.Test.YtbjhlilhbeiogaaDoorG410
namespace Go.Proofs.YtbjhlilhbeiogaaDoor
open Go.RowKit
/-- How many of the first i are kept. -/
def ctK (g : Nat → Bool) : Nat → Nat
  | 0 => 0
  | i + 1 => ctK g i + (if g i = true then 1 else 0)
/-- Those of the first i that are kept. -/
def slK (F : Nat → Ins) (g : Nat → Bool) : Nat → Nat → Ins
  | 0 => fun _ => zIns
  | i + 1 => if g i = true then (fun j => if j = ctK g i then F i else slK F g i j) else slK F g i
theorem ctK_yes {g : Nat → Bool} {i : Nat} (h : g i = true) : ctK g (i + 1) = ctK g i + 1 := by
  show ctK g i + (if g i = true then 1 else 0) = _
  rw [if_pos h]
theorem ctK_no {g : Nat → Bool} {i : Nat} (h : g i = false) : ctK g (i + 1) = ctK g i := by
  show ctK g i + (if g i = true then 1 else 0) = _
  rw [h, if_neg (by simp)]
  rfl
theorem ctK_le (g : Nat → Bool) : ∀ i, ctK g i ≤ i := by
  intro i
  induction i with
  | zero => exact Nat.le_refl _
  | succ i ih =>
    show ctK g i + (if g i = true then 1 else 0) ≤ i + 1
    split <;> omega
theorem ctK_mono (g : Nat → Bool) {i j : Nat} (h : i ≤ j) : ctK g i ≤ ctK g j := by
  induction j with
  | zero =>
    obtain rfl : i = 0 := by omega
    exact Nat.le_refl _
  | succ j ih =>
    by_cases e : i = j + 1
    · rw [e]
      exact Nat.le_refl _
    · have h1 := ih (by omega)
      show ctK g i ≤ ctK g j + (if g j = true then 1 else 0)
      omega
theorem ctK_lt {g : Nat → Bool} {i j : Nat} (h : i < j) (hi : g i = true) : ctK g i < ctK g j := by
  have h1 := ctK_mono g (show i + 1 ≤ j from h)
  rw [ctK_yes hi] at h1
  omega
theorem slK_yes {F : Nat → Ins} {g : Nat → Bool} {i : Nat} (h : g i = true) : slK F g (i + 1) = fun j => if j = ctK g i then F i else slK F g i j := by
  show (if g i = true then _ else _) = _
  rw [if_pos h]
theorem slK_no {F : Nat → Ins} {g : Nat → Bool} {i : Nat} (h : g i = false) : slK F g (i + 1) = slK F g i := by
  show (if g i = true then _ else _) = _
  rw [h, if_neg (by simp)]
/-- Each one that is kept stands where those before it end. -/
theorem slK_at {F : Nat → Ins} {g : Nat → Bool} : ∀ n i, i < n → g i = true → slK F g n (ctK g i) = F i := by
  intro n
  induction n with
  | zero =>
    intro i hi
    exact absurd hi (Nat.not_lt_zero i)
  | succ n ih =>
    intro i hi hg
    by_cases e : i = n
    · subst e
      rw [slK_yes hg]
      exact if_pos rfl
    · have h1 := ih i (by omega) hg
      rcases hn : g n with _ | _
      · rw [slK_no hn]
        exact h1
      · rw [slK_yes hn]
        show (if ctK g i = ctK g n then _ else _) = _
        rw [if_neg (by have := ctK_lt (show i < n by omega) hg; omega)]
        exact h1
/-- Each place below the number of those that are kept is one's. -/
theorem ctK_of {g : Nat → Bool} : ∀ n j, j < ctK g n → ∃ i, i < n ∧ g i = true ∧ ctK g i = j := by
  intro n
  induction n with
  | zero =>
    intro j hj
    exact absurd hj (Nat.not_lt_zero j)
  | succ n ih =>
    intro j hj
    rcases hn : g n with _ | _
    · rw [ctK_no hn] at hj
      obtain ⟨i, h1, h2, h3⟩ := ih j hj
      exact ⟨i, by omega, h2, h3⟩
    · rw [ctK_yes hn] at hj
      by_cases e : j = ctK g n
      · exact ⟨n, by omega, hn, e.symm⟩
      · obtain ⟨i, h1, h2, h3⟩ := ih j (by omega)
        exact ⟨i, by omega, h2, h3⟩
/-- An instruction with its jump moved. -/
def mvK (g : Nat → Bool) (c : Ins) : Ins := if jmpB c.op.toList = true then ⟨c.op, c.d, c.a, c.b, ((ctK g c.k.toNat : Nat) : Int)⟩ else c
theorem mvK_yes {g : Nat → Bool} {c : Ins} (h : jmpB c.op.toList = true) : mvK g c = ⟨c.op, c.d, c.a, c.b, ((ctK g c.k.toNat : Nat) : Int)⟩ := if_pos h
theorem mvK_no {g : Nat → Bool} {c : Ins} (h : jmpB c.op.toList = false) : mvK g c = c := if_neg (by rw [h]; simp)
/-- What is left of the program. -/
def koP (F : Nat → Ins) (g : Nat → Bool) (n j : Nat) : Ins := mvK g (slK F g n j)
theorem slK_mv (F : Nat → Ins) (g g' : Nat → Bool) : ∀ n j, slK (fun i => mvK g (F i)) g' n j = mvK g (slK F g' n j) := by
  intro n
  induction n with
  | zero =>
    intro j
    show zIns = mvK g zIns
    rw [mvK_no (show jmpB zIns.op.toList = false from by
      rw [show zIns.op.toList = [] from ByteArray.toList_mk []]
      rfl)]
  | succ n ih =>
    intro j
    rcases hn : g' n with _ | _
    · rw [slK_no hn, slK_no hn]
      exact ih j
    · rw [slK_yes hn, slK_yes hn]
      show (if j = ctK g' n then mvK g (F n) else slK (fun i => mvK g (F i)) g' n j) = mvK g (if j = ctK g' n then F n else slK F g' n j)
      split
      · rfl
      · exact ih j
theorem slK_congr {F F' : Nat → Ins} {g : Nat → Bool} : ∀ n, (∀ i, i < n → F i = F' i) → slK F g n = slK F' g n := by
  intro n
  induction n with
  | zero =>
    intro _
    rfl
  | succ n ih =>
    intro h
    rcases hn : g n with _ | _
    · rw [slK_no hn, slK_no hn]
      exact ih (fun i hi => h i (by omega))
    · rw [slK_yes hn, slK_yes hn, ih (fun i hi => h i (by omega)), h n (by omega)]
theorem koP_at {F : Nat → Ins} {g : Nat → Bool} {n i : Nat} (hi : i < n) (hg : g i = true) : koP F g n (ctK g i) = mvK g (F i) := by
  unfold koP
  rw [slK_at n i hi hg]
theorem okI_vcB {n : Nat} {F : Nat → Ins} {i : Nat} (hv : vcB n F = true) (hi : i < n) : okI n (F i) = true := allI_iff.1 (by simp only [vcB, Bool.and_eq_true] at hv; exact hv.1) i hi
theorem jmp78 {l : List UInt8} (h : jmpB l = true) : wordN l = 7 ∨ wordN l = 8 := by
  unfold jmpB at h
  rw [← word7, ← word8] at h
  simpa using h
set_option maxHeartbeats 1000000 in
/-- What is left is a program. -/
theorem koP_valid {F : Nat → Ins} {n : Nat} (g : Nat → Bool) (hv : vcB n F = true) : vcB (ctK g n) (koP F g n) = true := by
  have hn := vcB_40 hv
  have hm := ctK_le g n
  rw [vcB_all (n := ctK g n) (fun j hj => ?_)]
  · exact decide_eq_true (by omega)
  obtain ⟨i, hi, hg, rfl⟩ := ctK_of n j hj
  rw [koP_at hi hg]
  have h1 := okI_vcB hv hi
  rcases hj : jmpB (F i).op.toList with _ | _
  · rw [mvK_no hj]
    unfold okI at h1 ⊢
    rw [hj, Bool.false_and, Bool.not_false, Bool.and_true] at h1 ⊢
    exact h1
  · have hk := okI_k hv hi hj
    have hw := jmp78 hj
    have hc := ctK_mono g (show (F i).k.toNat ≤ n by omega)
    rw [mvK_yes hj]
    unfold okI at h1 ⊢
    simp only [Bool.and_eq_true] at h1 ⊢
    have h2 := vB_true.1 h1.1
    refine ⟨vB_true.2 ?_, ?_⟩
    · unfold VI at h2 ⊢
      generalize wordN (F i).op.toList = x at *
      omega
    · rw [decide_eq_false (by omega)]
      simp
end Go.Proofs.YtbjhlilhbeiogaaDoor
