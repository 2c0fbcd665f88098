/- Jumps that lead straight on: plain facts. -/
import Derived.Test.YtbjhlilhbeiogaaDoorW600d
import Derived.Test.YtbjhlilhbeiogaaDoorW440d
namespace Go.Proofs.YtbjhlilhbeiogaaDoor
open Go.RowKit
/-- Is there a jmp? -/
def isJ (F : Nat → Ins) (n x : Nat) : Bool := decide (x < n) && ((F x).op.toList == [106, 109, 112])
/-- Where j jmps lead. -/
def stp (F : Nat → Ins) (n x : Nat) : Nat → Nat
  | 0 => x
  | j + 1 => if isJ F n (stp F n x j) = true then (F (stp F n x j)).k.toNat else stp F n x j
/-- Where a row of jmps leads in the end. -/
def ledN (F : Nat → Ins) (n x : Nat) : Nat := if isJ F n (stp F n x (n + 1)) = true then x else stp F n x (n + 1)
/-- An instruction whose jump leads straight on. -/
def ldF (F : Nat → Ins) (n i : Nat) : Ins := if jmpB (F i).op.toList = true then ⟨(F i).op, (F i).d, (F i).a, (F i).b, ((ledN F n (F i).k.toNat : Nat) : Int)⟩ else F i
/-- Is it no jump to the one behind it? -/
def skG (F : Nat → Ins) (n i : Nat) : Bool := !(jmpB (F i).op.toList && ((ldF F n i).k == (i : Int) + 1))
theorem isJ_parts {F : Nat → Ins} {n x : Nat} (h : isJ F n x = true) : x < n ∧ ((F x).op.toList == [106, 109, 112]) = true := by
  simpa [isJ] using h
theorem stp_yes {F : Nat → Ins} {n x j : Nat} (h : isJ F n (stp F n x j) = true) : stp F n x (j + 1) = (F (stp F n x j)).k.toNat := by
  show (if _ then _ else _) = _
  rw [if_pos h]
theorem stp_no {F : Nat → Ins} {n x j : Nat} (h : isJ F n (stp F n x j) = false) : stp F n x (j + 1) = stp F n x j := by
  show (if _ then _ else _) = _
  rw [h, if_neg (by simp)]
theorem jmp_of {F : Nat → Ins} {x : Nat} (h : ((F x).op.toList == [106, 109, 112]) = true) : jmpB (F x).op.toList = true := by
  unfold jmpB
  rw [h, Bool.or_true]
theorem stp_le {F : Nat → Ins} {n x : Nat} (hv : vcB n F = true) (hx : x ≤ n) : ∀ j, stp F n x j ≤ n := by
  intro j
  induction j with
  | zero => exact hx
  | succ j ih =>
    rcases h : isJ F n (stp F n x j) with _ | _
    · rw [stp_no h]
      exact ih
    · rw [stp_yes h]
      obtain ⟨h1, h2⟩ := isJ_parts h
      have := okI_k hv h1 (jmp_of h2)
      omega
theorem stp_stop {F : Nat → Ins} {n x r : Nat} (h : isJ F n (stp F n x r) = false) : ∀ t, stp F n x (r + t) = stp F n x r := by
  intro t
  induction t with
  | zero => rfl
  | succ t ih =>
    show stp F n x (r + t + 1) = _
    rw [stp_no (by rw [ih]; exact h)]
    exact ih
theorem stp_same {F : Nat → Ins} {n x a b : Nat} (h : stp F n x a = stp F n x b) : ∀ t, stp F n x (a + t) = stp F n x (b + t) := by
  intro t
  induction t with
  | zero => exact h
  | succ t ih =>
    show (if isJ F n (stp F n x (a + t)) = true then (F (stp F n x (a + t))).k.toNat else stp F n x (a + t)) = (if isJ F n (stp F n x (b + t)) = true then (F (stp F n x (b + t))).k.toNat else stp F n x (b + t))
    rw [ih]
/-- More than n numbers below n: two are the same. -/
theorem two_same : ∀ (n : Nat) (f : Nat → Nat), (∀ j, j ≤ n → f j < n) → ∃ a b, a < b ∧ b ≤ n ∧ f a = f b := by
  intro n
  induction n with
  | zero =>
    intro f h
    exact absurd (h 0 (Nat.le_refl _)) (Nat.not_lt_zero _)
  | succ n ih =>
    intro f h
    by_cases hs : ∃ j, j ≤ n ∧ f j = f (n + 1)
    · obtain ⟨j, hj, e⟩ := hs
      exact ⟨j, n + 1, by omega, Nat.le_refl _, e⟩
    · have hne : ∀ j, j ≤ n → f j ≠ f (n + 1) := fun j hj e => hs ⟨j, hj, e⟩
      obtain ⟨a, b, hab, hb, e⟩ := ih (fun j => if f j = n then f (n + 1) else f j) (fun j hj => by
        have h1 := h j (by omega)
        have h2 := h (n + 1) (by omega)
        have h3 := hne j hj
        show (if f j = n then f (n + 1) else f j) < n
        split
        · omega
        · omega)
      refine ⟨a, b, hab, by omega, ?_⟩
      have ha := hne a (by omega)
      have hb2 := hne b hb
      have e2 : (if f a = n then f (n + 1) else f a) = (if f b = n then f (n + 1) else f b) := e
      split at e2
      · split at e2
        · omega
        · exact absurd e2.symm hb2
      · split at e2
        · exact absurd e2 ha
        · exact e2
/-- A row of more jmps than there are instructions goes on in a circle. -/
theorem circle {F : Nat → Ins} {n x : Nat} (h : ∀ j, j ≤ n → isJ F n (stp F n x j) = true) : isJ F n (stp F n x (n + 1)) = true := by
  obtain ⟨a, b, hab, hb, e⟩ := two_same n (stp F n x) (fun j hj => (isJ_parts (h j hj)).1)
  have h1 := stp_same e (n + 1 - b)
  rw [show b + (n + 1 - b) = n + 1 by omega] at h1
  rw [← h1]
  exact h _ (by omega)
theorem led_stop {F : Nat → Ins} {n x r : Nat} (hr : r ≤ n + 1) (h : isJ F n (stp F n x r) = false) : ledN F n x = stp F n x r := by
  have h1 := stp_stop h (n + 1 - r)
  rw [show r + (n + 1 - r) = n + 1 by omega] at h1
  unfold ledN
  rw [h1, h, if_neg (by simp)]
theorem led_circle {F : Nat → Ins} {n x : Nat} (h : ∀ j, j ≤ n → isJ F n (stp F n x j) = true) : ledN F n x = x := by
  unfold ledN
  rw [if_pos (circle h)]
theorem led_le {F : Nat → Ins} {n x : Nat} (hv : vcB n F = true) (hx : x ≤ n) : ledN F n x ≤ n := by
  unfold ledN
  split
  · exact hx
  · exact stp_le hv hx _
theorem ldF_yes {F : Nat → Ins} {n i : Nat} (h : jmpB (F i).op.toList = true) : ldF F n i = ⟨(F i).op, (F i).d, (F i).a, (F i).b, ((ledN F n (F i).k.toNat : Nat) : Int)⟩ := if_pos h
theorem ldF_no {F : Nat → Ins} {n i : Nat} (h : jmpB (F i).op.toList = false) : ldF F n i = F i := if_neg (by rw [h]; simp)
theorem ldF_op (F : Nat → Ins) (n i : Nat) : (ldF F n i).op = (F i).op ∧ (ldF F n i).d = (F i).d ∧ (ldF F n i).a = (F i).a ∧ (ldF F n i).b = (F i).b := by
  unfold ldF
  split <;> exact ⟨rfl, rfl, rfl, rfl⟩
set_option maxHeartbeats 1000000 in
/-- A program whose jumps lead straight on is one. -/
theorem ldF_valid {F : Nat → Ins} {n : Nat} (hv : vcB n F = true) : vcB n (ldF F n) = true := by
  have hn := vcB_40 hv
  rw [vcB_all (n := n) (fun j hj => ?_)]
  · exact decide_eq_true hn
  have h1 := okI_vcB hv hj
  rcases hj2 : jmpB (F j).op.toList with _ | _
  · rw [ldF_no hj2]
    exact h1
  · have hk := okI_k hv hj hj2
    have hw := jmp78 hj2
    have hl := led_le (x := (F j).k.toNat) hv (by omega)
    rw [ldF_yes hj2]
    unfold okI at h1 ⊢
    simp only [Bool.and_eq_true] at h1 ⊢
    have h2 := vB_true.1 h1.1
    refine ⟨vB_true.2 ?_, ?_⟩
    · unfold VI at h2 ⊢
      generalize wordN (F j).op.toList = x at *
      omega
    · rw [decide_eq_false (by omega)]
      simp
end Go.Proofs.YtbjhlilhbeiogaaDoor
