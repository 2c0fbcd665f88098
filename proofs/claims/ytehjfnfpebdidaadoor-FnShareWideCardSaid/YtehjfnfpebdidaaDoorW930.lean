/- What is shared: plain facts. -/
import Derived.Test.YtehjfnfpebdidaaDoorW831
namespace Go.Proofs.YtehjfnfpebdidaaDoor
open Go.RowKit
set_option linter.unusedSimpArgs false
/-- Are two wide instructions the same? -/
def eqW (c d : Wid) : Bool := c.op.toList == d.op.toList && c.a == d.a && c.b == d.b && c.k == d.k
theorem eqW_iff {c d : Wid} : eqW c d = true ↔ c = d := by
  obtain ⟨op, a, b, k⟩ := c
  obtain ⟨op2, a2, b2, k2⟩ := d
  unfold eqW
  simp only [Bool.and_eq_true, beq_iff_eq, Wid.mk.injEq]
  constructor
  · rintro ⟨⟨⟨h1, h2⟩, h3⟩, h4⟩
    exact ⟨eq_of_toList h1, h2, h3, h4⟩
  · rintro ⟨h1, h2, h3, h4⟩
    exact ⟨⟨⟨by rw [h1], h2⟩, h3⟩, h4⟩
/-- Where it stands first, or how many there are. -/
def firstW : List Wid → Wid → Nat
  | [], _ => 0
  | d :: l, c => if eqW d c then 0 else firstW l c + 1
theorem firstW_le : ∀ (l : List Wid) (c : Wid), firstW l c ≤ l.length
  | [], _ => Nat.le_refl _
  | d :: l, c => by
    have := firstW_le l c
    simp only [firstW, List.length_cons]
    split <;> omega
theorem firstW_at : ∀ (l : List Wid) (c : Wid), firstW l c < l.length → l[firstW l c]? = some c
  | [], _, h => absurd h (by simp)
  | d :: l, c, h => by
    have ih := firstW_at l c
    simp only [firstW, List.length_cons] at h ⊢
    split
    · rename_i e
      rw [eqW_iff.1 e]
      rfl
    · rename_i e
      rw [if_neg e] at h
      exact ih (by omega)
theorem firstW_before : ∀ (l : List Wid) (c : Wid) (j : Nat), j < firstW l c → l[j]? ≠ some c
  | [], _, j, h => absurd h (by simp [firstW])
  | d :: l, c, j, h => by
    simp only [firstW] at h
    split at h
    · omega
    · rename_i e
      rcases j with _ | j
      · intro e2
        injection e2 with e2
        exact e (eqW_iff.2 e2)
      · exact firstW_before l c j (by omega)
/-- A wide instruction with the numbers that are left in place of those that it takes, the lesser one first where the order does not matter. -/
def mvW (c : Wid) (at' : List Nat) : Wid :=
  if wordN c.op.toList = 0 then c else
    let a := at'.getD c.a.toNat 0
    let b := at'.getD c.b.toNat 0
    if (wordN c.op.toList = 1 ∨ wordN c.op.toList = 3) ∧ b < a then ⟨c.op, b, a, 0⟩ else ⟨c.op, a, b, 0⟩
/-- One more: what is left, and where each one stands. -/
def shNext (st : List Wid × List Nat) (c : Wid) : List Wid × List Nat :=
  (if firstW st.1 (mvW c st.2) = st.1.length then st.1 ++ [mvW c st.2] else st.1, st.2 ++ [firstW st.1 (mvW c st.2)])
/-- The first ones, shared. -/
def shS (F : Nat → Wid) : Nat → List Wid × List Nat
  | 0 => ([], [])
  | n + 1 => shNext (shS F n) (F n)
theorem shS_len (F : Nat → Wid) : ∀ n, (shS F n).2.length = n ∧ (shS F n).1.length ≤ n
  | 0 => ⟨rfl, Nat.le_refl _⟩
  | n + 1 => by
    obtain ⟨h1, h2⟩ := shS_len F n
    simp only [shS, shNext]
    refine ⟨by simp [h1], ?_⟩
    split
    · simp
      omega
    · omega
theorem shS_in (F : Nat → Wid) : ∀ n j, j < n → (shS F n).2.getD j 0 < (shS F n).1.length
  | 0, j, h => absurd h (by omega)
  | n + 1, j, h => by
    have ih := shS_in F n
    obtain ⟨h1, -⟩ := shS_len F n
    have h2 := firstW_le (shS F n).1 (mvW (F n) (shS F n).2)
    simp only [shS, shNext]
    by_cases e : j = n
    · subst e
      rw [List.getD_eq_getElem?_getD, List.getElem?_append_right (by omega), h1, Nat.sub_self]
      show firstW _ _ < _
      split
      · simp
        omega
      · omega
    · have h3 := ih j (by omega)
      rw [List.getD_eq_getElem?_getD] at h3
      rw [List.getD_eq_getElem?_getD, List.getElem?_append_left (by omega)]
      split
      · simp
        omega
      · omega
end Go.Proofs.YtehjfnfpebdidaaDoor
