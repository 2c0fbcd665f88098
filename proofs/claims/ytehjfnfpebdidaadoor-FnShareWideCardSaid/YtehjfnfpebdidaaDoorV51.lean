/- What is shared makes the same numbers, and is shared no further: plain facts. -/
import Derived.Test.YtehjfnfpebdidaaDoorW930
namespace Go.Proofs.YtehjfnfpebdidaaDoor
/-- What is left, as an unending row. -/
def sW (n : Nat) (F : Nat → Wid) (j : Nat) : Wid := (shS F n).1.getD j zWid
def sP (n : Nat) (F : Nat → Wid) (j : Nat) : Nat := (shS F n).2.getD j 0
theorem sP_succ (F : Nat → Wid) (n j : Nat) (h : j < n) : sP (n + 1) F j = sP n F j := by
  obtain ⟨h1, -⟩ := shS_len F n
  unfold sP
  simp only [shS, shNext]
  rw [List.getD_eq_getElem?_getD, List.getD_eq_getElem?_getD, List.getElem?_append_left (by omega)]
theorem sW_succ (F : Nat → Wid) (n j : Nat) (h : j < (shS F n).1.length) : sW (n + 1) F j = sW n F j := by
  unfold sW
  simp only [shS, shNext]
  split
  · rw [List.getD_eq_getElem?_getD, List.getD_eq_getElem?_getD, List.getElem?_append_left (by omega)]
  · rfl
theorem sP_last (F : Nat → Wid) (n : Nat) : sP (n + 1) F n = firstW (shS F n).1 (mvW (F n) (shS F n).2) := by
  obtain ⟨h1, -⟩ := shS_len F n
  unfold sP
  simp only [shS, shNext]
  rw [List.getD_eq_getElem?_getD, List.getElem?_append_right (by omega), h1, Nat.sub_self]
  rfl
theorem sW_last (F : Nat → Wid) (n : Nat) : sW (n + 1) F (sP (n + 1) F n) = mvW (F n) (shS F n).2 := by
  rw [sP_last]
  unfold sW
  simp only [shS, shNext]
  split
  · rename_i h
    rw [List.getD_eq_getElem?_getD, List.getElem?_append_right (by omega), h, Nat.sub_self]
    rfl
  · rename_i h
    have h1 := firstW_le (shS F n).1 (mvW (F n) (shS F n).2)
    have h2 := firstW_at (shS F n).1 (mvW (F n) (shS F n).2) (by omega)
    rw [List.getD_eq_getElem?_getD, h2]
    rfl
theorem mvW_ok (F : Nat → Wid) (n : Nat) (hv : okW n (F n) = true) : okW (shS F n).1.length (mvW (F n) (shS F n).2) = true := by
  have hin := shS_in F n
  generalize (shS F n).2 = P at *
  generalize (shS F n).1.length = K at *
  generalize F n = c at *
  obtain ⟨op, a, b, k⟩ := c
  have hv := (okW_told op a b k n).symm.trans hv
  rw [decide_eq_true_iff] at hv
  unfold mvW
  by_cases h0 : wordN op.toList = 0
  · rw [if_pos h0, okW_told, decide_eq_true_iff]
    exact .inl (by omega)
  · rw [if_neg h0]
    have ha := hin a.toNat (by omega)
    have hb := hin b.toNat (by omega)
    simp only []
    split
    · rw [okW_told, decide_eq_true_iff]
      omega
    · rw [okW_told, decide_eq_true_iff]
      omega
theorem sW_ok (F : Nat → Wid) : ∀ n, (∀ j, j < n → okW j (F j) = true) → ∀ j, j < (shS F n).1.length → okW j (sW n F j) = true
  | 0, _, j, h => absurd h (by simp [shS])
  | n + 1, hv, j, h => by
    have ih := sW_ok F n (fun j hj => hv j (by omega))
    by_cases hj : j < (shS F n).1.length
    · rw [sW_succ F n j hj]
      exact ih j hj
    · have h' := h
      simp only [shS, shNext] at h'
      split at h'
      · rename_i e
        have hjl : j = (shS F n).1.length := by
          simp at h'
          omega
        have hl := sW_last F n
        rw [sP_last, e, ← hjl] at hl
        rw [hl, hjl]
        exact mvW_ok F n (hv n (by omega))
      · exact absurd h' hj
theorem opVal_comm (w : Nat) (x y : Int) (h : w = 1 ∨ w = 3) : opVal w x y = opVal w y x := by
  unfold opVal
  rcases h with rfl | rfl
  · rw [if_pos rfl, if_pos rfl, Int.add_comm]
  · rw [if_neg (by decide), if_neg (by decide), if_pos rfl, if_neg (by decide), if_neg (by decide), if_pos rfl, Int.mul_comm]
/-- The same numbers, at the places where they stand. -/
theorem sN_same (F : Nat → Wid) : ∀ n, (∀ j, j < n → okW j (F j) = true) → ∀ j, j < n → num (sW n F) (sP n F j) = num F j
  | 0, _, j, h => absurd h (by omega)
  | n + 1, hv, j, h => by
    have hv' := fun j (hj : j < n) => hv j (by omega : j < n + 1)
    have ih := sN_same F n hv'
    have hcg : ∀ q, q < (shS F n).1.length → num (sW (n + 1) F) q = num (sW n F) q := fun q hq => num_congr _ _ _ (fun j hj => sW_succ F n j hj) q hq
    have hin := shS_in F n
    by_cases hj : j < n
    · rw [sP_succ F n j hj, hcg _ (show sP n F j < _ from hin j hj), ih j hj]
    · obtain rfl : j = n := by omega
      have hq : sP (j + 1) F j < (shS F (j + 1)).1.length := shS_in F (j + 1) j (by omega)
      rw [num_eq (sW (j + 1) F) _ (sW_ok F (j + 1) hv _ hq), sW_last, num_eq F j (hv j (by omega))]
      have hA : ∀ a, a < j → num (sW (j + 1) F) ((shS F j).2.getD a 0) = num F a := fun a ha => by
        rw [hcg _ (hin a ha)]
        exact ih a ha
      have hvj := hv j (by omega)
      revert hA hvj
      generalize num (sW (j + 1) F) = G
      generalize num F = H
      generalize (shS F j).2 = P
      generalize F j = c
      intro hA hvj
      obtain ⟨op, a, b, k⟩ := c
      have hvj := (okW_told op a b k j).symm.trans hvj
      rw [decide_eq_true_iff] at hvj
      unfold mvW
      by_cases h0 : wordN op.toList = 0
      · rw [if_pos h0]
        unfold mk
        rw [if_pos h0, if_pos h0]
      · rw [if_neg h0]
        have ha := hA a.toNat (by omega)
        have hb := hA b.toNat (by omega)
        simp only []
        split
        · rename_i e
          unfold mk
          rw [if_neg h0, if_neg h0]
          show opVal _ (G _) (G _) = _
          rw [Int.toNat_natCast, Int.toNat_natCast, ha, hb]
          have e1 : wordN op.toList = 1 ∨ wordN op.toList = 3 := e.1
          refine opVal_comm _ _ _ ?_
          show (wordN op.toList).toNat = 1 ∨ (wordN op.toList).toNat = 3
          omega
        · unfold mk
          rw [if_neg h0, if_neg h0]
          show opVal _ (G _) (G _) = _
          rw [Int.toNat_natCast, Int.toNat_natCast, ha, hb]
theorem sK_succ (F : Nat → Wid) (n : Nat) : ((shS F (n + 1)).1.length = (shS F n).1.length ∧ sP (n + 1) F n < (shS F n).1.length) ∨ ((shS F (n + 1)).1.length = (shS F n).1.length + 1 ∧ sP (n + 1) F n = (shS F n).1.length) := by
  have h1 := firstW_le (shS F n).1 (mvW (F n) (shS F n).2)
  rw [sP_last]
  simp only [shS, shNext]
  split
  · rename_i h
    exact .inr ⟨by simp, h⟩
  · exact .inl ⟨rfl, by omega⟩
theorem range_getD (j a : Nat) (h : a < j) : (List.range j).getD a 0 = a := by
  rw [List.getD_eq_getElem?_getD, List.getElem?_range h]
  rfl
theorem mvW_fix (F : Nat → Wid) (n : Nat) (hv : okW n (F n) = true) : mvW (mvW (F n) (shS F n).2) (List.range (shS F n).1.length) = mvW (F n) (shS F n).2 := by
  have hin := shS_in F n
  generalize (shS F n).2 = P at *
  generalize (shS F n).1.length = K at *
  generalize F n = c at *
  obtain ⟨op, a, b, k⟩ := c
  have hv := (okW_told op a b k n).symm.trans hv
  rw [decide_eq_true_iff] at hv
  by_cases h0 : wordN op.toList = 0
  · have e : ∀ Q, mvW ⟨op, a, b, k⟩ Q = ⟨op, a, b, k⟩ := fun Q => by
      unfold mvW
      rw [if_pos h0]
    rw [e, e]
  · have ha := range_getD K _ (hin a.toNat (by omega))
    have hb := range_getD K _ (hin b.toNat (by omega))
    have e : ∀ (x y : Int) (q : Int) Q, mvW ⟨op, x, y, q⟩ Q = (if (wordN op.toList = 1 ∨ wordN op.toList = 3) ∧ Q.getD y.toNat 0 < Q.getD x.toNat 0 then ⟨op, (Q.getD y.toNat 0 : Nat), (Q.getD x.toNat 0 : Nat), 0⟩ else ⟨op, (Q.getD x.toNat 0 : Nat), (Q.getD y.toNat 0 : Nat), 0⟩) := fun x y q Q => by
      unfold mvW
      rw [if_neg h0]
    rw [e a b k P]
    generalize P.getD a.toNat 0 = x at *
    generalize P.getD b.toNat 0 = y at *
    split
    · rename_i h1
      rw [e, Int.toNat_natCast, Int.toNat_natCast, ha, hb, if_neg (by omega)]
    · rename_i h1
      rw [e, Int.toNat_natCast, Int.toNat_natCast, ha, hb, if_neg h1]
/-- What is left stands where it stands: no two the same, and nothing to move. -/
theorem sW_fix (F : Nat → Wid) : ∀ n, (∀ j, j < n → okW j (F j) = true) → ∀ j, j < (shS F n).1.length → mvW (sW n F j) (List.range j) = sW n F j ∧ ∀ i, i < j → sW n F i ≠ sW n F j
  | 0, _, j, h => absurd h (by simp [shS])
  | n + 1, hv, j, h => by
    have ih := sW_fix F n (fun j hj => hv j (by omega))
    by_cases hj : j < (shS F n).1.length
    · rw [sW_succ F n j hj]
      refine ⟨(ih j hj).1, fun i hi => ?_⟩
      rw [sW_succ F n i (by omega)]
      exact (ih j hj).2 i hi
    · rcases sK_succ F n with ⟨h1, h2⟩ | ⟨h1, h2⟩
      · omega
      · obtain rfl : j = (shS F n).1.length := by omega
        have hl := sW_last F n
        rw [h2] at hl
        rw [hl]
        refine ⟨mvW_fix F n (hv n (by omega)), fun i hi => ?_⟩
        rw [sW_succ F n i hi]
        rw [sP_last] at h2
        have hb := firstW_before (shS F n).1 (mvW (F n) (shS F n).2) i (by omega)
        intro e
        apply hb
        rw [← e]
        unfold sW
        rw [List.getD_eq_getElem?_getD, List.getElem?_eq_getElem hi]
        rfl
theorem firstW_none (l : List Wid) (c : Wid) (h : ∀ i, i < l.length → l.getD i zWid ≠ c) : firstW l c = l.length := by
  have h1 := firstW_le l c
  by_cases e : firstW l c < l.length
  · have h2 := firstW_at l c e
    refine absurd ?_ (h _ e)
    rw [List.getD_eq_getElem?_getD, h2]
    rfl
  · omega
/-- Shared again, it is the same. -/
theorem shS_again (F : Nat → Wid) (n : Nat) (hv : ∀ j, j < n → okW j (F j) = true) : ∀ j, j ≤ (shS F n).1.length → shS (sW n F) j = ((shS F n).1.take j, List.range j)
  | 0, _ => by simp [shS]
  | j + 1, h => by
    have ih := shS_again F n hv j (by omega)
    obtain ⟨hf, hd⟩ := sW_fix F n hv j (by omega)
    have hlen : ((shS F n).1.take j).length = j := by
      rw [List.length_take]
      omega
    have hno : firstW ((shS F n).1.take j) (sW n F j) = j := by
      rw [firstW_none _ _ (fun i hi => ?_), hlen]
      rw [hlen] at hi
      rw [List.getD_eq_getElem?_getD, List.getElem?_take_of_lt hi, ← List.getD_eq_getElem?_getD]
      exact hd i hi
    have hg : (shS F n).1[j]? = some (sW n F j) := by
      unfold sW
      rw [List.getD_eq_getElem?_getD, List.getElem?_eq_getElem (by omega)]
      rfl
    simp only [shS, shNext]
    rw [ih]
    simp only []
    rw [hf, hno, if_pos hlen.symm, List.range_succ, List.take_add_one, hg]
    rfl
theorem sW_again (F : Nat → Wid) (n : Nat) (hv : ∀ j, j < n → okW j (F j) = true) : (shS (sW n F) (shS F n).1.length).1 = (shS F n).1 := by
  rw [shS_again F n hv _ (Nat.le_refl _), List.take_length]
end Go.Proofs.YtehjfnfpebdidaaDoor
