/- Rows of rows of numbers: one more, and another one in place of one. -/
import Derived.Test.YtlhfmjlcpcopkaaDoorW720d
namespace Go.Proofs.YtlhfmjlcpcopkaaDoor
open Go.RowKit
section
variable {wr w2 w3 : World} {lo hi : Nat} {v : Value} {K : Nat} {AS AS' : Nat → Value} {len : Nat → Nat} {R R' : Nat → Nat → Int}
/-- One more row behind the others. -/
theorem Rws.snoc (h : Rws wr lo hi v K AS len R) (hhi : hi ≤ wr.heap.size) (hlo : lo ≤ wr.heap.size) {u v8 : Value} (hu : w2.ownsRow wr.heap.size 3 1 u (len K) (numL (len K) (R' K))) (hg : wr.grownBy w2 none)
    (h8 : w3.ownsRow lo 41 1 v8 (K + 1) ((List.range K).map AS ++ [u])) (hg3 : w2.grownBy w3 v.ownBlock) (hR : ∀ j, j < K → R' j = R j) (hA : ∀ j, j < K → AS' j = AS j) (hAK : AS' K = u) : Rws w3 lo w3.heap.size v8 (K + 1) AS' len R' := by
  have hs := hg.size
  have hs3 := hg3.size
  have hmap : (List.range (K + 1)).map AS' = (List.range K).map AS ++ [u] := by
    rw [List.range_succ, List.map_append]
    congr 1
    · exact List.map_congr_left fun j hj => hA j (List.mem_range.1 hj)
    · show [AS' K] = [u]
      rw [hAK]
  have hnew : ∀ b, u.ownBlock = some b → wr.heap.size ≤ b := fun b hb => (World.ownsRow.lt hu b hb).1
  have hold : ∀ j b, j < K → (AS j).ownBlock = some b → b < wr.heap.size := fun j b hj hb => by
    have := ((h.row j hj).rng hb).2
    omega
  refine ⟨⟨by rw [hmap]; exact h8, fun i hi' => (World.ownsRow.lt h8 i hi').2⟩, fun j hj => ?_, fun i j b hi' hj e1 e2 => ?_⟩
  · by_cases e : j = K
    · subst e
      rw [hAK]
      have hk : w3.ownsRow wr.heap.size 3 1 u (len j) (numL (len j) (R' j)) := by
        refine World.ownsRow.kept hu hg3 ?_
        rcases eu : u.ownBlock with _ | b
        · exact .inl rfl
        · refine .inr fun e' => ?_
          have h1 := hnew b eu
          have h2 := (h.out.rng (i := b) e'.symm).2
          omega
      exact ⟨World.ownsRow.mono hk hlo, fun i hi' => (World.ownsRow.lt hk i hi').2⟩
    · have hj' : j < K := by omega
      rw [hA j hj', hR j hj']
      have h2 := (h.row j hj').grown hg
      refine ⟨?_, fun i hi' => by
        have := hold j i hj' hi'
        omega⟩
      rcases eb : v.ownBlock with _ | b
      · rw [eb] at hg3
        exact World.ownsRow.kept h2.own hg3 (Classical.em _)
      · refine World.ownsRow.kept h2.own hg3 (.inr ?_)
        rw [eb]
        exact rows_other h.out.own (h.row j hj').own (by decide) eb
  · by_cases ei : i = K
    · by_cases ej : j = K
      · omega
      · rw [ei, hAK] at e1
        rw [hA j (by omega)] at e2
        have h1 := hnew b e1
        have h2 := hold j b (by omega) e2
        omega
    · by_cases ej : j = K
      · rw [ej, hAK] at e2
        rw [hA i (by omega)] at e1
        have h1 := hnew b e2
        have h2 := hold i b (by omega) e1
        omega
      · rw [hA i (by omega)] at e1
        rw [hA j (by omega)] at e2
        exact h.sep i j b (by omega) (by omega) e1 e2
/-- Another row in place of one. -/
theorem Rws.swap {g c : Nat} (h : Rws wr lo hi (.slice (some ⟨g, 0, none⟩) K c) K AS len R) (hhi : hi ≤ wr.heap.size) (hlo : lo ≤ wr.heap.size) {u : Value} {k : Nat} (hk : k < K) (hu : w2.ownsRow wr.heap.size 3 1 u (len k) (numL (len k) (R' k))) (hg : wr.grownBy w2 none)
    (hR : ∀ j, j < K → j ≠ k → R' j = R j) (hA : ∀ j, j < K → j ≠ k → AS' j = AS j) (hAk : AS' k = u) : Rws (w2.setCell ⟨g, k, none⟩ u) lo w2.heap.size (.slice (some ⟨g, 0, none⟩) K c) K AS' len R' := by
  have hs := hg.size
  have hnew : ∀ b, u.ownBlock = some b → wr.heap.size ≤ b ∧ b < w2.heap.size := fun b hb => World.ownsRow.lt hu b hb
  have hold : ∀ j b, j < K → (AS j).ownBlock = some b → b < wr.heap.size := fun j b hj hb => by
    have := ((h.row j hj).rng hb).2
    omega
  have h2 := h.grown hg
  have hst := (World.ownsRow.stored h2.out.own k u).1
  have hgs : w2.grownBy (w2.setCell ⟨g, k, none⟩ u) (some g) := grown_set g k u
  have hgb : (Value.slice (some ⟨g, 0, none⟩) K c).ownBlock = some g := rfl
  have hmap : (List.range K).map AS' = ((List.range K).map AS).set k u := by
    apply List.ext_getElem?
    intro j
    by_cases e : k = j
    · subst e
      rw [List.getElem?_set_self (by simpa using hk)]
      simp [hk, hAk]
    · rw [List.getElem?_set_ne e]
      by_cases hj : j < K
      · simp [hj, hA j hj (fun e' => e e'.symm)]
      · simp [hj]
  refine ⟨⟨by rw [hmap]; exact hst, fun i hi' => ?_⟩, fun j hj => ?_, fun i j b hi' hj e1 e2 => ?_⟩
  · have := (h.out.rng hi').2
    omega
  · by_cases e : j = k
    · subst e
      rw [hAk]
      have hk' : (w2.setCell ⟨g, j, none⟩ u).ownsRow wr.heap.size 3 1 u (len j) (numL (len j) (R' j)) := by
        refine World.ownsRow.kept hu hgs ?_
        rcases eu : u.ownBlock with _ | b
        · exact .inl rfl
        · refine .inr fun e' => ?_
          injection e' with e'
          have h1 := (hnew b eu).1
          have h2 := (h.out.rng (i := b) (by rw [hgb, e'])).2
          omega
      exact ⟨World.ownsRow.mono hk' hlo, fun i hi' => (hnew i hi').2⟩
    · rw [hA j hj e, hR j hj e]
      refine ⟨World.ownsRow.kept (h2.row j hj).own hgs (.inr (rows_other h.out.own (h.row j hj).own (by decide) hgb)), fun i hi' => ?_⟩
      have := hold j i hj hi'
      omega
  · by_cases ei : i = k
    · by_cases ej : j = k
      · omega
      · rw [ei, hAk] at e1
        rw [hA j hj ej] at e2
        have h1 := (hnew b e1).1
        have h2 := hold j b hj e2
        omega
    · by_cases ej : j = k
      · rw [ej, hAk] at e2
        rw [hA i hi' ei] at e1
        have h1 := (hnew b e2).1
        have h2 := hold i b hi' e1
        omega
      · rw [hA i hi' ei] at e1
        rw [hA j hj ej] at e2
        exact h.sep i j b hi' hj e1 e2
end
end Go.Proofs.YtlhfmjlcpcopkaaDoor
