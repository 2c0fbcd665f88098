/- Rows of rows of numbers that a call has made: what it means; the laws' comparison and marks. Rows of rows of numbers: one more, and another one in place of one. Rows of rows of numbers that a call leaves; the exact laws' walk uses them. -/
import Derived.Test.YtblnchcgeepemaaDoorW97d
import Derived.Deep.RegionHeld3
import Derived.Test.YtblnchcgeepemaaDoorW401d
namespace Go.Proofs.YtblnchcgeepemaaDoor
open Go.RowKit
set_option linter.unusedSimpArgs false
/-- Only blocks of a stretch may have changed. -/
structure Chg (w w' : World) (lo hi : Nat) : Prop where
  os : w'.os = w.os
  tape : w'.tape = w.tape
  output : w'.output = w.output
  size : w.heap.size ≤ w'.heap.size
  block : ∀ i, i < w.heap.size → (i < lo ∨ hi ≤ i) → w'.heap[i]? = w.heap[i]?
theorem Chg.refl (w : World) (lo hi : Nat) : Chg w w lo hi := ⟨rfl, rfl, rfl, Nat.le_refl _, fun _ _ _ => rfl⟩
theorem Chg.trans {a b c : World} {lo hi : Nat} (h : Chg a b lo hi) (h' : Chg b c lo hi) : Chg a c lo hi :=
  ⟨h'.os.trans h.os, h'.tape.trans h.tape, h'.output.trans h.output, Nat.le_trans h.size h'.size, fun i hi' ho => (h'.block i (Nat.lt_of_lt_of_le hi' h.size) ho).trans (h.block i hi' ho)⟩
theorem Chg.of_row {w w' : World} {lo hi : Nat} {row : Option Nat} (h : w.grownBy w' row) (hr : ∀ b, row = some b → lo ≤ b ∧ b < hi) : Chg w w' lo hi :=
  ⟨h.os, h.tape, h.output, h.size, fun i hi' ho => h.block i hi' (fun e => by have := hr i e.symm; omega)⟩
theorem Chg.grown {a w w' : World} {lo hi : Nat} (hg : a.grownBy w none) (h : Chg w w' lo hi) (hl : a.heap.size ≤ lo) : a.grownBy w' none :=
  ⟨h.os.trans hg.os, h.tape.trans hg.tape, h.output.trans hg.output, Nat.le_trans hg.size h.size, fun i hi' _ => (h.block i (Nat.lt_of_lt_of_le hi' hg.size) (by omega)).trans (hg.block i hi' (by simp))⟩
theorem own_chg {w w' : World} {lo hi B : Nat} {e : TypeId} {z : Nat} {v : Value} {n : Nat} {xs : List Value} (h : w.ownsRow B e z v n xs) (hc : Chg w w' lo hi) (hv : ∀ b, v.ownBlock = some b → b < lo ∨ hi ≤ b) : w'.ownsRow B e z v n xs := by
  refine ⟨h.1, ?_⟩
  rcases h.2 with h' | ⟨g, c, cur, e1, h2, h3, h4⟩
  · exact .inl h'
  · have hl := (World.ownsRow.lt h g (by rw [e1]; rfl)).2
    exact .inr ⟨g, c, cur, e1, h2, (hc.block g hl (hv g (by rw [e1]; rfl))).trans h3, h4⟩
/-- How many stand in the first j rows. -/
def ps (len : Nat → Nat) : Nat → Nat
  | 0 => 0
  | j + 1 => ps len j + len j
theorem ps_mono (len : Nat → Nat) {i j : Nat} (h : i ≤ j) : ps len i ≤ ps len j := by
  induction j with
  | zero =>
    obtain rfl : i = 0 := by omega
    exact Nat.le_refl _
  | succ j ih =>
    by_cases e : i = j + 1
    · rw [e]
      exact Nat.le_refl _
    · have := ih (by omega)
      show ps len i ≤ ps len j + len j
      omega
/-- Rows of numbers in a row, all made by a call, in a stretch of memory. -/
structure Rws (wr : World) (lo hi : Nat) (v : Value) (K : Nat) (AS : Nat → Value) (len : Nat → Nat) (R : Nat → Nat → Int) : Prop where
  out : RowO wr lo hi 25 v K ((List.range K).map AS)
  row : ∀ j, j < K → RowO wr lo hi 3 (AS j) (len j) (numL (len j) (R j))
  sep : ∀ i j b, i < K → j < K → (AS i).ownBlock = some b → (AS j).ownBlock = some b → i = j
theorem RowO.chg {wr w2 : World} {lo hi lo' hi' : Nat} {e : TypeId} {v : Value} {K : Nat} {xs : List Value} (h : RowO wr lo hi e v K xs) (hc : Chg wr w2 lo' hi') (hd : hi ≤ lo' ∨ hi' ≤ lo) : RowO w2 lo hi e v K xs :=
  ⟨own_chg h.own hc (fun b hb => by have := h.rng hb; omega), h.hib⟩
section
variable {wr w2 : World} {lo hi : Nat} {v : Value} {K : Nat} {AS : Nat → Value} {len : Nat → Nat} {R R' : Nat → Nat → Int}
theorem Rws.grown (h : Rws wr lo hi v K AS len R) (hg : wr.grownBy w2 none) : Rws w2 lo hi v K AS len R := ⟨h.out.grown hg, fun j hj => (h.row j hj).grown hg, h.sep⟩
theorem Rws.chg {lo' hi' : Nat} (h : Rws wr lo hi v K AS len R) (hc : Chg wr w2 lo' hi') (hd : hi ≤ lo' ∨ hi' ≤ lo) : Rws w2 lo hi v K AS len R := ⟨h.out.chg hc hd, fun j hj => (h.row j hj).chg hc hd, h.sep⟩
theorem Rws.congr (h : Rws wr lo hi v K AS len R) (hr : ∀ j i, j < K → i < len j → R j i = R' j i) : Rws wr lo hi v K AS len R' := ⟨h.out, fun j hj => by
  rw [← numL_congr (len j) (R j) (R' j) (fun i hi => hr j i hj hi)]
  exact h.row j hj, h.sep⟩
theorem rows_other {W : World} {B B' : Nat} {e e' : TypeId} {z z' : Nat} {v v' : Value} {n n' : Nat} {xs xs' : List Value} (h : W.ownsRow B e z v n xs) (h' : W.ownsRow B' e' z' v' n' xs') (ht : e ≠ e') {b : Nat} (hb : v.ownBlock = some b) : v'.ownBlock ≠ some b := by
  intro hb'
  rcases h.2 with ⟨e1, h0⟩ | ⟨g, c, cur, e1, _, hw, _⟩
  · rw [e1] at hb
    cases hb
  · rcases h'.2 with ⟨e2, h0⟩ | ⟨g', c', cur', e2, _, hw', _⟩
    · rw [e2] at hb'
      cases hb'
    · rw [e1] at hb
      rw [e2] at hb'
      have a1 : g = b := by injection hb
      have a2 : g' = b := by injection hb'
      subst a1
      subst a2
      rw [hw] at hw'
      injection hw' with h1
      injection h1 with h2 h3
      exact ht h3
/-- One row is written anew. -/
theorem Rws.put (h : Rws wr lo hi v K AS len R) {i : Nat} (hi' : i < K) (hn : RowO w2 lo hi 3 (AS i) (len i) (numL (len i) (R' i))) (hg : wr.grownBy w2 (AS i).ownBlock) (hr : ∀ j, j < K → j ≠ i → R' j = R j) : Rws w2 lo hi v K AS len R' := by
  refine ⟨⟨?_, h.out.hib⟩, fun j hj => ?_, h.sep⟩
  · rcases e : (AS i).ownBlock with _ | b
    · rw [e] at hg
      exact World.ownsRow.kept h.out.own hg (Classical.em _)
    · exact World.ownsRow.kept h.out.own hg (.inr (by rw [e]; exact rows_other (h.row i hi').own h.out.own (by decide) e))
  · by_cases e : j = i
    · rw [e]
      exact hn
    · rw [hr j hj e]
      refine ⟨?_, (h.row j hj).hib⟩
      rcases eb : (AS i).ownBlock with _ | b
      · rw [eb] at hg
        exact World.ownsRow.kept (h.row j hj).own hg (Classical.em _)
      · exact World.ownsRow.kept (h.row j hj).own hg (.inr (by rw [eb]; exact fun e' => e (h.sep j i b hj hi' e' eb)))
/-- The outer row as a slice, and its cells. -/
theorem Rws.shape (h : Rws wr lo hi v K AS len R) : ∃ A c, v = .slice A K c ∧ (K = 0 ∨ ∃ g, A = some ⟨g, 0, none⟩ ∧ ∀ j, j < K → wr.cell? ⟨g, j, none⟩ = some (AS j)) := by
  rcases h.out.own.2 with ⟨e', h0⟩ | ⟨g', cap', cur, e', _⟩
  · exact ⟨none, 0, by rw [e', h0], .inl h0⟩
  · have ho := h.out.own
    rw [e'] at ho
    refine ⟨some ⟨g', 0, none⟩, cap', e', .inr ⟨g', rfl, fun j hj => ?_⟩⟩
    have := World.ownsRow.cellAt ho j (by omega)
    rw [this]
    simp [hj]
/-- A row as a slice. -/
theorem Rws.nums (h : Rws wr lo hi v K AS len R) {j : Nat} (hj : j < K) : ∃ A c, AS j = .slice A (len j) c ∧ Nums wr A (len j) (R j) := (h.row j hj).nums
end
/-- The marks from m on. -/
def mkR (m : Nat) (len : Nat → Nat) (j i : Nat) : Int := ((m + ps len j : Nat) : Int) + (i : Int)
end Go.Proofs.YtblnchcgeepemaaDoor

namespace Go.Proofs.YtblnchcgeepemaaDoor
open Go.RowKit
section
variable {wr w2 w3 : World} {lo hi : Nat} {v : Value} {K : Nat} {AS AS' : Nat → Value} {len : Nat → Nat} {R R' : Nat → Nat → Int}
/-- One more row behind the others. -/
theorem Rws.snoc (h : Rws wr lo hi v K AS len R) (hhi : hi ≤ wr.heap.size) (hlo : lo ≤ wr.heap.size) {u v8 : Value} (hu : w2.ownsRow wr.heap.size 3 1 u (len K) (numL (len K) (R' K))) (hg : wr.grownBy w2 none)
    (h8 : w3.ownsRow lo 25 1 v8 (K + 1) ((List.range K).map AS ++ [u])) (hg3 : w2.grownBy w3 v.ownBlock) (hR : ∀ j, j < K → R' j = R j) (hA : ∀ j, j < K → AS' j = AS j) (hAK : AS' K = u) : Rws w3 lo w3.heap.size v8 (K + 1) AS' len R' := by
  have hs := hg.size
  have hs3 := hg3.size
  have hmap : (List.range (K + 1)).map AS' = (List.range K).map AS ++ [u] := by
    rw [List.range_succ, List.map_append]
    congr 1
    · exact List.map_congr_left fun j hj => hA j (List.mem_range.1 hj)
    · show [AS' K] = [u]
      rw [hAK]
  have hnew : ∀ b, u.ownBlock = some b → wr.heap.size ≤ b := fun b hb => (World.ownsRow.lt hu b hb).1
  have hold : ∀ j b, j < K → (AS j).ownBlock = some b → b < wr.heap.size := fun j b hj hb => by
    have := ((h.row j hj).rng hb).2
    omega
  refine ⟨⟨by rw [hmap]; exact h8, fun i hi' => (World.ownsRow.lt h8 i hi').2⟩, fun j hj => ?_, fun i j b hi' hj e1 e2 => ?_⟩
  · by_cases e : j = K
    · subst e
      rw [hAK]
      have hk : w3.ownsRow wr.heap.size 3 1 u (len j) (numL (len j) (R' j)) := by
        refine World.ownsRow.kept hu hg3 ?_
        rcases eu : u.ownBlock with _ | b
        · exact .inl rfl
        · refine .inr fun e' => ?_
          have h1 := hnew b eu
          have h2 := (h.out.rng (i := b) e'.symm).2
          omega
      exact ⟨World.ownsRow.mono hk hlo, fun i hi' => (World.ownsRow.lt hk i hi').2⟩
    · have hj' : j < K := by omega
      rw [hA j hj', hR j hj']
      have h2 := (h.row j hj').grown hg
      refine ⟨?_, fun i hi' => by
        have := hold j i hj' hi'
        omega⟩
      rcases eb : v.ownBlock with _ | b
      · rw [eb] at hg3
        exact World.ownsRow.kept h2.own hg3 (Classical.em _)
      · refine World.ownsRow.kept h2.own hg3 (.inr ?_)
        rw [eb]
        exact rows_other h.out.own (h.row j hj').own (by decide) eb
  · by_cases ei : i = K
    · by_cases ej : j = K
      · omega
      · rw [ei, hAK] at e1
        rw [hA j (by omega)] at e2
        have h1 := hnew b e1
        have h2 := hold j b (by omega) e2
        omega
    · by_cases ej : j = K
      · rw [ej, hAK] at e2
        rw [hA i (by omega)] at e1
        have h1 := hnew b e2
        have h2 := hold i b (by omega) e1
        omega
      · rw [hA i (by omega)] at e1
        rw [hA j (by omega)] at e2
        exact h.sep i j b (by omega) (by omega) e1 e2
/-- Another row in place of one. -/
theorem Rws.swap {g c : Nat} (h : Rws wr lo hi (.slice (some ⟨g, 0, none⟩) K c) K AS len R) (hhi : hi ≤ wr.heap.size) (hlo : lo ≤ wr.heap.size) {u : Value} {k : Nat} (hk : k < K) (hu : w2.ownsRow wr.heap.size 3 1 u (len k) (numL (len k) (R' k))) (hg : wr.grownBy w2 none)
    (hR : ∀ j, j < K → j ≠ k → R' j = R j) (hA : ∀ j, j < K → j ≠ k → AS' j = AS j) (hAk : AS' k = u) : Rws (w2.setCell ⟨g, k, none⟩ u) lo w2.heap.size (.slice (some ⟨g, 0, none⟩) K c) K AS' len R' := by
  have hs := hg.size
  have hnew : ∀ b, u.ownBlock = some b → wr.heap.size ≤ b ∧ b < w2.heap.size := fun b hb => World.ownsRow.lt hu b hb
  have hold : ∀ j b, j < K → (AS j).ownBlock = some b → b < wr.heap.size := fun j b hj hb => by
    have := ((h.row j hj).rng hb).2
    omega
  have h2 := h.grown hg
  have hst := (World.ownsRow.stored h2.out.own k u).1
  have hgs : w2.grownBy (w2.setCell ⟨g, k, none⟩ u) (some g) := grown_set g k u
  have hgb : (Value.slice (some ⟨g, 0, none⟩) K c).ownBlock = some g := rfl
  have hmap : (List.range K).map AS' = ((List.range K).map AS).set k u := by
    apply List.ext_getElem?
    intro j
    by_cases e : k = j
    · subst e
      rw [List.getElem?_set_self (by simpa using hk)]
      simp [hk, hAk]
    · rw [List.getElem?_set_ne e]
      by_cases hj : j < K
      · simp [hj, hA j hj (fun e' => e e'.symm)]
      · simp [hj]
  refine ⟨⟨by rw [hmap]; exact hst, fun i hi' => ?_⟩, fun j hj => ?_, fun i j b hi' hj e1 e2 => ?_⟩
  · have := (h.out.rng hi').2
    omega
  · by_cases e : j = k
    · subst e
      rw [hAk]
      have hk' : (w2.setCell ⟨g, j, none⟩ u).ownsRow wr.heap.size 3 1 u (len j) (numL (len j) (R' j)) := by
        refine World.ownsRow.kept hu hgs ?_
        rcases eu : u.ownBlock with _ | b
        · exact .inl rfl
        · refine .inr fun e' => ?_
          injection e' with e'
          have h1 := (hnew b eu).1
          have h2 := (h.out.rng (i := b) (by rw [hgb, e'])).2
          omega
      exact ⟨World.ownsRow.mono hk' hlo, fun i hi' => (hnew i hi').2⟩
    · rw [hA j hj e, hR j hj e]
      refine ⟨World.ownsRow.kept (h2.row j hj).own hgs (.inr (rows_other h.out.own (h.row j hj).own (by decide) hgb)), fun i hi' => ?_⟩
      have := hold j i hj hi'
      omega
  · by_cases ei : i = k
    · by_cases ej : j = k
      · omega
      · rw [ei, hAk] at e1
        rw [hA j hj ej] at e2
        have h1 := (hnew b e1).1
        have h2 := hold j b hj e2
        omega
    · by_cases ej : j = k
      · rw [ej, hAk] at e2
        rw [hA i hi' ei] at e1
        have h1 := (hnew b e2).1
        have h2 := hold i b hi' e1
        omega
      · rw [hA i hi' ei] at e1
        rw [hA j hj ej] at e2
        exact h.sep i j b hi' hj e1 e2
end
end Go.Proofs.YtblnchcgeepemaaDoor

namespace Go.Proofs.YtblnchcgeepemaaDoor
open Go.RowKit
/-- What a call leaves that makes rows of rows of numbers. -/
def RwsRes (K : Nat) (len : Nat → Nat) (R : Nat → Nat → Int) (w : World) (e : Ending) (w' : World) : Prop :=
  ∃ (v : Value) (AS : Nat → Value), e = .returned v ∧ Rws w' w.heap.size w'.heap.size v K AS len R ∧ w.grownBy w' none
theorem RwsRes.nil (len : Nat → Nat) (R : Nat → Nat → Int) (w w' : World) (hg : w.grownBy w' none) : RwsRes 0 len R w (.returned (.slice none 0 0)) w' :=
  ⟨_, fun _ => .slice none 0 0, rfl, ⟨⟨World.ownsRow_nil _ _ _ _, fun _ h => (by cases h)⟩, fun j hj => absurd hj (Nat.not_lt_zero j), fun i _ _ hi => absurd hi (Nat.not_lt_zero i)⟩, hg⟩
theorem RwsRes.row {K : Nat} {len : Nat → Nat} {R : Nat → Nat → Int} {w w' : World} {e : Ending} (h : RwsRes K len R w e w') : ∃ (v : Value) (AS : Nat → Value), e = .returned v ∧ Rws w' w.heap.size w'.heap.size v K AS len R ∧ w.grownBy w' none := h
theorem RwsRes.congr {K : Nat} {len : Nat → Nat} {R R' : Nat → Nat → Int} {w w' : World} {e : Ending} (h : RwsRes K len R w e w') (hr : ∀ j i, j < K → i < len j → R j i = R' j i) : RwsRes K len R' w e w' := by
  obtain ⟨v, AS, he, hR, hg⟩ := h
  exact ⟨v, AS, he, hR.congr hr, hg⟩
theorem Rws.lower {wr : World} {lo lo' hi hi' : Nat} {v : Value} {K : Nat} {AS : Nat → Value} {len : Nat → Nat} {R : Nat → Nat → Int} (h : Rws wr lo hi v K AS len R) (hl : lo' ≤ lo) (hh : hi ≤ hi') : Rws wr lo' hi' v K AS len R :=
  ⟨⟨World.ownsRow.mono h.out.own hl, fun b hb => Nat.lt_of_lt_of_le (h.out.hib b hb) hh⟩, fun j hj => ⟨World.ownsRow.mono (h.row j hj).own hl, fun b hb => Nat.lt_of_lt_of_le ((h.row j hj).hib b hb) hh⟩, h.sep⟩
theorem RwsRes.after {K : Nat} {len : Nat → Nat} {R : Nat → Nat → Int} {w w1 w2 : World} {e : Ending} (hg : w.grownBy w1 none) (h : RwsRes K len R w1 e w2) : RwsRes K len R w e w2 := by
  obtain ⟨v, AS, he, hR, h2⟩ := h
  exact ⟨v, AS, he, hR.lower hg.size (Nat.le_refl _), grown_same hg h2⟩
theorem SC.chg {w wr w2 : World} {A : Option Addr} {n : Nat} {F : Nat → Ins} {lo hi : Nat} (h : SC w wr A n F) (hc : Chg wr w2 lo hi) (hl : w.heap.size ≤ lo) : SC w w2 A n F := ⟨h.wt0, h.code0, Chg.grown h.base hc hl⟩
end Go.Proofs.YtblnchcgeepemaaDoor
