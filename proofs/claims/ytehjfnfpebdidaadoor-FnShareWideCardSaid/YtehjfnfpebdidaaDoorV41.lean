/- What is shared, by the program: both rows as they grow. -/
import Derived.Test.YtehjfnfpebdidaaDoorV40
import Derived.Test.YtehjfnfpebdidaaDoorW890
import Derived.Deep.DeepCutAuto
namespace Go.Proofs.YtehjfnfpebdidaaDoor
open Go.RowKit
set_option linter.unusedSimpArgs false
theorem rows_other {W : World} {B B' : Nat} {e e' : TypeId} {z z' : Nat} {v v' : Value} {n n' : Nat} {xs xs' : List Value} (h : W.ownsRow B e z v n xs) (h' : W.ownsRow B' e' z' v' n' xs') (ht : e ≠ e') {b : Nat} (hb : v.ownBlock = some b) : v'.ownBlock ≠ some b := by
  intro hb'
  rcases h.2 with ⟨e1, h0⟩ | ⟨g, c, cur, e1, _, hw, _⟩
  · rw [e1] at hb
    cases hb
  · rcases h'.2 with ⟨e2, h0⟩ | ⟨g', c', cur', e2, _, hw', _⟩
    · rw [e2] at hb'
      cases hb'
    · rw [e1] at hb
      rw [e2] at hb'
      have a1 : g = b := by injection hb
      have a2 : g' = b := by injection hb'
      subst a1
      subst a2
      rw [hw] at hw'
      injection hw' with h1
      injection h1 with h2 h3
      exact ht h3
theorem kept_ty {W W' : World} {B B' : Nat} {e e' : TypeId} {z z' : Nat} {v v' : Value} {n n' : Nat} {xs xs' : List Value} (h : W.ownsRow B e z v n xs) (h' : W.ownsRow B' e' z' v' n' xs') (ht : e ≠ e') (hg : W.grownBy W' v.ownBlock) : W'.ownsRow B' e' z' v' n' xs' := by
  rcases eb : v.ownBlock with _ | b
  · rw [eb] at hg
    exact ownsRow_on h' hg
  · exact World.ownsRow.kept h' hg (.inr (by rw [eb]; exact rows_other h h' ht eb))
/-- Rows that are put together: what is left, and where each one stands. -/
structure ShO (w wr : World) (F : Nat → Wid) (i : Nat) (v1 v2 : Value) : Prop where
  o1 : wr.ownsRow w.heap.size 43 4 v1 (shS F i).1.length (wideL (shS F i).1.length (fun j => (shS F i).1.getD j zWid))
  o2 : wr.ownsRow w.heap.size 3 1 v2 i (numL i (fun j => (((shS F i).2.getD j 0 : Nat) : Int)))
  low : w.grownBy wr none
theorem ShO.on {w wr w2 : World} {F : Nat → Wid} {i : Nat} {v1 v2 : Value} (h : ShO w wr F i v1 v2) (hg : wr.grownBy w2 none) : ShO w w2 F i v1 v2 := ⟨ownsRow_on h.o1 hg, ownsRow_on h.o2 hg, grown_same h.low hg⟩
/-- What a call leaves that makes a row of wide instructions and one of numbers. -/
def ShRes (k : Nat) (f : Nat → Wid) (n : Nat) (g : Nat → Int) (w : World) (e : Ending) (w' : World) : Prop :=
  ∃ v1 v2, e = .returned (.tuple #[v1, v2]) ∧ w'.ownsRow w.heap.size 43 4 v1 k (wideL k f) ∧ w'.ownsRow w.heap.size 3 1 v2 n (numL n g) ∧ w.grownBy w' none
/-- The row of wide instructions can be read. -/
theorem wds_of {w : World} {B k : Nat} {v : Value} {f : Nat → Wid} (h : w.ownsRow B 43 4 v k (wideL k f)) : ∃ A c, v = .slice A k c ∧ Wds w A k f := by
  rcases h.2 with ⟨e', h0⟩ | ⟨g', cap', cur, e', _⟩
  · exact ⟨none, 0, by rw [e', h0], .inl h0⟩
  · rw [e'] at h
    exact ⟨some ⟨g', 0, none⟩, cap', e', OwnW.wds h⟩
theorem nums_of {w : World} {B k : Nat} {v : Value} {f : Nat → Int} (h : w.ownsRow B 3 1 v k (numL k f)) : ∃ A c, v = .slice A k c ∧ Nums w A k f := by
  rcases h.2 with ⟨e', h0⟩ | ⟨g', cap', cur, e', _⟩
  · exact ⟨none, 0, by rw [e', h0], .inl h0⟩
  · rw [e'] at h
    exact ⟨some ⟨g', 0, none⟩, cap', e', Own.nums h⟩
theorem lst_get (l : List Wid) (j : Nat) (h : j < l.length) : l[j]? = some (l.getD j zWid) := by
  rw [List.getD_eq_getElem?_getD, List.getElem?_eq_getElem h]
  rfl
/-- One more that stands already. -/
theorem ShO.old {w wr w2 : World} {F : Nat → Wid} {i : Nat} {v1 v2 u2 : Value} (h : ShO w wr F i v1 v2) (hf : firstW (shS F i).1 (mvW (F i) (shS F i).2) < (shS F i).1.length)
    (p2 : w2.ownsRow w.heap.size 3 1 u2 (i + 1) (numL i (fun j => (((shS F i).2.getD j 0 : Nat) : Int)) ++ [.int .i64 (firstW (shS F i).1 (mvW (F i) (shS F i).2) : Int)])) (hg : wr.grownBy w2 v2.ownBlock) : ShO w w2 F (i + 1) v1 u2 := by
  have e1 : (shS F (i + 1)).1 = (shS F i).1 := by simp only [shS, shNext]; rw [if_neg (by omega)]
  have hl := (shS_len F i).1
  have e2 : numL i (fun j => (((shS F i).2.getD j 0 : Nat) : Int)) ++ [.int .i64 (firstW (shS F i).1 (mvW (F i) (shS F i).2) : Int)] = numL (i + 1) (fun j => (((shS F (i + 1)).2.getD j 0 : Nat) : Int)) := by
    rw [← numL_snoc, numL_congr i (fun j => (((shS F i).2.getD j 0 : Nat) : Int)) (fun j => (((shS F (i + 1)).2.getD j 0 : Nat) : Int)) (fun j hj => by
      simp only [shS, shNext]
      rw [List.getD_eq_getElem?_getD, List.getD_eq_getElem?_getD, List.getElem?_append_left (by omega)])]
    simp only [shS, shNext]
    rw [List.getD_eq_getElem?_getD, List.getElem?_append_right (by omega), hl, Nat.sub_self]
    rfl
  rw [e2] at p2
  refine ⟨by rw [e1]; exact kept_ty h.o2 h.o1 (by decide) hg, p2, grown_row h.low hg (fun j e => (World.ownsRow.lt h.o2 j e).1)⟩
/-- One more that stands not yet. -/
theorem ShO.new {w wr w2 w3 w4 : World} {F : Nat → Wid} {i : Nat} {v1 v2 u1 u2 : Value} (h : ShO w wr F i v1 v2) (hf : firstW (shS F i).1 (mvW (F i) (shS F i).2) = (shS F i).1.length) {c : Wid} (hc : mvW (F i) (shS F i).2 = c)
    (p1 : w2.ownsRow w.heap.size 43 4 u1 ((shS F i).1.length + 1) (wideL (shS F i).1.length (fun j => (shS F i).1.getD j zWid) ++ [.string c.op, .int .i64 c.a, .int .i64 c.b, .int .i64 c.k])) (hg : wr.grownBy w2 v1.ownBlock) (hg3 : w2.grownBy w3 none)
    (p2 : w4.ownsRow w.heap.size 3 1 u2 (i + 1) (numL i (fun j => (((shS F i).2.getD j 0 : Nat) : Int)) ++ [.int .i64 ((shS F i).1.length : Int)])) (hg4 : w3.grownBy w4 v2.ownBlock) : ShO w w4 F (i + 1) u1 u2 := by
  have e1 : (shS F (i + 1)).1 = (shS F i).1 ++ [c] := by simp only [shS, shNext]; rw [if_pos hf, hc]
  have hl := (shS_len F i).1
  have e0 : (shS F (i + 1)).1.length = (shS F i).1.length + 1 := by rw [e1]; simp
  have e3 : wideL (shS F i).1.length (fun j => (shS F i).1.getD j zWid) ++ [.string c.op, .int .i64 c.a, .int .i64 c.b, .int .i64 c.k] = wideL (shS F (i + 1)).1.length (fun j => (shS F (i + 1)).1.getD j zWid) := by
    rw [wideL_snoc, e0]
    refine wideL_congr _ _ _ (fun j hj => ?_)
    rw [e1]
    by_cases e : j = (shS F i).1.length
    · rw [if_pos e, e, List.getD_eq_getElem?_getD, List.getElem?_append_right (by omega), Nat.sub_self]
      rfl
    · rw [if_neg e, List.getD_eq_getElem?_getD, List.getD_eq_getElem?_getD, List.getElem?_append_left (by omega)]
  have e2 : numL i (fun j => (((shS F i).2.getD j 0 : Nat) : Int)) ++ [.int .i64 ((shS F i).1.length : Int)] = numL (i + 1) (fun j => (((shS F (i + 1)).2.getD j 0 : Nat) : Int)) := by
    rw [← numL_snoc, numL_congr i (fun j => (((shS F i).2.getD j 0 : Nat) : Int)) (fun j => (((shS F (i + 1)).2.getD j 0 : Nat) : Int)) (fun j hj => by
      simp only [shS, shNext]
      rw [List.getD_eq_getElem?_getD, List.getD_eq_getElem?_getD, List.getElem?_append_left (by omega)])]
    simp only [shS, shNext]
    rw [List.getD_eq_getElem?_getD, List.getElem?_append_right (by omega), hl, Nat.sub_self, hf]
    rfl
  rw [e3, ← e0] at p1
  rw [e2] at p2
  have o2' := ownsRow_on (kept_ty h.o1 h.o2 (by decide) hg) hg3
  refine ⟨kept_ty o2' (ownsRow_on p1 hg3) (by decide) hg4, p2, grown_row (grown_same (grown_row h.low hg (fun j e => (World.ownsRow.lt h.o1 j e).1)) hg3) hg4 (fun j e => (World.ownsRow.lt o2' j e).1)⟩
end Go.Proofs.YtehjfnfpebdidaaDoor
