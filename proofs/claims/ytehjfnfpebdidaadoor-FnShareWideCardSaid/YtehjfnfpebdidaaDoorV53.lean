/- Rows compared by the laws over draws. -/
import Derived.Test.YtehjfnfpebdidaaDoorV52
import Derived.Test.YtehjfnfpebdidaaDoorW831
import Derived.Test.YtehjfnfpebdidaaDoorV50
namespace Go.Proofs.YtehjfnfpebdidaaDoor
open Go.RowKit
theorem equalInts_rows (lo1 hi1 lo2 hi2 K : Nat) (v1 v2 : Value) (f : Nat → Int) (w : World) (hK : K ≤ 300) (h1 : RowO w lo1 hi1 3 v1 K (numL K f)) (h2 : RowO w lo2 hi2 3 v2 K (numL K f)) :
    Calls Tryd.prog 9 #[v1, v2] w fun e w' => e = .returned (.bool true) ∧ w.grownBy w' none := by
  obtain ⟨A1, c1, rfl, hn1⟩ := h1.nums
  obtain ⟨A2, c2, rfl, hn2⟩ := h2.nums
  refine (equalInts_any A1 A2 c1 c2 K f f w (by omega) hn1 hn2 (fun _ _ => rfl)).mono ?_
  rintro e w' ⟨rfl, m, rfl⟩
  exact ⟨rfl, grown_drewN (grown_refl _ _) _⟩
theorem nums_on {w w' : World} {A : Option Addr} {n : Nat} {f : Nat → Int} (h : Nums w A n f) (hg : w.grownBy w' none) : Nums w' A n f := h.grown hg (by intro _ _ _ e; cases e)
/-- What a row of numbers is that a call has answered: its own, and long enough. -/
theorem NumRes.num {k : Nat} {f : Nat → Int} {w w' : World} {e : Ending} (h : NumRes k f w e w') : ∃ A c, e = .returned (.slice A k c) ∧ k ≤ c ∧ c ≤ maxLen ∧ Nums w' A k f ∧ RowO w' w.heap.size w'.heap.size 3 (.slice A k c) k (numL k f) ∧ w.grownBy w' none := by
  obtain ⟨v, e1, ho, hg⟩ := h
  obtain ⟨v', e2, hR, -⟩ := NumRes.row ⟨v, e1, ho, hg⟩
  subst e1
  injection e2 with e2
  subst e2
  obtain ⟨A, c, rfl, hn⟩ := hR.nums
  refine ⟨A, c, rfl, ?_, ?_, hn, hR, hg⟩
  all_goals
    rcases ho.2 with ⟨e, h0⟩ | ⟨_, _, _, e, _, _, h1, h2, _⟩
    · injection e with _ _ e
      subst e
      first | omega | (unfold maxLen; omega)
    · injection e with _ _ e
      subst e
      first | exact h1 | exact h2
theorem nums_cut {w : World} {A : Option Addr} {n m : Nat} {f : Nat → Int} (h : Nums w A n f) (hm : m ≤ n) : Nums w A m f := by
  rcases h with h | ⟨b, off, hA, hb, hc⟩
  · exact .inl (by omega)
  · exact .inr ⟨b, off, hA, hb, fun j hj => hc j (by omega)⟩
end Go.Proofs.YtehjfnfpebdidaaDoor
