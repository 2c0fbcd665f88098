/- Rows of different kinds never share a block. -/
import Derived.Test.YtcfnoihjpiklhaaDoorW90
namespace Go.Proofs.YtcfnoihjpiklhaaDoor
open Go.RowKit
theorem rows_other {W : World} {B B' : Nat} {e e' : TypeId} {z z' : Nat} {v v' : Value} {n n' : Nat} {xs xs' : List Value} (h : W.ownsRow B e z v n xs) (h' : W.ownsRow B' e' z' v' n' xs') (ht : e ≠ e') {b : Nat} (hb : v.ownBlock = some b) : v'.ownBlock ≠ some b := by
  intro hb'
  rcases h.2 with ⟨e1, h0⟩ | ⟨g, c, cur, e1, _, hw, _⟩
  · rw [e1] at hb
    cases hb
  · rcases h'.2 with ⟨e2, h0⟩ | ⟨g', c', cur', e2, _, hw', _⟩
    · rw [e2] at hb'
      cases hb'
    · rw [e1] at hb
      rw [e2] at hb'
      have a1 : g = b := by injection hb
      have a2 : g' = b := by injection hb'
      subst a1
      subst a2
      rw [hw] at hw'
      injection hw' with h1
      injection h1 with h2 h3
      exact ht h3
end Go.Proofs.YtcfnoihjpiklhaaDoor
