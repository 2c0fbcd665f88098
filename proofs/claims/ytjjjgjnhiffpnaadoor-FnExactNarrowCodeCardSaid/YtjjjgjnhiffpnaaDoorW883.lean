/- NarrowCode, by both. -/
import Derived.Test.YtjjjgjnhiffpnaaDoorW882
namespace Go.Proofs.YtjjjgjnhiffpnaaDoor
open Go.RowKit
theorem NarRes.row {k : Nat} {ok : Bool} {f : Nat → Ins} {w w' : World} {e : Ending} (h : NarRes k ok f w e w') : ∃ v, e = .returned (.tuple #[v, .bool ok]) ∧ RowC w' w.heap.size w'.heap.size v k f ∧ w.grownBy w' none := by
  obtain ⟨v, he, ho, hg⟩ := h
  exact ⟨v, he, ⟨ho, fun i hi => (World.ownsRow.lt ho i hi).2⟩, hg⟩
theorem nN_le (n : Nat) (F : Nat → Wid) (x : Int) : nN n F x ≤ 8 := by
  unfold nN okN
  rcases hv : vkB n F x with _ | _
  · exact Nat.zero_le _
  · rw [Bool.true_and]
    split
    · exact (vwB_iff.1 (vkB_iff.1 hv).1).2
    · exact Nat.zero_le _
theorem narrow_both (n : Nat) (F : Nat → Wid) (x : Int) (hn : n ≤ 9223372036854775807) :
    ∃ (K : Nat) (ok : Bool) (f : Nat → Ins), K ≤ 300 ∧ (∀ A c W, Wds W A n F → Calls Tryd.prog 34 #[.slice A n c, .int .i64 x] W (NarRes K ok f W)) ∧
      (∀ A c W, WT W → Wds W A n F → Calls Tryd.prog 35 #[.slice A n c, .int .i64 x] W (NarRes K ok f W)) :=
  ⟨nN n F x, okN n F x, nrI F (plW F x.toNat n), Nat.le_trans (nN_le n F x) (by omega), fun A c W h => SpecNarrowCode_any A n c x F W hn h, fun A c W hw h => NarrowCode_any A n c x F W hw hn h⟩
end Go.Proofs.YtjjjgjnhiffpnaaDoor
