/- Rows of rows of numbers that a call leaves; the exact laws' walk uses them. -/
import Derived.Test.YtlhfmjlcpcopkaaDoorW720d
import Derived.Test.YtlhfmjlcpcopkaaDoorW401d
namespace Go.Proofs.YtlhfmjlcpcopkaaDoor
open Go.RowKit
/-- What a call leaves that makes rows of rows of numbers. -/
def RwsRes (K : Nat) (len : Nat → Nat) (R : Nat → Nat → Int) (w : World) (e : Ending) (w' : World) : Prop :=
  ∃ (v : Value) (AS : Nat → Value), e = .returned v ∧ Rws w' w.heap.size w'.heap.size v K AS len R ∧ w.grownBy w' none
theorem RwsRes.nil (len : Nat → Nat) (R : Nat → Nat → Int) (w w' : World) (hg : w.grownBy w' none) : RwsRes 0 len R w (.returned (.slice none 0 0)) w' :=
  ⟨_, fun _ => .slice none 0 0, rfl, ⟨⟨World.ownsRow_nil _ _ _ _, fun _ h => (by cases h)⟩, fun j hj => absurd hj (Nat.not_lt_zero j), fun i _ _ hi => absurd hi (Nat.not_lt_zero i)⟩, hg⟩
theorem RwsRes.row {K : Nat} {len : Nat → Nat} {R : Nat → Nat → Int} {w w' : World} {e : Ending} (h : RwsRes K len R w e w') : ∃ (v : Value) (AS : Nat → Value), e = .returned v ∧ Rws w' w.heap.size w'.heap.size v K AS len R ∧ w.grownBy w' none := h
theorem RwsRes.congr {K : Nat} {len : Nat → Nat} {R R' : Nat → Nat → Int} {w w' : World} {e : Ending} (h : RwsRes K len R w e w') (hr : ∀ j i, j < K → i < len j → R j i = R' j i) : RwsRes K len R' w e w' := by
  obtain ⟨v, AS, he, hR, hg⟩ := h
  exact ⟨v, AS, he, hR.congr hr, hg⟩
theorem Rws.lower {wr : World} {lo lo' hi hi' : Nat} {v : Value} {K : Nat} {AS : Nat → Value} {len : Nat → Nat} {R : Nat → Nat → Int} (h : Rws wr lo hi v K AS len R) (hl : lo' ≤ lo) (hh : hi ≤ hi') : Rws wr lo' hi' v K AS len R :=
  ⟨⟨World.ownsRow.mono h.out.own hl, fun b hb => Nat.lt_of_lt_of_le (h.out.hib b hb) hh⟩, fun j hj => ⟨World.ownsRow.mono (h.row j hj).own hl, fun b hb => Nat.lt_of_lt_of_le ((h.row j hj).hib b hb) hh⟩, h.sep⟩
theorem RwsRes.after {K : Nat} {len : Nat → Nat} {R : Nat → Nat → Int} {w w1 w2 : World} {e : Ending} (hg : w.grownBy w1 none) (h : RwsRes K len R w1 e w2) : RwsRes K len R w e w2 := by
  obtain ⟨v, AS, he, hR, h2⟩ := h
  exact ⟨v, AS, he, hR.lower hg.size (Nat.le_refl _), grown_same hg h2⟩
theorem SC.chg {w wr w2 : World} {A : Option Addr} {n : Nat} {F : Nat → Ins} {lo hi : Nat} (h : SC w wr A n F) (hc : Chg wr w2 lo hi) (hl : w.heap.size ≤ lo) : SC w w2 A n F := ⟨h.wt0, h.code0, Chg.grown h.base hc hl⟩
end Go.Proofs.YtlhfmjlcpcopkaaDoor
