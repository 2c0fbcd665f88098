/- Rows of instructions that a call has made; their marks. -/
import Derived.Test.YtjjjgjnhiffpnaaDoorW876
namespace Go.Proofs.YtjjjgjnhiffpnaaDoor
open Go.RowKit
/-- What a call leaves that makes a program. -/
def CodeRes (k : Nat) (f : Nat → Ins) (w : World) (e : Ending) (w' : World) : Prop :=
  ∃ v, e = .returned v ∧ w'.ownsRow w.heap.size 77 5 v k (codeL k f) ∧ w.grownBy w' none
theorem CodeRes.congr {k : Nat} {f g : Nat → Ins} {w w' : World} {e : Ending} (h : CodeRes k f w e w') (hf : ∀ y, y < k → f y = g y) : CodeRes k g w e w' := by
  obtain ⟨v, he, ho, hg⟩ := h
  exact ⟨v, he, by rw [← codeL_congr k f g hf]; exact ho, hg⟩
theorem CodeRes.after {k : Nat} {f : Nat → Ins} {w w1 w2 : World} {e : Ending} (hg : w.grownBy w1 none) (h : CodeRes k f w1 e w2) : CodeRes k f w e w2 := by
  obtain ⟨v, he, ho, h2⟩ := h
  exact ⟨v, he, World.ownsRow.mono ho hg.size, grown_same hg h2⟩
theorem CodeRes.nil (f : Nat → Ins) (w w' : World) (hg : w.grownBy w' none) : CodeRes 0 f w (.returned (.slice none 0 0)) w' := ⟨_, rfl, World.ownsRow_nil _ _ _ _, hg⟩
/-- A row of instructions that a call has made, in a stretch of memory. -/
structure RowC (wr : World) (lo hi : Nat) (v : Value) (K : Nat) (f : Nat → Ins) : Prop where
  own : wr.ownsRow lo 77 5 v K (codeL K f)
  hib : ∀ i, v.ownBlock = some i → i < hi
section
variable {w w' wr w2 : World} {lo hi : Nat} {v : Value} {K : Nat} {f : Nat → Ins}
theorem RowC.rng (h : RowC wr lo hi v K f) {i : Nat} (hi' : v.ownBlock = some i) : lo ≤ i ∧ i < hi := ⟨(World.ownsRow.lt h.own i hi').1, h.hib i hi'⟩
theorem RowC.grown (h : RowC wr lo hi v K f) (hg : wr.grownBy w2 none) : RowC w2 lo hi v K f := ⟨World.ownsRow.kept h.own hg (Classical.em _), h.hib⟩
theorem RowC.row {row : Option Nat} (h : RowC wr lo hi v K f) (hg : wr.grownBy w2 row) (hb : ∀ b, row = some b → b < lo ∨ hi ≤ b) : RowC w2 lo hi v K f := by
  refine ⟨?_, h.hib⟩
  rcases hv : v.ownBlock with _ | i
  · exact World.ownsRow.kept h.own hg (.inl hv)
  · refine World.ownsRow.kept h.own hg (.inr fun e' => ?_)
    rw [hv] at e'
    have h1 := h.rng hv
    have h2 := hb i e'.symm
    omega
theorem RowC.code (h : RowC wr lo hi v K f) : ∃ A c, v = .slice A K c ∧ Code wr A K f ∧ wr.ownsRow lo 77 5 (.slice A K c) K (codeL K f) := by
  have ho := h.own
  rcases h.own.2 with ⟨e', h0⟩ | ⟨g', cap', cur, e', _⟩
  · subst h0
    rw [e'] at ho
    exact ⟨none, 0, e', .inl rfl, ho⟩
  · rw [e'] at ho
    exact ⟨some ⟨g', 0, none⟩, cap', e', OwnC.code ho, ho⟩
end
theorem CodeRes.row {k : Nat} {f : Nat → Ins} {w w' : World} {e : Ending} (h : CodeRes k f w e w') : ∃ v, e = .returned v ∧ RowC w' w.heap.size w'.heap.size v k f ∧ w.grownBy w' none := by
  obtain ⟨v, he, ho, hg⟩ := h
  exact ⟨v, he, ⟨ho, fun i hi => (World.ownsRow.lt ho i hi).2⟩, hg⟩
theorem eqInstrS_row (lo1 hi1 lo2 hi2 K : Nat) (v1 v2 : Value) (f : Nat → Ins) (w : World) (hK : K ≤ 300) (h1 : RowC w lo1 hi1 v1 K f) (h2 : RowC w lo2 hi2 v2 K f) :
    Calls Tryd.prog 36 #[v1, v2] w fun e w' => e = .returned (.bool true) ∧ w.grownBy w' none := by
  obtain ⟨A1, c1, rfl, hn1, _⟩ := h1.code
  obtain ⟨A2, c2, rfl, hn2, _⟩ := h2.code
  exact eqInstrS_any A1 A2 c1 c2 K f w (by omega) hn1 hn2
theorem markInsS_row (lo hi K : Nat) (v : Value) (f : Nat → Ins) (w : World) (hK : K ≤ 300) (h : RowC w lo hi v K f) :
    Calls Tryd.prog 37 #[v, .int .i64 1] w fun e w' => e = .returned (.int .i64 (1 + 5 * (K : Int))) ∧ RowC w' lo hi v K (mkI 1) ∧ w.grownBy w' v.ownBlock := by
  have hb := h.hib
  obtain ⟨A1, c1, rfl, _, ho⟩ := h.code
  refine (markI_1 A1 lo K c1 f w (by omega) ho).mono ?_
  rintro e w' ⟨rfl, h1, h2⟩
  exact ⟨rfl, ⟨h1, hb⟩, h2⟩
theorem heldInsS_row (lo hi K : Nat) (v : Value) (w : World) (hK : K ≤ 300) (h : RowC w lo hi v K (mkI 1)) :
    Calls Tryd.prog 38 #[v, .int .i64 1] w fun e w' => e = .returned (.int .i64 (1 + 5 * (K : Int))) ∧ w.grownBy w' none := by
  obtain ⟨A1, c1, rfl, _, ho⟩ := h.code
  exact heldI_1 A1 lo K c1 w (by omega) ho
end Go.Proofs.YtjjjgjnhiffpnaaDoor
