/- Rows that a call has made: what changes them, what does not; their marks. -/
import Derived.Test.YtcfnoihjpiklhaaDoorG94
import Derived.Test.YtcfnoihjpiklhaaDoorG77
namespace Go.Proofs.YtcfnoihjpiklhaaDoor
open Go.RowKit
/-- A row that a call has made, in a stretch of memory. -/
structure RowO (wr : World) (lo hi : Nat) (e : TypeId) (v : Value) (K : Nat) (xs : List Value) : Prop where
  own : wr.ownsRow lo e 1 v K xs
  hib : ∀ i, v.ownBlock = some i → i < hi
section
variable {w w' wr w2 : World} {lo hi : Nat} {e : TypeId} {v : Value} {K : Nat} {xs : List Value} {Q1 Q2 : Option Addr}
theorem RowO.rng (h : RowO wr lo hi e v K xs) {i : Nat} (hi' : v.ownBlock = some i) : lo ≤ i ∧ i < hi := ⟨(World.ownsRow.lt h.own i hi').1, h.hib i hi'⟩
theorem RowO.grown (h : RowO wr lo hi e v K xs) (hg : wr.grownBy w2 none) : RowO w2 lo hi e v K xs := ⟨ownsRow_on h.own hg, h.hib⟩
theorem RowO.row {row : Option Nat} (h : RowO wr lo hi e v K xs) (hg : wr.grownBy w2 row) (hb : ∀ b, row = some b → b < lo ∨ hi ≤ b) : RowO w2 lo hi e v K xs := by
  refine ⟨?_, h.hib⟩
  rcases hv : v.ownBlock with _ | i
  · exact World.ownsRow.kept h.own hg (.inl hv)
  · refine World.ownsRow.kept h.own hg (.inr fun e' => ?_)
    rw [hv] at e'
    have h1 := h.rng hv
    have h2 := hb i e'.symm
    omega
theorem RowO.butO {lo' hi' : Nat} (h : RowO wr lo hi e v K xs) (hg : ButO wr w2 Q1 Q2) (hq : Within lo' hi' Q1 Q2) (hl : hi ≤ lo' ∨ hi' ≤ lo) : RowO w2 lo hi e v K xs := by
  refine ⟨⟨h.own.1, ?_⟩, h.hib⟩
  rcases h.own.2 with h' | ⟨g', cap', cur, e', hB, hg', rest⟩
  · exact .inl h'
  · have hr := h.rng (i := g') (by rw [e']; rfl)
    have hlt := (World.ownsRow.lt h.own g' (by rw [e']; rfl)).2
    refine .inr ⟨g', cap', cur, e', hB, ?_, rest⟩
    rw [hg.block g' hlt (hq.ne (by omega)).1 (hq.ne (by omega)).2]
    exact hg'
theorem RowO.nums {f : Nat → Int} (h : RowO wr lo hi 3 v K (numL K f)) : ∃ A c, v = .slice A K c ∧ Nums wr A K f := by
  rcases h.own.2 with ⟨e', h0⟩ | ⟨g', cap', cur, e', _⟩
  · exact ⟨none, 0, by rw [e', h0], .inl h0⟩
  · have ho := h.own
    rw [e'] at ho
    exact ⟨some ⟨g', 0, none⟩, cap', e', Own.nums ho⟩
/-- Where the row lies, a block may be changed: what lies elsewhere stays. -/
theorem RowO.other (h : RowO wr lo hi e v K xs) {b : Nat} (hb : b < lo ∨ hi ≤ b) : v.ownBlock ≠ some b := fun e' => by
  have := h.rng e'
  omega
end
theorem NumRes.row {k : Nat} {f : Nat → Int} {w w' : World} {e : Ending} (h : NumRes k f w e w') : ∃ v, e = .returned v ∧ RowO w' w.heap.size w'.heap.size 3 v k (numL k f) ∧ w.grownBy w' none := by
  obtain ⟨v, he, ho, hg⟩ := h
  exact ⟨v, he, ⟨ho, fun i hi => (World.ownsRow.lt ho i hi).2⟩, hg⟩
theorem SX.row {w wr w2 : World} {B : Nat} {A : Option Addr} {n : Nat} {F : Nat → Ins} {at' : Int} {A1 : Option Addr} {n1 c1 : Nat} {A2 : Option Addr} {n2 c2 : Nat} {f1 f2 : Nat → Int} (h : SX w wr B A n F at' A1 n1 c1 A2 n2 c2 f1 f2) {row : Option Nat} (g : wr.grownBy w2 row) (hb : ∀ b, row = some b → w.heap.size < b) : SX w w2 B A n F at' A1 n1 c1 A2 n2 c2 f1 f2 := by
  cases row with
  | none => exact h.grown g
  | some b => exact h.but1 g (hb b rfl)
theorem markIntS_row (lo hi K : Nat) (v : Value) (f : Nat → Int) (m : Int) (w : World) (hm0 : 0 ≤ m) (hm : m + K ≤ 9223372036854775807) (h : RowO w lo hi 3 v K (numL K f)) :
    Calls Tryd.prog 39 #[v, .int .i64 m] w fun e w' => e = .returned (.int .i64 (m + K)) ∧ RowO w' lo hi 3 v K (numL K (fun j => m + (j : Int))) ∧ w.grownBy w' v.ownBlock := by
  rcases h.own.2 with ⟨e', h0⟩ | ⟨g', cap', cur, e', _⟩
  · subst e'
    subst h0
    refine (markIntS_zero none 0 m w).mono ?_
    rintro e w' ⟨rfl, rfl⟩
    exact ⟨by simp, ⟨h.own, h.hib⟩, grown_refl _ _⟩
  · have ho := h.own
    have hb := h.hib
    subst e'
    refine (markIntS_at lo g' K cap' f m w hm0 hm ho).mono ?_
    rintro e w' ⟨rfl, h1, h2⟩
    exact ⟨rfl, ⟨h1, hb⟩, h2⟩
theorem eqIntS_row (lo1 hi1 lo2 hi2 K : Nat) (v1 v2 : Value) (f : Nat → Int) (w : World) (hK : K ≤ 300) (h1 : RowO w lo1 hi1 3 v1 K (numL K f)) (h2 : RowO w lo2 hi2 3 v2 K (numL K f)) :
    Calls Tryd.prog 37 #[v1, v2] w fun e w' => e = .returned (.bool true) ∧ w.grownBy w' none := by
  obtain ⟨A1, c1, rfl, hn1⟩ := h1.nums
  obtain ⟨A2, c2, rfl, hn2⟩ := h2.nums
  refine (eqIntS_any A1 A2 c1 c2 K f f w (by omega) hn1 hn2 (fun _ _ => rfl)).mono ?_
  rintro e w' ⟨rfl, m, rfl⟩
  exact ⟨rfl, grown_drewN (grown_refl _ _) _⟩

end Go.Proofs.YtcfnoihjpiklhaaDoor
