/- Rows that a call has made: what it means, what changes them. -/
import Derived.Test.YtlmjbflnfpccdaaDoorW52
import Derived.Test.YtlmjbflnfpccdaaDoorG60
import Derived.Test.YtlmjbflnfpccdaaDoorW9
import Derived.Test.YtlmjbflnfpccdaaDoorG37
import Derived.Test.YtlmjbflnfpccdaaDoorW77
import Derived.Deep.Onto
namespace Go.Proofs.YtlmjbflnfpccdaaDoor
open Go.RowKit
set_option linter.unusedSimpArgs false
/-- What a call leaves that makes a row of numbers. -/
def NumRes (k : Nat) (f : Nat → Int) (w : World) (e : Ending) (w' : World) : Prop :=
  ∃ v, e = .returned v ∧ w'.ownsRow w.heap.size 3 1 v k (numL k f) ∧ w.grownBy w' none
theorem ownsRow_slice {w : World} {B : Nat} {e : TypeId} {z : Nat} {v : Value} {n : Nat} {xs : List Value} (h : w.ownsRow B e z v n xs) : ∃ A c, v = .slice A n c ∧ ∀ b off, A = some ⟨b, off, none⟩ → B ≤ b ∧ b < w.heap.size := by
  rcases h.2 with ⟨e, h0⟩ | ⟨g', c, cur, e, hb, hw, hrest⟩
  · exact ⟨none, 0, by rw [e, h0], by intro _ _ e; cases e⟩
  · have hh := h
    subst e
    have hlt := World.ownsRow.lt hh g' rfl
    exact ⟨some ⟨g', 0, none⟩, c, rfl, by intro b off e; injection e with e; injection e with e1 e2; subst e1; exact hlt⟩
theorem ownsRow_on {w w' : World} {B : Nat} {e : TypeId} {z : Nat} {v : Value} {n : Nat} {xs : List Value} (h : w.ownsRow B e z v n xs) (hg : w.grownBy w' none) : w'.ownsRow B e z v n xs :=
  World.ownsRow.kept h hg (Classical.em _)
theorem numL_snoc (k : Nat) (f : Nat → Int) : numL k f ++ [.int .i64 (f k)] = numL (k + 1) f := by
  unfold numL
  rw [List.range_succ, List.map_append]
  rfl
theorem int_new (w : World) (t : TypeId) (x : Int) : ∀ j u, ([.int .i64 x] : List Value)[j]? = some u → (w.alloc (.cells #[.int .i64 x] t)).cell? ((⟨w.heap.size, 0, none⟩ : Addr).add j) = some u := by
  intro j u h
  rw [Addr.add_lit, Nat.zero_add, World.cell?_alloc_new]
  simpa using h
theorem int_one (x : Int) : ∀ u ∈ ([.int .i64 x] : List Value), u.oneCell' = true := by
  intro u hu
  simp only [List.mem_cons, List.not_mem_nil, or_false] at hu
  rw [hu]
  rfl
section
variable {w w' : World} {B : Nat}
theorem OwnC_on {g n c : Nat} {f : Nat → Ins} (h : OwnC w B (some ⟨g, 0, none⟩) n c f) (hg : w.grownBy w' none) : OwnC w' B (some ⟨g, 0, none⟩) n c f := World.ownsRow.kept h hg (.inr (by
  show some g ≠ none
  simp))
end
theorem OwnC_lt {w : World} {B g n c : Nat} {f : Nat → Ins} (h : OwnC w B (some ⟨g, 0, none⟩) n c f) : B ≤ g ∧ g < w.heap.size := World.ownsRow.lt h g rfl
/-- A row that a call has made, in a stretch of memory. -/
structure RowO (wr : World) (lo hi : Nat) (e : TypeId) (v : Value) (K : Nat) (xs : List Value) : Prop where
  own : wr.ownsRow lo e 1 v K xs
  hib : ∀ i, v.ownBlock = some i → i < hi
section
variable {w w' wr w2 : World} {lo hi : Nat} {e : TypeId} {v : Value} {K : Nat} {xs : List Value}
theorem RowO.rng (h : RowO wr lo hi e v K xs) {i : Nat} (hi' : v.ownBlock = some i) : lo ≤ i ∧ i < hi := ⟨(World.ownsRow.lt h.own i hi').1, h.hib i hi'⟩
theorem RowO.grown (h : RowO wr lo hi e v K xs) (hg : wr.grownBy w2 none) : RowO w2 lo hi e v K xs := ⟨ownsRow_on h.own hg, h.hib⟩
theorem RowO.row {row : Option Nat} (h : RowO wr lo hi e v K xs) (hg : wr.grownBy w2 row) (hb : ∀ b, row = some b → b < lo ∨ hi ≤ b) : RowO w2 lo hi e v K xs := by
  refine ⟨?_, h.hib⟩
  rcases hv : v.ownBlock with _ | i
  · exact World.ownsRow.kept h.own hg (.inl hv)
  · refine World.ownsRow.kept h.own hg (.inr fun e' => ?_)
    rw [hv] at e'
    have h1 := h.rng hv
    have h2 := hb i e'.symm
    omega
theorem RowO.nums {f : Nat → Int} (h : RowO wr lo hi 3 v K (numL K f)) : ∃ A c, v = .slice A K c ∧ Nums wr A K f := by
  rcases h.own.2 with ⟨e', h0⟩ | ⟨g', cap', cur, e', _⟩
  · exact ⟨none, 0, by rw [e', h0], .inl h0⟩
  · have ho := h.own
    rw [e'] at ho
    exact ⟨some ⟨g', 0, none⟩, cap', e', Own.nums ho⟩
/-- Where the row lies, a block may be changed: what lies elsewhere stays. -/
theorem RowO.other (h : RowO wr lo hi e v K xs) {b : Nat} (hb : b < lo ∨ hi ≤ b) : v.ownBlock ≠ some b := fun e' => by
  have := h.rng e'
  omega
end
theorem NumRes.row {k : Nat} {f : Nat → Int} {w w' : World} {e : Ending} (h : NumRes k f w e w') : ∃ v, e = .returned v ∧ RowO w' w.heap.size w'.heap.size 3 v k (numL k f) ∧ w.grownBy w' none := by
  obtain ⟨v, he, ho, hg⟩ := h
  exact ⟨v, he, ⟨ho, fun i hi => (World.ownsRow.lt ho i hi).2⟩, hg⟩
theorem markIntS_row (lo hi K : Nat) (v : Value) (f : Nat → Int) (m : Int) (w : World) (hm0 : 0 ≤ m) (hm : m + K ≤ 9223372036854775807) (h : RowO w lo hi 3 v K (numL K f)) :
    Calls Tryd.prog 21 #[v, .int .i64 m] w fun e w' => e = .returned (.int .i64 (m + K)) ∧ RowO w' lo hi 3 v K (numL K (fun j => m + (j : Int))) ∧ w.grownBy w' v.ownBlock := by
  rcases h.own.2 with ⟨e', h0⟩ | ⟨g', cap', cur, e', _⟩
  · subst e'
    subst h0
    refine (markIntS_zero none 0 m w).mono ?_
    rintro e w' ⟨rfl, rfl⟩
    exact ⟨by simp, ⟨h.own, h.hib⟩, grown_refl _ _⟩
  · have ho := h.own
    have hb := h.hib
    subst e'
    refine (markIntS_at lo g' K cap' f m w hm0 hm ho).mono ?_
    rintro e w' ⟨rfl, h1, h2⟩
    exact ⟨rfl, ⟨h1, hb⟩, h2⟩
theorem heldIntS_row (lo hi K : Nat) (v : Value) (m : Int) (w : World) (hm0 : 0 ≤ m) (hm : m + K ≤ 9223372036854775807) (h : RowO w lo hi 3 v K (numL K (fun j => m + (j : Int)))) :
    Calls Tryd.prog 22 #[v, .int .i64 m] w fun e w' => e = .returned (.int .i64 (m + K)) ∧ w = w' := by
  obtain ⟨A, c, rfl, hn⟩ := h.nums
  exact heldIntS_any A K c m w hm0 hm hn
theorem eqIntS_row (lo1 hi1 lo2 hi2 K : Nat) (v1 v2 : Value) (f : Nat → Int) (w : World) (hK : K ≤ 300) (h1 : RowO w lo1 hi1 3 v1 K (numL K f)) (h2 : RowO w lo2 hi2 3 v2 K (numL K f)) :
    Calls Tryd.prog 16 #[v1, v2] w fun e w' => e = .returned (.bool true) ∧ w.grownBy w' none := by
  obtain ⟨A1, c1, rfl, hn1⟩ := h1.nums
  obtain ⟨A2, c2, rfl, hn2⟩ := h2.nums
  refine (eqIntS_any A1 A2 c1 c2 K f f w (by omega) hn1 hn2 (fun _ _ => rfl)).mono ?_
  rintro e w' ⟨rfl, m, rfl⟩
  exact ⟨rfl, grown_drewN (grown_refl _ _) _⟩


end Go.Proofs.YtlmjbflnfpccdaaDoor
