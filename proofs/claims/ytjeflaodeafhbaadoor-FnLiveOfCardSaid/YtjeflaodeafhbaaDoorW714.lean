/- Registers that are not needed, changed: what stands while the law changes them; plain facts. -/
import Derived.Test.YtjeflaodeafhbaaDoorG700
import Derived.Test.YtjeflaodeafhbaaDoorG609
namespace Go.Proofs.YtjeflaodeafhbaaDoor
open Go.RowKit
set_option linter.unusedSimpArgs false
/-- The registers of the other machine when those below r are changed. -/
def othR (y : Int) (t : Int) (r j : Nat) : Int := if j < r ∧ bt y j = false then (trR t j + 91) % 256 else trR t j
/-- What stands while they are changed. -/
structure Oth (w0 wr : World) (bm bo g1 d1 g2 d2 g3 d3 g4 d4 : Nat) (t : Int) (f3 : Nat → Int) : Prop where
  low : w0.grownBy wr none
  m : Holds5 wr bm 29 #[.int .i64 0, .slice (some ⟨g1, 0, none⟩) 4 d1, .slice (some ⟨g2, 0, none⟩) 8 d2]
  o : Holds5 wr bo 29 #[.int .i64 0, .slice (some ⟨g3, 0, none⟩) 4 d3, .slice (some ⟨g4, 0, none⟩) 8 d4]
  n1 : Nums wr (some ⟨g1, 0, none⟩) 4 (trR t)
  n2 : Nums wr (some ⟨g2, 0, none⟩) 8 (trM t)
  n4 : Nums wr (some ⟨g4, 0, none⟩) 8 (trM t)
  own : Own wr w0.heap.size (some ⟨g3, 0, none⟩) 4 d3 f3
  sep : bm ≠ g3 ∧ bo ≠ g3 ∧ g1 ≠ g3 ∧ g2 ≠ g3 ∧ g4 ≠ g3
theorem Oth.set {w0 wr : World} {bm bo g1 d1 g2 d2 g3 d3 g4 d4 : Nat} {t : Int} {f3 f4 : Nat → Int} (h : Oth w0 wr bm bo g1 d1 g2 d2 g3 d3 g4 d4 t f3) (r : Nat) (x : Int) (hx : f4 r = x) (hf : ∀ j, j < 4 → j ≠ r → f3 j = f4 j) :
    Oth w0 (wr.setCell ⟨g3, r, none⟩ (.int .i64 x)) bm bo g1 d1 g2 d2 g3 d3 g4 d4 t f4 := by
  obtain ⟨s1, s2, s3, s4, s5⟩ := h.sep
  have h1 := (World.ownsRow.stored h.own r (.int .i64 x)).1
  rw [numL_set 4 f3 f4 r x hx hf] at h1
  have hg := grown_set (w := wr) g3 r (.int .i64 x)
  exact ⟨grown_then h.low hg h.own.lt.1, h.m.other (p := ⟨g3, r, none⟩) s1 _, h.o.other (p := ⟨g3, r, none⟩) s2 _,
    h.n1.grown hg (fun b off e e' => by injection e with e; injection e with e; injection e' with e'; omega),
    h.n2.grown hg (fun b off e e' => by injection e with e; injection e with e; injection e' with e'; omega),
    h.n4.grown hg (fun b off e e' => by injection e with e; injection e with e; injection e' with e'; omega), h1, h.sep⟩
theorem Oth.keep {w0 wr : World} {bm bo g1 d1 g2 d2 g3 d3 g4 d4 : Nat} {t : Int} {f3 f4 : Nat → Int} (h : Oth w0 wr bm bo g1 d1 g2 d2 g3 d3 g4 d4 t f3) (hf : ∀ j, j < 4 → f3 j = f4 j) : Oth w0 wr bm bo g1 d1 g2 d2 g3 d3 g4 d4 t f4 :=
  ⟨h.low, h.m, h.o, h.n1, h.n2, h.n4, Own.congr h.own hf, h.sep⟩
theorem Oth.on {w0 wr w2 : World} {bm bo g1 d1 g2 d2 g3 d3 g4 d4 : Nat} {t : Int} {f3 : Nat → Int} (h : Oth w0 wr bm bo g1 d1 g2 d2 g3 d3 g4 d4 t f3) (hg : wr.grownBy w2 none) : Oth w0 w2 bm bo g1 d1 g2 d2 g3 d3 g4 d4 t f3 :=
  ⟨grown_same h.low hg, h.m.grown hg (by intro e; cases e), h.o.grown hg (by intro e; cases e), nums_on h.n1 hg, nums_on h.n2 hg, nums_on h.n4 hg, World.ownsRow.kept h.own hg (Classical.em _), h.sep⟩
theorem othR_in (y t : Int) (r j : Nat) : 0 ≤ othR y t r j ∧ othR y t r j ≤ 255 := by
  unfold othR
  split
  · omega
  · exact trR_in t j
theorem oth_vm (y t : Int) (r : Nat) : vmB 0 4 8 (othR y t r) (trM t) = true := by
  have h1 : okL 4 (othR y t r) = true := okL_iff.2 (fun j _ => by have := othR_in y t r j; simp only [inRB, Bool.and_eq_true, decide_eq_true_eq]; exact this)
  have h2 : okL 8 (trM t) = true := okL_iff.2 (fun j _ => by have := trM_in t j; simp only [inRB, Bool.and_eq_true, decide_eq_true_eq]; exact this)
  simp [vmB, inRB, h1, h2]
/-- The other machine agrees on what is needed. -/
theorem oth_alike {F : Nat → Ins} {n : Nat} {y t : Int} (hy : ∀ r, r < 4 → (bt y r = true ↔ Need F n r 0)) : Alike F n ⟨0, trR t, trM t⟩ ⟨0, othR y t 4, trM t⟩ :=
  ⟨rfl, rfl, fun r hr hn => by
    show trR t r = othR y t 4 r
    unfold othR
    rw [if_neg (fun h => by
      have := (hy r hr).2 hn
      rw [h.2] at this
      cases this)]⟩
theorem bt_nat (y : Nat) (r : Nat) : (((y / 2 ^ r % 2 : Nat) : Int) == 0) = !bt (y : Int) r := by
  unfold bt
  have e : ((y : Int) / 2 ^ r % 2) = ((y / 2 ^ r % 2 : Nat) : Int) := by simp
  rw [e]
  rcases (show y / 2 ^ r % 2 = 0 ∨ y / 2 ^ r % 2 = 1 by omega) with h | h <;> rw [h] <;> rfl
end Go.Proofs.YtjeflaodeafhbaaDoor
