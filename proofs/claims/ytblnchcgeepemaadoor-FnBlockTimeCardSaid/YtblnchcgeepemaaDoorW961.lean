/- WaitsOf, by the model. -/
import Derived.Test.YtblnchcgeepemaaDoorW952
import Derived.Test.YtblnchcgeepemaaDoorW958
import Derived.Deep.RegionHeld3
namespace Go.Proofs.YtblnchcgeepemaaDoor
open Go.RowKit
set_option linter.unusedSimpArgs false
theorem info41 : (Tryd.prog.info? 25).map (fun i => (i.zero, i.size, i.bytes)) = some (some (.slice none 0 0), 1, 24) := by kernel_rfl
theorem info3p : (Tryd.prog.info? 3).map (fun i => (i.zero, i.size, i.bytes)) = some (some (.int .i64 0), 1, 8) := by kernel_rfl
/-- What WaitsOf tells. -/
def wtR (F : Nat → Ins) (k i : Nat) : Int := wtI (F i) (F k)
def lnW (j : Nat) : Nat := j
theorem slice_new (w : World) (t : TypeId) (u : Value) : ∀ j x, ([u] : List Value)[j]? = some x → (w.alloc (.cells #[u] t)).cell? ((⟨w.heap.size, 0, none⟩ : Addr).add j) = some x := by
  intro j x hx
  have : j = 0 := by
    have := (List.getElem?_eq_some_iff.1 hx).1
    simpa using this
  subst this
  rw [Addr.add_lit, World.cell?_alloc_new]
  simpa using hx
/-- The rows so far. -/
structure Wos (w wr : World) (v : Value) (k : Nat) (AS : Nat → Value) (F : Nat → Ins) : Prop where
  rws : Rws wr w.heap.size wr.heap.size v k AS lnW (wtR F)
  low : w.grownBy wr none
/-- How many rows. -/
def nB (n : Nat) (F : Nat → Ins) : Nat := if blB n F = true then n else 0
theorem nB_yes {n : Nat} {F : Nat → Ins} (h : blB n F = true) : nB n F = n := if_pos h
theorem nB_no {n : Nat} {F : Nat → Ins} (h : blB n F = false) : nB n F = 0 := if_neg (by rw [h]; simp)
end Go.Proofs.YtblnchcgeepemaaDoor
