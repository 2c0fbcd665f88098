/- A step of a state: what 'program.step' answers for each word, for a valid instruction and a state of words. A step that reads or writes memory: what 'program.step' answers for ld and st, for a valid instruction and a state of words. -/
import Derived.Test.YtlmjbflnfpccdaaDoorG39
import Derived.Test.YtlmjbflnfpccdaaDoorG60
import Derived.Deep.CutRange
import Derived.Deep.CutBlock
namespace Go.Proofs.YtlmjbflnfpccdaaDoor
open Go.RowKit
set_option linter.unusedSimpArgs false
theorem WT.far0 {w : World} (h : WT w) (r o : Nat) (u : Value) (hr : 0 < r) : WT (w.setCell ⟨r, o, none⟩ u) := by
  obtain ⟨t, fr, e⟩ := h
  exact ⟨t, fr, (Below.heap_setCell w ⟨r, o, none⟩ u _ (by show _ ≠ r; omega)).trans e⟩
/-- A function with one value changed. -/
def upd (f : Nat → Int) (d : Nat) (x : Int) : Nat → Int := fun j => if j = d then x else f j
/-- The cell that is read or written. -/
def placeN (f1 : Nat → Int) (ra : Nat) (k : Int) : Nat := ((f1 ra + k) % 8).toNat
theorem placeN_lt (f1 : Nat → Int) (ra : Nat) (k : Int) : placeN f1 ra k < 8 := by
  unfold placeN
  omega
/-- Where the program is behind a step. -/
def stepAt (n : Nat) (m : Nat) (ra : Nat) (k : Int) (f1 : Nat → Int) : Int := if n = 7 then (if f1 ra = 0 then k else (m : Int) + 1) else if n = 8 then k else (m : Int) + 1
/-- The number that is put to a register. -/
def stepVal (n : Nat) (ra rb : Nat) (k : Int) (f1 f2 : Nat → Int) : Int :=
  if n = 0 then k else if n = 1 then (f1 ra + f1 rb) % 256 else if n = 2 then (f1 ra - f1 rb) % 256 else if n = 3 then (f1 ra * f1 rb) % 256 else if n = 4 then (if f1 ra < f1 rb then 1 else 0) else f2 (placeN f1 ra k)
/-- The registers behind a step. -/
def stepRegs (n : Nat) (rd ra rb : Nat) (k : Int) (f1 f2 : Nat → Int) : Nat → Int := if n ≤ 5 then upd f1 rd (stepVal n ra rb k f1 f2) else f1
/-- The memory behind a step. -/
def stepMem (n : Nat) (rd ra : Nat) (k : Int) (f1 f2 : Nat → Int) : Nat → Int := if n = 6 then upd f2 (placeN f1 ra k) (f1 rd) else f2
/-- What a word makes of two numbers. -/
def opVal (n : Nat) (x y : Int) : Int := if n = 1 then (x + y) % 256 else if n = 2 then (x - y) % 256 else if n = 3 then (x * y) % 256 else if x < y then 1 else 0
end Go.Proofs.YtlmjbflnfpccdaaDoor

namespace Go.Proofs.YtlmjbflnfpccdaaDoor
open Go.RowKit
set_option linter.unusedSimpArgs false


end Go.Proofs.YtlmjbflnfpccdaaDoor
