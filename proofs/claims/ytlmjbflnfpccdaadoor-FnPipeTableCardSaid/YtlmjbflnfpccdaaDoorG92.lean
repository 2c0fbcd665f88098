/- runOf: the run of a program, or none. runOf makes the run of a program that may be run. -/
import Derived.Test.YtlmjbflnfpccdaaDoorG90
import Derived.Deep.RegionHeld3
import Derived.Deep.CutRange
import Derived.Deep.CutBlock
namespace Go.Proofs.YtlmjbflnfpccdaaDoor
open Go.RowKit
set_option linter.unusedSimpArgs false
/-- May the program be run? -/
def runB (len : Nat) (F : Nat → Ins) (at' : Int) (n1 n2 : Nat) (f1 f2 : Nat → Int) (fuel : Int) : Bool := vcB len F && vmB at' n1 n2 f1 f2 && inRB fuel 0 300
def NoRun (w : World) (e : Ending) (w' : World) : Prop := e = .returned (.tuple #[.agg #[.slice none 0 0, .slice none 0 0, .int .i64 0, .int .i64 0, .int .i64 0, .int .i64 0, .int .i64 0, .int .i64 0, .int .i64 0, .int .i64 0, .int .i64 0, .int .i64 0, .int .i64 0, .int .i64 0, .int .i64 0, .bool false], .bool false]) ∧ w.grownBy w' none
end Go.Proofs.YtlmjbflnfpccdaaDoor

namespace Go.Proofs.YtlmjbflnfpccdaaDoor
open Go.RowKit
set_option linter.unusedSimpArgs false
/-- The cells of a run. -/
abbrev runC (A : Option Addr) (len cap : Nat) (A3 : Option Addr) (k c3 : Nat) (F : Nat → Ins) (s : Sta) : Array Value := #[.slice A len cap, .slice A3 k c3, .int .i64 (sN F s k).at', .int .i64 ((sN F s k).r 0), .int .i64 ((sN F s k).r 1), .int .i64 ((sN F s k).r 2), .int .i64 ((sN F s k).r 3), .int .i64 ((sN F s k).m 0), .int .i64 ((sN F s k).m 1), .int .i64 ((sN F s k).m 2), .int .i64 ((sN F s k).m 3), .int .i64 ((sN F s k).m 4), .int .i64 ((sN F s k).m 5), .int .i64 ((sN F s k).m 6), .int .i64 ((sN F s k).m 7), .bool (sHalt len F (sN F s k))]
/-- What runOf leaves of a program that may be run. -/
def YesRun (A : Option Addr) (len cap : Nat) (F : Nat → Ins) (s : Sta) (fuel : Nat) (w : World) (e : Ending) (w' : World) : Prop :=
  ∃ (k : Nat) (A3 : Option Addr) (c3 : Nat), RunEnd len F s fuel k ∧ e = .returned (.tuple #[.agg (runC A len cap A3 k c3 F s), .bool true]) ∧ Stas w' A3 k (sN F s) ∧ (∀ b off, A3 = some ⟨b, off, none⟩ → w.heap.size ≤ b ∧ b < w'.heap.size) ∧ w.grownBy w' none
end Go.Proofs.YtlmjbflnfpccdaaDoor
