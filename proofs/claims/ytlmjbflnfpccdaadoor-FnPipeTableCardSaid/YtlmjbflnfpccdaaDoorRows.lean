/-
  NARROWER THAN 'FOR EVERY INPUT', by the rows' own cells (each row's printed sentence says how): FnExactPipeTicks: laid · FnExactPipeTime: laid · FnExactPipeTable: laid · FnExactStallsOf: laid · FnPipeTicks: laid · FnPipeTime: laid · FnPipeTable: laid · FnStallsOf: laid.
  DERIVED. THE GIVEN ROWS OF THIS SEAT. 8 by the template 'for every input the law returns true; each argument reads behind the call as it read before'; 0 by the template 'total and deterministic' (their statements: YtlmjbflnfpccdaaDoorTotals.lean).
  GIVEN WITH THE SEED: the statements are not yours to turn. If you find one false, say at which input.
  Laid BY PROGRAM, IN A SANDBOX (cutbox-rows.mjs): the forced cells as the released guide's own fill.sh prints them over the translation 8aeccfcd9b8daf64… (all of the seat's roots in one cut). By AI agents, Wed Nov 11 2026. No macro, syntax, notation, axiom, sorry.
-/
import Derived.Test.YtlmjbflnfpccdaaDoorChecked
import GoSem.Claim
import GoSem.ClaimJoined
import GoSem.ClaimMapViews
import Derived.JoinedTies
import Derived.KernelRfl
namespace Go.Proofs.YtlmjbflnfpccdaaDoor
/- THE CELL 'sum', in the pinned program and in every row, IS THE sha256 OF THE DUMP (.gsa) THAT YtlmjbflnfpccdaaDoorProg.lean LOADS. Nothing in Lean hashes anything: it is a label: what it is worth is what the hold of that sum in a sandbox is worth. -/
noncomputable def Tryd.pinned : Pinned := { name := "ytlmjbflnfpccdaadoor", sum := "8aeccfcd9b8daf64fc1f9b465aa9e9b6d048f31f8f8fc08407c95b10a674603d", checked := Tryd.checked }
namespace Rows
def none {H : Type} : Left H := { results := [], args := [] }

/- WHAT THE LISTED PACKAGE-LEVEL VARIABLES READ AS WHEN THE CALL BEGINS. Each datum BY PROGRAM (the guide's laid-datum.mjs) off the statement by which the dump's own 'gosem.cut.vars' lays the variable. In a bare row this is a premise. The card (YtlmjbflnfpccdaaDoorCards.lean) ties it to the program's text. -/
def laid_loop_example_smallmachines_impl_wordTexts {H : Type} : DataW H := .agg [.lit (.string [115, 101, 116]), .lit (.string [97, 100, 100]), .lit (.string [115, 117, 98]), .lit (.string [109, 117, 108]), .lit (.string [108, 116]), .lit (.string [108, 100]), .lit (.string [115, 116]), .lit (.string [98, 122]), .lit (.string [106, 109, 112]), .lit (.string [104, 108, 116])]

/-- 'laws.FnExactPipeTicks': WHATEVER THE INPUT: true; the input reads as it did. -/
def fnExactPipeTicksSpec : ChangeSpec := { name := "fnExactPipeTicks", vars := ["loop.example/smallmachines/impl.wordTexts"], fn := fun _ => fun
  | [d1, d2, d3, g1] => { results := [.lit (.bool true)], args := [d1, d2, d3], vars := [g1] }
  | _ => none }
def fnExactPipeTicksRow : OpenClaim := { program := "ytlmjbflnfpccdaadoor", sum := "8aeccfcd9b8daf64fc1f9b465aa9e9b6d048f31f8f8fc08407c95b10a674603d", func := "loop.example/smallmachines/laws.FnExactPipeTicks", spec := "fnExactPipeTicks", unfollowed := true, recurses := true, named := ["loop.example/smallmachines/impl.wordTexts"], apart := false, laid := [("loop.example/smallmachines/impl.wordTexts", laid_loop_example_smallmachines_impl_wordTexts)] }
def FnExactPipeTicksSaid : Prop := fnExactPipeTicksRow.holds Tryd.pinned (OpenSpec.ofChange fnExactPipeTicksSpec)

/-- ITS FALSE NEIGHBOUR: 'it returns false'. Refute it at one input. -/
def fnExactPipeTicksWrong : ChangeSpec := { name := "fnExactPipeTicks", vars := ["loop.example/smallmachines/impl.wordTexts"], fn := fun _ => fun
  | [d1, d2, d3, g1] => { results := [.lit (.bool false)], args := [d1, d2, d3], vars := [g1] }
  | _ => none }
def FnExactPipeTicksWrongFalsely : Prop := fnExactPipeTicksRow.holds Tryd.pinned (OpenSpec.ofChange fnExactPipeTicksWrong)

/-- 'laws.FnExactPipeTime': WHATEVER THE INPUT: true; the input reads as it did. -/
def fnExactPipeTimeSpec : ChangeSpec := { name := "fnExactPipeTime", vars := ["loop.example/smallmachines/impl.wordTexts"], fn := fun _ => fun
  | [d1, d2, d3, g1] => { results := [.lit (.bool true)], args := [d1, d2, d3], vars := [g1] }
  | _ => none }
def fnExactPipeTimeRow : OpenClaim := { program := "ytlmjbflnfpccdaadoor", sum := "8aeccfcd9b8daf64fc1f9b465aa9e9b6d048f31f8f8fc08407c95b10a674603d", func := "loop.example/smallmachines/laws.FnExactPipeTime", spec := "fnExactPipeTime", unfollowed := true, recurses := true, named := ["loop.example/smallmachines/impl.wordTexts"], apart := false, laid := [("loop.example/smallmachines/impl.wordTexts", laid_loop_example_smallmachines_impl_wordTexts)] }
def FnExactPipeTimeSaid : Prop := fnExactPipeTimeRow.holds Tryd.pinned (OpenSpec.ofChange fnExactPipeTimeSpec)

/-- ITS FALSE NEIGHBOUR: 'it returns false'. Refute it at one input. -/
def fnExactPipeTimeWrong : ChangeSpec := { name := "fnExactPipeTime", vars := ["loop.example/smallmachines/impl.wordTexts"], fn := fun _ => fun
  | [d1, d2, d3, g1] => { results := [.lit (.bool false)], args := [d1, d2, d3], vars := [g1] }
  | _ => none }
def FnExactPipeTimeWrongFalsely : Prop := fnExactPipeTimeRow.holds Tryd.pinned (OpenSpec.ofChange fnExactPipeTimeWrong)

/-- 'laws.FnExactPipeTable': WHATEVER THE INPUT: true; the input reads as it did. -/
def fnExactPipeTableSpec : ChangeSpec := { name := "fnExactPipeTable", vars := ["loop.example/smallmachines/impl.wordTexts"], fn := fun _ => fun
  | [d1, d2, d3, g1] => { results := [.lit (.bool true)], args := [d1, d2, d3], vars := [g1] }
  | _ => none }
def fnExactPipeTableRow : OpenClaim := { program := "ytlmjbflnfpccdaadoor", sum := "8aeccfcd9b8daf64fc1f9b465aa9e9b6d048f31f8f8fc08407c95b10a674603d", func := "loop.example/smallmachines/laws.FnExactPipeTable", spec := "fnExactPipeTable", unfollowed := true, recurses := true, named := ["loop.example/smallmachines/impl.wordTexts"], apart := false, laid := [("loop.example/smallmachines/impl.wordTexts", laid_loop_example_smallmachines_impl_wordTexts)] }
def FnExactPipeTableSaid : Prop := fnExactPipeTableRow.holds Tryd.pinned (OpenSpec.ofChange fnExactPipeTableSpec)

/-- ITS FALSE NEIGHBOUR: 'it returns false'. Refute it at one input. -/
def fnExactPipeTableWrong : ChangeSpec := { name := "fnExactPipeTable", vars := ["loop.example/smallmachines/impl.wordTexts"], fn := fun _ => fun
  | [d1, d2, d3, g1] => { results := [.lit (.bool false)], args := [d1, d2, d3], vars := [g1] }
  | _ => none }
def FnExactPipeTableWrongFalsely : Prop := fnExactPipeTableRow.holds Tryd.pinned (OpenSpec.ofChange fnExactPipeTableWrong)

/-- 'laws.FnExactStallsOf': WHATEVER THE INPUT: true; the input reads as it did. -/
def fnExactStallsOfSpec : ChangeSpec := { name := "fnExactStallsOf", vars := ["loop.example/smallmachines/impl.wordTexts"], fn := fun _ => fun
  | [d1, d2, d3, g1] => { results := [.lit (.bool true)], args := [d1, d2, d3], vars := [g1] }
  | _ => none }
def fnExactStallsOfRow : OpenClaim := { program := "ytlmjbflnfpccdaadoor", sum := "8aeccfcd9b8daf64fc1f9b465aa9e9b6d048f31f8f8fc08407c95b10a674603d", func := "loop.example/smallmachines/laws.FnExactStallsOf", spec := "fnExactStallsOf", unfollowed := true, recurses := true, named := ["loop.example/smallmachines/impl.wordTexts"], apart := false, laid := [("loop.example/smallmachines/impl.wordTexts", laid_loop_example_smallmachines_impl_wordTexts)] }
def FnExactStallsOfSaid : Prop := fnExactStallsOfRow.holds Tryd.pinned (OpenSpec.ofChange fnExactStallsOfSpec)

/-- ITS FALSE NEIGHBOUR: 'it returns false'. Refute it at one input. -/
def fnExactStallsOfWrong : ChangeSpec := { name := "fnExactStallsOf", vars := ["loop.example/smallmachines/impl.wordTexts"], fn := fun _ => fun
  | [d1, d2, d3, g1] => { results := [.lit (.bool false)], args := [d1, d2, d3], vars := [g1] }
  | _ => none }
def FnExactStallsOfWrongFalsely : Prop := fnExactStallsOfRow.holds Tryd.pinned (OpenSpec.ofChange fnExactStallsOfWrong)

/-- 'laws.FnPipeTicks': WHATEVER THE INPUT: true; the input reads as it did. -/
def fnPipeTicksSpec : ChangeSpec := { name := "fnPipeTicks", vars := ["loop.example/smallmachines/impl.wordTexts"], fn := fun _ => fun
  | [d, g1] => { results := [.lit (.bool true)], args := [d], vars := [g1] }
  | _ => none }
def fnPipeTicksRow : OpenClaim := { program := "ytlmjbflnfpccdaadoor", sum := "8aeccfcd9b8daf64fc1f9b465aa9e9b6d048f31f8f8fc08407c95b10a674603d", func := "loop.example/smallmachines/laws.FnPipeTicks", spec := "fnPipeTicks", unfollowed := true, recurses := true, named := ["loop.example/smallmachines/impl.wordTexts"], apart := false, laid := [("loop.example/smallmachines/impl.wordTexts", laid_loop_example_smallmachines_impl_wordTexts)] }
def FnPipeTicksSaid : Prop := fnPipeTicksRow.holds Tryd.pinned (OpenSpec.ofChange fnPipeTicksSpec)

/-- ITS FALSE NEIGHBOUR: 'it returns false'. Refute it at one input. -/
def fnPipeTicksWrong : ChangeSpec := { name := "fnPipeTicks", vars := ["loop.example/smallmachines/impl.wordTexts"], fn := fun _ => fun
  | [d, g1] => { results := [.lit (.bool false)], args := [d], vars := [g1] }
  | _ => none }
def FnPipeTicksWrongFalsely : Prop := fnPipeTicksRow.holds Tryd.pinned (OpenSpec.ofChange fnPipeTicksWrong)

/-- 'laws.FnPipeTime': WHATEVER THE INPUT: true; the input reads as it did. -/
def fnPipeTimeSpec : ChangeSpec := { name := "fnPipeTime", vars := ["loop.example/smallmachines/impl.wordTexts"], fn := fun _ => fun
  | [d, g1] => { results := [.lit (.bool true)], args := [d], vars := [g1] }
  | _ => none }
def fnPipeTimeRow : OpenClaim := { program := "ytlmjbflnfpccdaadoor", sum := "8aeccfcd9b8daf64fc1f9b465aa9e9b6d048f31f8f8fc08407c95b10a674603d", func := "loop.example/smallmachines/laws.FnPipeTime", spec := "fnPipeTime", unfollowed := true, recurses := true, named := ["loop.example/smallmachines/impl.wordTexts"], apart := false, laid := [("loop.example/smallmachines/impl.wordTexts", laid_loop_example_smallmachines_impl_wordTexts)] }
def FnPipeTimeSaid : Prop := fnPipeTimeRow.holds Tryd.pinned (OpenSpec.ofChange fnPipeTimeSpec)

/-- ITS FALSE NEIGHBOUR: 'it returns false'. Refute it at one input. -/
def fnPipeTimeWrong : ChangeSpec := { name := "fnPipeTime", vars := ["loop.example/smallmachines/impl.wordTexts"], fn := fun _ => fun
  | [d, g1] => { results := [.lit (.bool false)], args := [d], vars := [g1] }
  | _ => none }
def FnPipeTimeWrongFalsely : Prop := fnPipeTimeRow.holds Tryd.pinned (OpenSpec.ofChange fnPipeTimeWrong)

/-- 'laws.FnPipeTable': WHATEVER THE INPUT: true; the input reads as it did. -/
def fnPipeTableSpec : ChangeSpec := { name := "fnPipeTable", vars := ["loop.example/smallmachines/impl.wordTexts"], fn := fun _ => fun
  | [d, g1] => { results := [.lit (.bool true)], args := [d], vars := [g1] }
  | _ => none }
def fnPipeTableRow : OpenClaim := { program := "ytlmjbflnfpccdaadoor", sum := "8aeccfcd9b8daf64fc1f9b465aa9e9b6d048f31f8f8fc08407c95b10a674603d", func := "loop.example/smallmachines/laws.FnPipeTable", spec := "fnPipeTable", unfollowed := true, recurses := true, named := ["loop.example/smallmachines/impl.wordTexts"], apart := false, laid := [("loop.example/smallmachines/impl.wordTexts", laid_loop_example_smallmachines_impl_wordTexts)] }
def FnPipeTableSaid : Prop := fnPipeTableRow.holds Tryd.pinned (OpenSpec.ofChange fnPipeTableSpec)

/-- ITS FALSE NEIGHBOUR: 'it returns false'. Refute it at one input. -/
def fnPipeTableWrong : ChangeSpec := { name := "fnPipeTable", vars := ["loop.example/smallmachines/impl.wordTexts"], fn := fun _ => fun
  | [d, g1] => { results := [.lit (.bool false)], args := [d], vars := [g1] }
  | _ => none }
def FnPipeTableWrongFalsely : Prop := fnPipeTableRow.holds Tryd.pinned (OpenSpec.ofChange fnPipeTableWrong)

/-- 'laws.FnStallsOf': WHATEVER THE INPUT: true; the input reads as it did. -/
def fnStallsOfSpec : ChangeSpec := { name := "fnStallsOf", vars := ["loop.example/smallmachines/impl.wordTexts"], fn := fun _ => fun
  | [d, g1] => { results := [.lit (.bool true)], args := [d], vars := [g1] }
  | _ => none }
def fnStallsOfRow : OpenClaim := { program := "ytlmjbflnfpccdaadoor", sum := "8aeccfcd9b8daf64fc1f9b465aa9e9b6d048f31f8f8fc08407c95b10a674603d", func := "loop.example/smallmachines/laws.FnStallsOf", spec := "fnStallsOf", unfollowed := true, recurses := true, named := ["loop.example/smallmachines/impl.wordTexts"], apart := false, laid := [("loop.example/smallmachines/impl.wordTexts", laid_loop_example_smallmachines_impl_wordTexts)] }
def FnStallsOfSaid : Prop := fnStallsOfRow.holds Tryd.pinned (OpenSpec.ofChange fnStallsOfSpec)

/-- ITS FALSE NEIGHBOUR: 'it returns false'. Refute it at one input. -/
def fnStallsOfWrong : ChangeSpec := { name := "fnStallsOf", vars := ["loop.example/smallmachines/impl.wordTexts"], fn := fun _ => fun
  | [d, g1] => { results := [.lit (.bool false)], args := [d], vars := [g1] }
  | _ => none }
def FnStallsOfWrongFalsely : Prop := fnStallsOfRow.holds Tryd.pinned (OpenSpec.ofChange fnStallsOfWrong)

/- THE SECOND FORM. 'bulk': how many values and letters a reading holds, each counted each time it is reached (what is shared counts as often as it is met; a slice's spare places count too). A statement '..UptoSaid' is the law's where the arguments, and the package variables that the reading takes, are together of bulk at most 1048576: NARROWER than '..Said'. Prove '..Said' where nothing that the law and all that it calls make is longer than what came in: it says more and counts as full. Else prove '..UptoSaid'. A law counts once. -/
mutual
def uptoBulk {H : Type} : DataW H → Nat
  | .lit (.string bytes) => bytes.length + 1
  | .lit _ => 1
  | .nil => 1
  | .ptr d => uptoBulk d + 1
  | .slice elems spare => uptoBulkAll elems + uptoBulkAll spare + 1
  | .agg parts => uptoBulkAll parts + 1
  | .iface _ d => uptoBulk d + 1
  | .map entries => uptoBulkEntries entries + 1
  | .held _ => 1
def uptoBulkAll {H : Type} : List (DataW H) → Nat
  | [] => 0
  | d :: r => uptoBulk d + uptoBulkAll r
def uptoBulkEntries {H : Type} : List (Lit × DataW H) → Nat
  | [] => 0
  | x :: r => uptoBulkEntry x + uptoBulkEntries r
def uptoBulkEntry {H : Type} : Lit × DataW H → Nat
  | (.string bytes, d) => bytes.length + uptoBulk d + 1
  | (_, d) => uptoBulk d + 1
 end
def uptoSmall : (H : Type) → List (DataW H) → Bool := fun _ ds => decide (uptoBulkAll ds ≤ 1048576)
def OpenSpec.upto (s : _root_.Go.ChangeSpec) : _root_.Go.OpenSpec := { _root_.Go.OpenSpec.ofChange s with cond := some uptoSmall }

/-- 'laws.FnExactPipeTicks', WHERE WHAT IT READS IS OF BULK AT MOST 1048576: true; the input reads as it did. -/
def fnExactPipeTicksUptoRow : OpenClaim := { program := "ytlmjbflnfpccdaadoor", sum := "8aeccfcd9b8daf64fc1f9b465aa9e9b6d048f31f8f8fc08407c95b10a674603d", func := "loop.example/smallmachines/laws.FnExactPipeTicks", spec := "fnExactPipeTicks", unfollowed := true, recurses := true, named := ["loop.example/smallmachines/impl.wordTexts"], apart := false, laid := [("loop.example/smallmachines/impl.wordTexts", laid_loop_example_smallmachines_impl_wordTexts)], narrowed := true }
def FnExactPipeTicksUptoSaid : Prop := fnExactPipeTicksUptoRow.holds Tryd.pinned (OpenSpec.upto fnExactPipeTicksSpec)

/-- 'laws.FnExactPipeTime', WHERE WHAT IT READS IS OF BULK AT MOST 1048576: true; the input reads as it did. -/
def fnExactPipeTimeUptoRow : OpenClaim := { program := "ytlmjbflnfpccdaadoor", sum := "8aeccfcd9b8daf64fc1f9b465aa9e9b6d048f31f8f8fc08407c95b10a674603d", func := "loop.example/smallmachines/laws.FnExactPipeTime", spec := "fnExactPipeTime", unfollowed := true, recurses := true, named := ["loop.example/smallmachines/impl.wordTexts"], apart := false, laid := [("loop.example/smallmachines/impl.wordTexts", laid_loop_example_smallmachines_impl_wordTexts)], narrowed := true }
def FnExactPipeTimeUptoSaid : Prop := fnExactPipeTimeUptoRow.holds Tryd.pinned (OpenSpec.upto fnExactPipeTimeSpec)

/-- 'laws.FnExactPipeTable', WHERE WHAT IT READS IS OF BULK AT MOST 1048576: true; the input reads as it did. -/
def fnExactPipeTableUptoRow : OpenClaim := { program := "ytlmjbflnfpccdaadoor", sum := "8aeccfcd9b8daf64fc1f9b465aa9e9b6d048f31f8f8fc08407c95b10a674603d", func := "loop.example/smallmachines/laws.FnExactPipeTable", spec := "fnExactPipeTable", unfollowed := true, recurses := true, named := ["loop.example/smallmachines/impl.wordTexts"], apart := false, laid := [("loop.example/smallmachines/impl.wordTexts", laid_loop_example_smallmachines_impl_wordTexts)], narrowed := true }
def FnExactPipeTableUptoSaid : Prop := fnExactPipeTableUptoRow.holds Tryd.pinned (OpenSpec.upto fnExactPipeTableSpec)

/-- 'laws.FnExactStallsOf', WHERE WHAT IT READS IS OF BULK AT MOST 1048576: true; the input reads as it did. -/
def fnExactStallsOfUptoRow : OpenClaim := { program := "ytlmjbflnfpccdaadoor", sum := "8aeccfcd9b8daf64fc1f9b465aa9e9b6d048f31f8f8fc08407c95b10a674603d", func := "loop.example/smallmachines/laws.FnExactStallsOf", spec := "fnExactStallsOf", unfollowed := true, recurses := true, named := ["loop.example/smallmachines/impl.wordTexts"], apart := false, laid := [("loop.example/smallmachines/impl.wordTexts", laid_loop_example_smallmachines_impl_wordTexts)], narrowed := true }
def FnExactStallsOfUptoSaid : Prop := fnExactStallsOfUptoRow.holds Tryd.pinned (OpenSpec.upto fnExactStallsOfSpec)

/-- 'laws.FnPipeTicks', WHERE WHAT IT READS IS OF BULK AT MOST 1048576: true; the input reads as it did. -/
def fnPipeTicksUptoRow : OpenClaim := { program := "ytlmjbflnfpccdaadoor", sum := "8aeccfcd9b8daf64fc1f9b465aa9e9b6d048f31f8f8fc08407c95b10a674603d", func := "loop.example/smallmachines/laws.FnPipeTicks", spec := "fnPipeTicks", unfollowed := true, recurses := true, named := ["loop.example/smallmachines/impl.wordTexts"], apart := false, laid := [("loop.example/smallmachines/impl.wordTexts", laid_loop_example_smallmachines_impl_wordTexts)], narrowed := true }
def FnPipeTicksUptoSaid : Prop := fnPipeTicksUptoRow.holds Tryd.pinned (OpenSpec.upto fnPipeTicksSpec)

/-- 'laws.FnPipeTime', WHERE WHAT IT READS IS OF BULK AT MOST 1048576: true; the input reads as it did. -/
def fnPipeTimeUptoRow : OpenClaim := { program := "ytlmjbflnfpccdaadoor", sum := "8aeccfcd9b8daf64fc1f9b465aa9e9b6d048f31f8f8fc08407c95b10a674603d", func := "loop.example/smallmachines/laws.FnPipeTime", spec := "fnPipeTime", unfollowed := true, recurses := true, named := ["loop.example/smallmachines/impl.wordTexts"], apart := false, laid := [("loop.example/smallmachines/impl.wordTexts", laid_loop_example_smallmachines_impl_wordTexts)], narrowed := true }
def FnPipeTimeUptoSaid : Prop := fnPipeTimeUptoRow.holds Tryd.pinned (OpenSpec.upto fnPipeTimeSpec)

/-- 'laws.FnPipeTable', WHERE WHAT IT READS IS OF BULK AT MOST 1048576: true; the input reads as it did. -/
def fnPipeTableUptoRow : OpenClaim := { program := "ytlmjbflnfpccdaadoor", sum := "8aeccfcd9b8daf64fc1f9b465aa9e9b6d048f31f8f8fc08407c95b10a674603d", func := "loop.example/smallmachines/laws.FnPipeTable", spec := "fnPipeTable", unfollowed := true, recurses := true, named := ["loop.example/smallmachines/impl.wordTexts"], apart := false, laid := [("loop.example/smallmachines/impl.wordTexts", laid_loop_example_smallmachines_impl_wordTexts)], narrowed := true }
def FnPipeTableUptoSaid : Prop := fnPipeTableUptoRow.holds Tryd.pinned (OpenSpec.upto fnPipeTableSpec)

/-- 'laws.FnStallsOf', WHERE WHAT IT READS IS OF BULK AT MOST 1048576: true; the input reads as it did. -/
def fnStallsOfUptoRow : OpenClaim := { program := "ytlmjbflnfpccdaadoor", sum := "8aeccfcd9b8daf64fc1f9b465aa9e9b6d048f31f8f8fc08407c95b10a674603d", func := "loop.example/smallmachines/laws.FnStallsOf", spec := "fnStallsOf", unfollowed := true, recurses := true, named := ["loop.example/smallmachines/impl.wordTexts"], apart := false, laid := [("loop.example/smallmachines/impl.wordTexts", laid_loop_example_smallmachines_impl_wordTexts)], narrowed := true }
def FnStallsOfUptoSaid : Prop := fnStallsOfUptoRow.holds Tryd.pinned (OpenSpec.upto fnStallsOfSpec)

end Rows
end Go.Proofs.YtlmjbflnfpccdaaDoor
