/-
  NARROWER THAN 'FOR EVERY INPUT', by the rows' own cells (each row's printed sentence says how): FnExactValidBlock: laid · FnExactTicksOf: laid · FnExactWaitsOf: laid · FnExactBlockTime: laid · FnExactHeightsOf: laid · FnExactLeastTime: laid · FnExactMoveBlock: laid · FnExactPlanBlock: laid · FnExactBestPlan: laid · FnValidBlock: laid · FnTicksOf: laid · FnLeastTime: laid.
  DERIVED. THE GIVEN ROWS OF THIS SEAT. 12 by the template 'for every input the law returns true; each argument reads behind the call as it read before'; 0 by the template 'total and deterministic' (their statements: YtlhfmjlcpcopkaaDoorTotals.lean).
  GIVEN WITH THE SEED: the statements are not yours to turn. If you find one false, say at which input.
  Laid BY PROGRAM, IN A SANDBOX (cutbox-rows.mjs): the forced cells as the released guide's own fill.sh prints them over the translation 40549bf2032d77cb… (all of the seat's roots in one cut). By AI agents, Wed Nov 11 2026. No macro, syntax, notation, axiom, sorry.
-/
import Derived.Test.YtlhfmjlcpcopkaaDoorChecked
import GoSem.Claim
import GoSem.ClaimJoined
import GoSem.ClaimMapViews
import Derived.JoinedTies
import Derived.KernelRfl
namespace Go.Proofs.YtlhfmjlcpcopkaaDoor
/- THE CELL 'sum', in the pinned program and in every row, IS THE sha256 OF THE DUMP (.gsa) THAT YtlhfmjlcpcopkaaDoorProg.lean LOADS. Nothing in Lean hashes anything: it is a label: what it is worth is what the hold of that sum in a sandbox is worth. -/
noncomputable def Tryd.pinned : Pinned := { name := "ytlhfmjlcpcopkaadoor", sum := "40549bf2032d77cbde12feb003f84aab6be5ff8ccadebe9e886330dd928f0c0e", checked := Tryd.checked }
namespace Rows
def none {H : Type} : Left H := { results := [], args := [] }

/- WHAT THE LISTED PACKAGE-LEVEL VARIABLES READ AS WHEN THE CALL BEGINS. Each datum BY PROGRAM (the guide's laid-datum.mjs) off the statement by which the dump's own 'gosem.cut.vars' lays the variable. In a bare row this is a premise. The card (YtlhfmjlcpcopkaaDoorCards.lean) ties it to the program's text. -/
def laid_loop_example_smallmachines_impl_wordTexts {H : Type} : DataW H := .agg [.lit (.string [115, 101, 116]), .lit (.string [97, 100, 100]), .lit (.string [115, 117, 98]), .lit (.string [109, 117, 108]), .lit (.string [108, 116]), .lit (.string [108, 100]), .lit (.string [115, 116]), .lit (.string [98, 122]), .lit (.string [106, 109, 112]), .lit (.string [104, 108, 116])]

/-- 'laws.FnExactValidBlock': WHATEVER THE INPUT: true; the input reads as it did. -/
def fnExactValidBlockSpec : ChangeSpec := { name := "fnExactValidBlock", vars := ["loop.example/smallmachines/impl.wordTexts"], fn := fun _ => fun
  | [d, g1] => { results := [.lit (.bool true)], args := [d], vars := [g1] }
  | _ => none }
def fnExactValidBlockRow : OpenClaim := { program := "ytlhfmjlcpcopkaadoor", sum := "40549bf2032d77cbde12feb003f84aab6be5ff8ccadebe9e886330dd928f0c0e", func := "loop.example/smallmachines/laws.FnExactValidBlock", spec := "fnExactValidBlock", named := ["loop.example/smallmachines/impl.wordTexts"], apart := false, laid := [("loop.example/smallmachines/impl.wordTexts", laid_loop_example_smallmachines_impl_wordTexts)] }
def FnExactValidBlockSaid : Prop := fnExactValidBlockRow.holds Tryd.pinned (OpenSpec.ofChange fnExactValidBlockSpec)

/-- ITS FALSE NEIGHBOUR: 'it returns false'. Refute it at one input. -/
def fnExactValidBlockWrong : ChangeSpec := { name := "fnExactValidBlock", vars := ["loop.example/smallmachines/impl.wordTexts"], fn := fun _ => fun
  | [d, g1] => { results := [.lit (.bool false)], args := [d], vars := [g1] }
  | _ => none }
def FnExactValidBlockWrongFalsely : Prop := fnExactValidBlockRow.holds Tryd.pinned (OpenSpec.ofChange fnExactValidBlockWrong)

/-- 'laws.FnExactTicksOf': WHATEVER THE INPUT: true; the input reads as it did. -/
def fnExactTicksOfSpec : ChangeSpec := { name := "fnExactTicksOf", vars := ["loop.example/smallmachines/impl.wordTexts"], fn := fun _ => fun
  | [d, g1] => { results := [.lit (.bool true)], args := [d], vars := [g1] }
  | _ => none }
def fnExactTicksOfRow : OpenClaim := { program := "ytlhfmjlcpcopkaadoor", sum := "40549bf2032d77cbde12feb003f84aab6be5ff8ccadebe9e886330dd928f0c0e", func := "loop.example/smallmachines/laws.FnExactTicksOf", spec := "fnExactTicksOf", named := ["loop.example/smallmachines/impl.wordTexts"], apart := false, laid := [("loop.example/smallmachines/impl.wordTexts", laid_loop_example_smallmachines_impl_wordTexts)] }
def FnExactTicksOfSaid : Prop := fnExactTicksOfRow.holds Tryd.pinned (OpenSpec.ofChange fnExactTicksOfSpec)

/-- ITS FALSE NEIGHBOUR: 'it returns false'. Refute it at one input. -/
def fnExactTicksOfWrong : ChangeSpec := { name := "fnExactTicksOf", vars := ["loop.example/smallmachines/impl.wordTexts"], fn := fun _ => fun
  | [d, g1] => { results := [.lit (.bool false)], args := [d], vars := [g1] }
  | _ => none }
def FnExactTicksOfWrongFalsely : Prop := fnExactTicksOfRow.holds Tryd.pinned (OpenSpec.ofChange fnExactTicksOfWrong)

/-- 'laws.FnExactWaitsOf': WHATEVER THE INPUT: true; the input reads as it did. -/
def fnExactWaitsOfSpec : ChangeSpec := { name := "fnExactWaitsOf", vars := ["loop.example/smallmachines/impl.wordTexts"], fn := fun _ => fun
  | [d, g1] => { results := [.lit (.bool true)], args := [d], vars := [g1] }
  | _ => none }
def fnExactWaitsOfRow : OpenClaim := { program := "ytlhfmjlcpcopkaadoor", sum := "40549bf2032d77cbde12feb003f84aab6be5ff8ccadebe9e886330dd928f0c0e", func := "loop.example/smallmachines/laws.FnExactWaitsOf", spec := "fnExactWaitsOf", named := ["loop.example/smallmachines/impl.wordTexts"], apart := false, laid := [("loop.example/smallmachines/impl.wordTexts", laid_loop_example_smallmachines_impl_wordTexts)] }
def FnExactWaitsOfSaid : Prop := fnExactWaitsOfRow.holds Tryd.pinned (OpenSpec.ofChange fnExactWaitsOfSpec)

/-- ITS FALSE NEIGHBOUR: 'it returns false'. Refute it at one input. -/
def fnExactWaitsOfWrong : ChangeSpec := { name := "fnExactWaitsOf", vars := ["loop.example/smallmachines/impl.wordTexts"], fn := fun _ => fun
  | [d, g1] => { results := [.lit (.bool false)], args := [d], vars := [g1] }
  | _ => none }
def FnExactWaitsOfWrongFalsely : Prop := fnExactWaitsOfRow.holds Tryd.pinned (OpenSpec.ofChange fnExactWaitsOfWrong)

/-- 'laws.FnExactBlockTime': WHATEVER THE INPUT: true; the input reads as it did. -/
def fnExactBlockTimeSpec : ChangeSpec := { name := "fnExactBlockTime", vars := ["loop.example/smallmachines/impl.wordTexts"], fn := fun _ => fun
  | [d, g1] => { results := [.lit (.bool true)], args := [d], vars := [g1] }
  | _ => none }
def fnExactBlockTimeRow : OpenClaim := { program := "ytlhfmjlcpcopkaadoor", sum := "40549bf2032d77cbde12feb003f84aab6be5ff8ccadebe9e886330dd928f0c0e", func := "loop.example/smallmachines/laws.FnExactBlockTime", spec := "fnExactBlockTime", named := ["loop.example/smallmachines/impl.wordTexts"], apart := false, laid := [("loop.example/smallmachines/impl.wordTexts", laid_loop_example_smallmachines_impl_wordTexts)] }
def FnExactBlockTimeSaid : Prop := fnExactBlockTimeRow.holds Tryd.pinned (OpenSpec.ofChange fnExactBlockTimeSpec)

/-- ITS FALSE NEIGHBOUR: 'it returns false'. Refute it at one input. -/
def fnExactBlockTimeWrong : ChangeSpec := { name := "fnExactBlockTime", vars := ["loop.example/smallmachines/impl.wordTexts"], fn := fun _ => fun
  | [d, g1] => { results := [.lit (.bool false)], args := [d], vars := [g1] }
  | _ => none }
def FnExactBlockTimeWrongFalsely : Prop := fnExactBlockTimeRow.holds Tryd.pinned (OpenSpec.ofChange fnExactBlockTimeWrong)

/-- 'laws.FnExactHeightsOf': WHATEVER THE INPUT: true; the input reads as it did. -/
def fnExactHeightsOfSpec : ChangeSpec := { name := "fnExactHeightsOf", vars := ["loop.example/smallmachines/impl.wordTexts"], fn := fun _ => fun
  | [d, g1] => { results := [.lit (.bool true)], args := [d], vars := [g1] }
  | _ => none }
def fnExactHeightsOfRow : OpenClaim := { program := "ytlhfmjlcpcopkaadoor", sum := "40549bf2032d77cbde12feb003f84aab6be5ff8ccadebe9e886330dd928f0c0e", func := "loop.example/smallmachines/laws.FnExactHeightsOf", spec := "fnExactHeightsOf", unfollowed := true, recurses := true, named := ["loop.example/smallmachines/impl.wordTexts"], apart := false, laid := [("loop.example/smallmachines/impl.wordTexts", laid_loop_example_smallmachines_impl_wordTexts)] }
def FnExactHeightsOfSaid : Prop := fnExactHeightsOfRow.holds Tryd.pinned (OpenSpec.ofChange fnExactHeightsOfSpec)

/-- ITS FALSE NEIGHBOUR: 'it returns false'. Refute it at one input. -/
def fnExactHeightsOfWrong : ChangeSpec := { name := "fnExactHeightsOf", vars := ["loop.example/smallmachines/impl.wordTexts"], fn := fun _ => fun
  | [d, g1] => { results := [.lit (.bool false)], args := [d], vars := [g1] }
  | _ => none }
def FnExactHeightsOfWrongFalsely : Prop := fnExactHeightsOfRow.holds Tryd.pinned (OpenSpec.ofChange fnExactHeightsOfWrong)

/-- 'laws.FnExactLeastTime': WHATEVER THE INPUT: true; the input reads as it did. -/
def fnExactLeastTimeSpec : ChangeSpec := { name := "fnExactLeastTime", vars := ["loop.example/smallmachines/impl.wordTexts"], fn := fun _ => fun
  | [d, g1] => { results := [.lit (.bool true)], args := [d], vars := [g1] }
  | _ => none }
def fnExactLeastTimeRow : OpenClaim := { program := "ytlhfmjlcpcopkaadoor", sum := "40549bf2032d77cbde12feb003f84aab6be5ff8ccadebe9e886330dd928f0c0e", func := "loop.example/smallmachines/laws.FnExactLeastTime", spec := "fnExactLeastTime", unfollowed := true, recurses := true, named := ["loop.example/smallmachines/impl.wordTexts"], apart := false, laid := [("loop.example/smallmachines/impl.wordTexts", laid_loop_example_smallmachines_impl_wordTexts)] }
def FnExactLeastTimeSaid : Prop := fnExactLeastTimeRow.holds Tryd.pinned (OpenSpec.ofChange fnExactLeastTimeSpec)

/-- ITS FALSE NEIGHBOUR: 'it returns false'. Refute it at one input. -/
def fnExactLeastTimeWrong : ChangeSpec := { name := "fnExactLeastTime", vars := ["loop.example/smallmachines/impl.wordTexts"], fn := fun _ => fun
  | [d, g1] => { results := [.lit (.bool false)], args := [d], vars := [g1] }
  | _ => none }
def FnExactLeastTimeWrongFalsely : Prop := fnExactLeastTimeRow.holds Tryd.pinned (OpenSpec.ofChange fnExactLeastTimeWrong)

/-- 'laws.FnExactMoveBlock': WHATEVER THE INPUT: true; the input reads as it did. -/
def fnExactMoveBlockSpec : ChangeSpec := { name := "fnExactMoveBlock", vars := ["loop.example/smallmachines/impl.wordTexts"], fn := fun _ => fun
  | [d1, d2, g1] => { results := [.lit (.bool true)], args := [d1, d2], vars := [g1] }
  | _ => none }
def fnExactMoveBlockRow : OpenClaim := { program := "ytlhfmjlcpcopkaadoor", sum := "40549bf2032d77cbde12feb003f84aab6be5ff8ccadebe9e886330dd928f0c0e", func := "loop.example/smallmachines/laws.FnExactMoveBlock", spec := "fnExactMoveBlock", named := ["loop.example/smallmachines/impl.wordTexts"], apart := false, laid := [("loop.example/smallmachines/impl.wordTexts", laid_loop_example_smallmachines_impl_wordTexts)] }
def FnExactMoveBlockSaid : Prop := fnExactMoveBlockRow.holds Tryd.pinned (OpenSpec.ofChange fnExactMoveBlockSpec)

/-- ITS FALSE NEIGHBOUR: 'it returns false'. Refute it at one input. -/
def fnExactMoveBlockWrong : ChangeSpec := { name := "fnExactMoveBlock", vars := ["loop.example/smallmachines/impl.wordTexts"], fn := fun _ => fun
  | [d1, d2, g1] => { results := [.lit (.bool false)], args := [d1, d2], vars := [g1] }
  | _ => none }
def FnExactMoveBlockWrongFalsely : Prop := fnExactMoveBlockRow.holds Tryd.pinned (OpenSpec.ofChange fnExactMoveBlockWrong)

/-- 'laws.FnExactPlanBlock': WHATEVER THE INPUT: true; the input reads as it did. -/
def fnExactPlanBlockSpec : ChangeSpec := { name := "fnExactPlanBlock", vars := ["loop.example/smallmachines/impl.wordTexts"], fn := fun _ => fun
  | [d, g1] => { results := [.lit (.bool true)], args := [d], vars := [g1] }
  | _ => none }
def fnExactPlanBlockRow : OpenClaim := { program := "ytlhfmjlcpcopkaadoor", sum := "40549bf2032d77cbde12feb003f84aab6be5ff8ccadebe9e886330dd928f0c0e", func := "loop.example/smallmachines/laws.FnExactPlanBlock", spec := "fnExactPlanBlock", unfollowed := true, recurses := true, named := ["loop.example/smallmachines/impl.wordTexts"], apart := false, laid := [("loop.example/smallmachines/impl.wordTexts", laid_loop_example_smallmachines_impl_wordTexts)] }
def FnExactPlanBlockSaid : Prop := fnExactPlanBlockRow.holds Tryd.pinned (OpenSpec.ofChange fnExactPlanBlockSpec)

/-- ITS FALSE NEIGHBOUR: 'it returns false'. Refute it at one input. -/
def fnExactPlanBlockWrong : ChangeSpec := { name := "fnExactPlanBlock", vars := ["loop.example/smallmachines/impl.wordTexts"], fn := fun _ => fun
  | [d, g1] => { results := [.lit (.bool false)], args := [d], vars := [g1] }
  | _ => none }
def FnExactPlanBlockWrongFalsely : Prop := fnExactPlanBlockRow.holds Tryd.pinned (OpenSpec.ofChange fnExactPlanBlockWrong)

/-- 'laws.FnExactBestPlan': WHATEVER THE INPUT: true; the input reads as it did. -/
def fnExactBestPlanSpec : ChangeSpec := { name := "fnExactBestPlan", vars := ["loop.example/smallmachines/impl.wordTexts"], fn := fun _ => fun
  | [d, g1] => { results := [.lit (.bool true)], args := [d], vars := [g1] }
  | _ => none }
def fnExactBestPlanRow : OpenClaim := { program := "ytlhfmjlcpcopkaadoor", sum := "40549bf2032d77cbde12feb003f84aab6be5ff8ccadebe9e886330dd928f0c0e", func := "loop.example/smallmachines/laws.FnExactBestPlan", spec := "fnExactBestPlan", recurses := true, named := ["loop.example/smallmachines/impl.wordTexts"], apart := false, laid := [("loop.example/smallmachines/impl.wordTexts", laid_loop_example_smallmachines_impl_wordTexts)] }
def FnExactBestPlanSaid : Prop := fnExactBestPlanRow.holds Tryd.pinned (OpenSpec.ofChange fnExactBestPlanSpec)

/-- ITS FALSE NEIGHBOUR: 'it returns false'. Refute it at one input. -/
def fnExactBestPlanWrong : ChangeSpec := { name := "fnExactBestPlan", vars := ["loop.example/smallmachines/impl.wordTexts"], fn := fun _ => fun
  | [d, g1] => { results := [.lit (.bool false)], args := [d], vars := [g1] }
  | _ => none }
def FnExactBestPlanWrongFalsely : Prop := fnExactBestPlanRow.holds Tryd.pinned (OpenSpec.ofChange fnExactBestPlanWrong)

/-- 'laws.FnValidBlock': WHATEVER THE INPUT: true; the input reads as it did. -/
def fnValidBlockSpec : ChangeSpec := { name := "fnValidBlock", vars := ["loop.example/smallmachines/impl.wordTexts"], fn := fun _ => fun
  | [d, g1] => { results := [.lit (.bool true)], args := [d], vars := [g1] }
  | _ => none }
def fnValidBlockRow : OpenClaim := { program := "ytlhfmjlcpcopkaadoor", sum := "40549bf2032d77cbde12feb003f84aab6be5ff8ccadebe9e886330dd928f0c0e", func := "loop.example/smallmachines/laws.FnValidBlock", spec := "fnValidBlock", named := ["loop.example/smallmachines/impl.wordTexts"], apart := false, laid := [("loop.example/smallmachines/impl.wordTexts", laid_loop_example_smallmachines_impl_wordTexts)] }
def FnValidBlockSaid : Prop := fnValidBlockRow.holds Tryd.pinned (OpenSpec.ofChange fnValidBlockSpec)

/-- ITS FALSE NEIGHBOUR: 'it returns false'. Refute it at one input. -/
def fnValidBlockWrong : ChangeSpec := { name := "fnValidBlock", vars := ["loop.example/smallmachines/impl.wordTexts"], fn := fun _ => fun
  | [d, g1] => { results := [.lit (.bool false)], args := [d], vars := [g1] }
  | _ => none }
def FnValidBlockWrongFalsely : Prop := fnValidBlockRow.holds Tryd.pinned (OpenSpec.ofChange fnValidBlockWrong)

/-- 'laws.FnTicksOf': WHATEVER THE INPUT: true; the input reads as it did. -/
def fnTicksOfSpec : ChangeSpec := { name := "fnTicksOf", vars := ["loop.example/smallmachines/impl.wordTexts"], fn := fun _ => fun
  | [d, g1] => { results := [.lit (.bool true)], args := [d], vars := [g1] }
  | _ => none }
def fnTicksOfRow : OpenClaim := { program := "ytlhfmjlcpcopkaadoor", sum := "40549bf2032d77cbde12feb003f84aab6be5ff8ccadebe9e886330dd928f0c0e", func := "loop.example/smallmachines/laws.FnTicksOf", spec := "fnTicksOf", named := ["loop.example/smallmachines/impl.wordTexts"], apart := false, laid := [("loop.example/smallmachines/impl.wordTexts", laid_loop_example_smallmachines_impl_wordTexts)] }
def FnTicksOfSaid : Prop := fnTicksOfRow.holds Tryd.pinned (OpenSpec.ofChange fnTicksOfSpec)

/-- ITS FALSE NEIGHBOUR: 'it returns false'. Refute it at one input. -/
def fnTicksOfWrong : ChangeSpec := { name := "fnTicksOf", vars := ["loop.example/smallmachines/impl.wordTexts"], fn := fun _ => fun
  | [d, g1] => { results := [.lit (.bool false)], args := [d], vars := [g1] }
  | _ => none }
def FnTicksOfWrongFalsely : Prop := fnTicksOfRow.holds Tryd.pinned (OpenSpec.ofChange fnTicksOfWrong)

/-- 'laws.FnLeastTime': WHATEVER THE INPUT: true; the input reads as it did. -/
def fnLeastTimeSpec : ChangeSpec := { name := "fnLeastTime", vars := ["loop.example/smallmachines/impl.wordTexts"], fn := fun _ => fun
  | [d, g1] => { results := [.lit (.bool true)], args := [d], vars := [g1] }
  | _ => none }
def fnLeastTimeRow : OpenClaim := { program := "ytlhfmjlcpcopkaadoor", sum := "40549bf2032d77cbde12feb003f84aab6be5ff8ccadebe9e886330dd928f0c0e", func := "loop.example/smallmachines/laws.FnLeastTime", spec := "fnLeastTime", unfollowed := true, recurses := true, named := ["loop.example/smallmachines/impl.wordTexts"], apart := false, laid := [("loop.example/smallmachines/impl.wordTexts", laid_loop_example_smallmachines_impl_wordTexts)] }
def FnLeastTimeSaid : Prop := fnLeastTimeRow.holds Tryd.pinned (OpenSpec.ofChange fnLeastTimeSpec)

/-- ITS FALSE NEIGHBOUR: 'it returns false'. Refute it at one input. -/
def fnLeastTimeWrong : ChangeSpec := { name := "fnLeastTime", vars := ["loop.example/smallmachines/impl.wordTexts"], fn := fun _ => fun
  | [d, g1] => { results := [.lit (.bool false)], args := [d], vars := [g1] }
  | _ => none }
def FnLeastTimeWrongFalsely : Prop := fnLeastTimeRow.holds Tryd.pinned (OpenSpec.ofChange fnLeastTimeWrong)

/- THE SECOND FORM. 'bulk': how many values and letters a reading holds, each counted each time it is reached (what is shared counts as often as it is met; a slice's spare places count too). A statement '..UptoSaid' is the law's where the arguments, and the package variables that the reading takes, are together of bulk at most 1048576: NARROWER than '..Said'. Prove '..Said' where nothing that the law and all that it calls make is longer than what came in: it says more and counts as full. Else prove '..UptoSaid'. A law counts once. -/
mutual
def uptoBulk {H : Type} : DataW H → Nat
  | .lit (.string bytes) => bytes.length + 1
  | .lit _ => 1
  | .nil => 1
  | .ptr d => uptoBulk d + 1
  | .slice elems spare => uptoBulkAll elems + uptoBulkAll spare + 1
  | .agg parts => uptoBulkAll parts + 1
  | .iface _ d => uptoBulk d + 1
  | .map entries => uptoBulkEntries entries + 1
  | .held _ => 1
def uptoBulkAll {H : Type} : List (DataW H) → Nat
  | [] => 0
  | d :: r => uptoBulk d + uptoBulkAll r
def uptoBulkEntries {H : Type} : List (Lit × DataW H) → Nat
  | [] => 0
  | x :: r => uptoBulkEntry x + uptoBulkEntries r
def uptoBulkEntry {H : Type} : Lit × DataW H → Nat
  | (.string bytes, d) => bytes.length + uptoBulk d + 1
  | (_, d) => uptoBulk d + 1
 end
def uptoSmall : (H : Type) → List (DataW H) → Bool := fun _ ds => decide (uptoBulkAll ds ≤ 1048576)
def OpenSpec.upto (s : _root_.Go.ChangeSpec) : _root_.Go.OpenSpec := { _root_.Go.OpenSpec.ofChange s with cond := some uptoSmall }

/-- 'laws.FnExactValidBlock', WHERE WHAT IT READS IS OF BULK AT MOST 1048576: true; the input reads as it did. -/
def fnExactValidBlockUptoRow : OpenClaim := { program := "ytlhfmjlcpcopkaadoor", sum := "40549bf2032d77cbde12feb003f84aab6be5ff8ccadebe9e886330dd928f0c0e", func := "loop.example/smallmachines/laws.FnExactValidBlock", spec := "fnExactValidBlock", named := ["loop.example/smallmachines/impl.wordTexts"], apart := false, laid := [("loop.example/smallmachines/impl.wordTexts", laid_loop_example_smallmachines_impl_wordTexts)], narrowed := true }
def FnExactValidBlockUptoSaid : Prop := fnExactValidBlockUptoRow.holds Tryd.pinned (OpenSpec.upto fnExactValidBlockSpec)

/-- 'laws.FnExactTicksOf', WHERE WHAT IT READS IS OF BULK AT MOST 1048576: true; the input reads as it did. -/
def fnExactTicksOfUptoRow : OpenClaim := { program := "ytlhfmjlcpcopkaadoor", sum := "40549bf2032d77cbde12feb003f84aab6be5ff8ccadebe9e886330dd928f0c0e", func := "loop.example/smallmachines/laws.FnExactTicksOf", spec := "fnExactTicksOf", named := ["loop.example/smallmachines/impl.wordTexts"], apart := false, laid := [("loop.example/smallmachines/impl.wordTexts", laid_loop_example_smallmachines_impl_wordTexts)], narrowed := true }
def FnExactTicksOfUptoSaid : Prop := fnExactTicksOfUptoRow.holds Tryd.pinned (OpenSpec.upto fnExactTicksOfSpec)

/-- 'laws.FnExactWaitsOf', WHERE WHAT IT READS IS OF BULK AT MOST 1048576: true; the input reads as it did. -/
def fnExactWaitsOfUptoRow : OpenClaim := { program := "ytlhfmjlcpcopkaadoor", sum := "40549bf2032d77cbde12feb003f84aab6be5ff8ccadebe9e886330dd928f0c0e", func := "loop.example/smallmachines/laws.FnExactWaitsOf", spec := "fnExactWaitsOf", named := ["loop.example/smallmachines/impl.wordTexts"], apart := false, laid := [("loop.example/smallmachines/impl.wordTexts", laid_loop_example_smallmachines_impl_wordTexts)], narrowed := true }
def FnExactWaitsOfUptoSaid : Prop := fnExactWaitsOfUptoRow.holds Tryd.pinned (OpenSpec.upto fnExactWaitsOfSpec)

/-- 'laws.FnExactBlockTime', WHERE WHAT IT READS IS OF BULK AT MOST 1048576: true; the input reads as it did. -/
def fnExactBlockTimeUptoRow : OpenClaim := { program := "ytlhfmjlcpcopkaadoor", sum := "40549bf2032d77cbde12feb003f84aab6be5ff8ccadebe9e886330dd928f0c0e", func := "loop.example/smallmachines/laws.FnExactBlockTime", spec := "fnExactBlockTime", named := ["loop.example/smallmachines/impl.wordTexts"], apart := false, laid := [("loop.example/smallmachines/impl.wordTexts", laid_loop_example_smallmachines_impl_wordTexts)], narrowed := true }
def FnExactBlockTimeUptoSaid : Prop := fnExactBlockTimeUptoRow.holds Tryd.pinned (OpenSpec.upto fnExactBlockTimeSpec)

/-- 'laws.FnExactHeightsOf', WHERE WHAT IT READS IS OF BULK AT MOST 1048576: true; the input reads as it did. -/
def fnExactHeightsOfUptoRow : OpenClaim := { program := "ytlhfmjlcpcopkaadoor", sum := "40549bf2032d77cbde12feb003f84aab6be5ff8ccadebe9e886330dd928f0c0e", func := "loop.example/smallmachines/laws.FnExactHeightsOf", spec := "fnExactHeightsOf", unfollowed := true, recurses := true, named := ["loop.example/smallmachines/impl.wordTexts"], apart := false, laid := [("loop.example/smallmachines/impl.wordTexts", laid_loop_example_smallmachines_impl_wordTexts)], narrowed := true }
def FnExactHeightsOfUptoSaid : Prop := fnExactHeightsOfUptoRow.holds Tryd.pinned (OpenSpec.upto fnExactHeightsOfSpec)

/-- 'laws.FnExactLeastTime', WHERE WHAT IT READS IS OF BULK AT MOST 1048576: true; the input reads as it did. -/
def fnExactLeastTimeUptoRow : OpenClaim := { program := "ytlhfmjlcpcopkaadoor", sum := "40549bf2032d77cbde12feb003f84aab6be5ff8ccadebe9e886330dd928f0c0e", func := "loop.example/smallmachines/laws.FnExactLeastTime", spec := "fnExactLeastTime", unfollowed := true, recurses := true, named := ["loop.example/smallmachines/impl.wordTexts"], apart := false, laid := [("loop.example/smallmachines/impl.wordTexts", laid_loop_example_smallmachines_impl_wordTexts)], narrowed := true }
def FnExactLeastTimeUptoSaid : Prop := fnExactLeastTimeUptoRow.holds Tryd.pinned (OpenSpec.upto fnExactLeastTimeSpec)

/-- 'laws.FnExactMoveBlock', WHERE WHAT IT READS IS OF BULK AT MOST 1048576: true; the input reads as it did. -/
def fnExactMoveBlockUptoRow : OpenClaim := { program := "ytlhfmjlcpcopkaadoor", sum := "40549bf2032d77cbde12feb003f84aab6be5ff8ccadebe9e886330dd928f0c0e", func := "loop.example/smallmachines/laws.FnExactMoveBlock", spec := "fnExactMoveBlock", named := ["loop.example/smallmachines/impl.wordTexts"], apart := false, laid := [("loop.example/smallmachines/impl.wordTexts", laid_loop_example_smallmachines_impl_wordTexts)], narrowed := true }
def FnExactMoveBlockUptoSaid : Prop := fnExactMoveBlockUptoRow.holds Tryd.pinned (OpenSpec.upto fnExactMoveBlockSpec)

/-- 'laws.FnExactPlanBlock', WHERE WHAT IT READS IS OF BULK AT MOST 1048576: true; the input reads as it did. -/
def fnExactPlanBlockUptoRow : OpenClaim := { program := "ytlhfmjlcpcopkaadoor", sum := "40549bf2032d77cbde12feb003f84aab6be5ff8ccadebe9e886330dd928f0c0e", func := "loop.example/smallmachines/laws.FnExactPlanBlock", spec := "fnExactPlanBlock", unfollowed := true, recurses := true, named := ["loop.example/smallmachines/impl.wordTexts"], apart := false, laid := [("loop.example/smallmachines/impl.wordTexts", laid_loop_example_smallmachines_impl_wordTexts)], narrowed := true }
def FnExactPlanBlockUptoSaid : Prop := fnExactPlanBlockUptoRow.holds Tryd.pinned (OpenSpec.upto fnExactPlanBlockSpec)

/-- 'laws.FnExactBestPlan', WHERE WHAT IT READS IS OF BULK AT MOST 1048576: true; the input reads as it did. -/
def fnExactBestPlanUptoRow : OpenClaim := { program := "ytlhfmjlcpcopkaadoor", sum := "40549bf2032d77cbde12feb003f84aab6be5ff8ccadebe9e886330dd928f0c0e", func := "loop.example/smallmachines/laws.FnExactBestPlan", spec := "fnExactBestPlan", recurses := true, named := ["loop.example/smallmachines/impl.wordTexts"], apart := false, laid := [("loop.example/smallmachines/impl.wordTexts", laid_loop_example_smallmachines_impl_wordTexts)], narrowed := true }
def FnExactBestPlanUptoSaid : Prop := fnExactBestPlanUptoRow.holds Tryd.pinned (OpenSpec.upto fnExactBestPlanSpec)

/-- 'laws.FnValidBlock', WHERE WHAT IT READS IS OF BULK AT MOST 1048576: true; the input reads as it did. -/
def fnValidBlockUptoRow : OpenClaim := { program := "ytlhfmjlcpcopkaadoor", sum := "40549bf2032d77cbde12feb003f84aab6be5ff8ccadebe9e886330dd928f0c0e", func := "loop.example/smallmachines/laws.FnValidBlock", spec := "fnValidBlock", named := ["loop.example/smallmachines/impl.wordTexts"], apart := false, laid := [("loop.example/smallmachines/impl.wordTexts", laid_loop_example_smallmachines_impl_wordTexts)], narrowed := true }
def FnValidBlockUptoSaid : Prop := fnValidBlockUptoRow.holds Tryd.pinned (OpenSpec.upto fnValidBlockSpec)

/-- 'laws.FnTicksOf', WHERE WHAT IT READS IS OF BULK AT MOST 1048576: true; the input reads as it did. -/
def fnTicksOfUptoRow : OpenClaim := { program := "ytlhfmjlcpcopkaadoor", sum := "40549bf2032d77cbde12feb003f84aab6be5ff8ccadebe9e886330dd928f0c0e", func := "loop.example/smallmachines/laws.FnTicksOf", spec := "fnTicksOf", named := ["loop.example/smallmachines/impl.wordTexts"], apart := false, laid := [("loop.example/smallmachines/impl.wordTexts", laid_loop_example_smallmachines_impl_wordTexts)], narrowed := true }
def FnTicksOfUptoSaid : Prop := fnTicksOfUptoRow.holds Tryd.pinned (OpenSpec.upto fnTicksOfSpec)

/-- 'laws.FnLeastTime', WHERE WHAT IT READS IS OF BULK AT MOST 1048576: true; the input reads as it did. -/
def fnLeastTimeUptoRow : OpenClaim := { program := "ytlhfmjlcpcopkaadoor", sum := "40549bf2032d77cbde12feb003f84aab6be5ff8ccadebe9e886330dd928f0c0e", func := "loop.example/smallmachines/laws.FnLeastTime", spec := "fnLeastTime", unfollowed := true, recurses := true, named := ["loop.example/smallmachines/impl.wordTexts"], apart := false, laid := [("loop.example/smallmachines/impl.wordTexts", laid_loop_example_smallmachines_impl_wordTexts)], narrowed := true }
def FnLeastTimeUptoSaid : Prop := fnLeastTimeUptoRow.holds Tryd.pinned (OpenSpec.upto fnLeastTimeSpec)

end Rows
end Go.Proofs.YtlhfmjlcpcopkaaDoor
