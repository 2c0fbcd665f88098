/-
  NARROWER THAN 'FOR EVERY INPUT', by the rows' own cells (each row's printed sentence says how): FnStepMachine: laid · FnTraceOf: laid · FnNextOf: laid · FnLeadersOf: laid · FnExactNextOf: laid · FnExactLeadersOf: laid.
  DERIVED. THE GIVEN ROWS OF THIS SEAT. 6 by the template 'for every input the law returns true; each argument reads behind the call as it read before'; 0 by the template 'total and deterministic' (their statements: YtbdlbooooiinkaaDoorTotals.lean).
  GIVEN WITH THE SEED: the statements are not yours to turn. If you find one false, say at which input.
  Laid BY PROGRAM, IN A SANDBOX (cutbox-rows.mjs): the forced cells as the released guide's own fill.sh prints them over the translation 25bcbcaaf8913625… (all of the seat's roots in one cut). By AI agents, Wed Nov 11 2026. No macro, syntax, notation, axiom, sorry.
-/
import Derived.Test.YtbdlbooooiinkaaDoorChecked
import GoSem.Claim
import GoSem.ClaimJoined
import GoSem.ClaimMapViews
import Derived.JoinedTies
import Derived.KernelRfl
namespace Go.Proofs.YtbdlbooooiinkaaDoor
/- THE CELL 'sum', in the pinned program and in every row, IS THE sha256 OF THE DUMP (.gsa) THAT YtbdlbooooiinkaaDoorProg.lean LOADS. Nothing in Lean hashes anything: it is a label: what it is worth is what the hold of that sum in a sandbox is worth. -/
noncomputable def Tryd.pinned : Pinned := { name := "ytbdlbooooiinkaadoor", sum := "25bcbcaaf89136254236a374984986f69ba9a9a4cb294d3f1cec4d0dfa1f488d", checked := Tryd.checked }
namespace Rows
def none {H : Type} : Left H := { results := [], args := [] }

/- WHAT THE LISTED PACKAGE-LEVEL VARIABLES READ AS WHEN THE CALL BEGINS. Each datum BY PROGRAM (the guide's laid-datum.mjs) off the statement by which the dump's own 'gosem.cut.vars' lays the variable. In a bare row this is a premise. The card (YtbdlbooooiinkaaDoorCards.lean) ties it to the program's text. -/
def laid_loop_example_smallmachines_impl_wordTexts {H : Type} : DataW H := .agg [.lit (.string [115, 101, 116]), .lit (.string [97, 100, 100]), .lit (.string [115, 117, 98]), .lit (.string [109, 117, 108]), .lit (.string [108, 116]), .lit (.string [108, 100]), .lit (.string [115, 116]), .lit (.string [98, 122]), .lit (.string [106, 109, 112]), .lit (.string [104, 108, 116])]

/-- 'laws.FnStepMachine': WHATEVER THE INPUT: true; the input reads as it did. -/
def fnStepMachineSpec : ChangeSpec := { name := "fnStepMachine", vars := ["loop.example/smallmachines/impl.wordTexts"], fn := fun _ => fun
  | [d, g1] => { results := [.lit (.bool true)], args := [d], vars := [g1] }
  | _ => none }
def fnStepMachineRow : OpenClaim := { program := "ytbdlbooooiinkaadoor", sum := "25bcbcaaf89136254236a374984986f69ba9a9a4cb294d3f1cec4d0dfa1f488d", func := "loop.example/smallmachines/laws.FnStepMachine", spec := "fnStepMachine", named := ["loop.example/smallmachines/impl.wordTexts"], apart := false, laid := [("loop.example/smallmachines/impl.wordTexts", laid_loop_example_smallmachines_impl_wordTexts)] }
def FnStepMachineSaid : Prop := fnStepMachineRow.holds Tryd.pinned (OpenSpec.ofChange fnStepMachineSpec)

/-- ITS FALSE NEIGHBOUR: 'it returns false'. Refute it at one input. -/
def fnStepMachineWrong : ChangeSpec := { name := "fnStepMachine", vars := ["loop.example/smallmachines/impl.wordTexts"], fn := fun _ => fun
  | [d, g1] => { results := [.lit (.bool false)], args := [d], vars := [g1] }
  | _ => none }
def FnStepMachineWrongFalsely : Prop := fnStepMachineRow.holds Tryd.pinned (OpenSpec.ofChange fnStepMachineWrong)

/-- 'laws.FnTraceOf': WHATEVER THE INPUT: true; the input reads as it did. -/
def fnTraceOfSpec : ChangeSpec := { name := "fnTraceOf", vars := ["loop.example/smallmachines/impl.wordTexts"], fn := fun _ => fun
  | [d, g1] => { results := [.lit (.bool true)], args := [d], vars := [g1] }
  | _ => none }
def fnTraceOfRow : OpenClaim := { program := "ytbdlbooooiinkaadoor", sum := "25bcbcaaf89136254236a374984986f69ba9a9a4cb294d3f1cec4d0dfa1f488d", func := "loop.example/smallmachines/laws.FnTraceOf", spec := "fnTraceOf", unfollowed := true, recurses := true, named := ["loop.example/smallmachines/impl.wordTexts"], apart := false, laid := [("loop.example/smallmachines/impl.wordTexts", laid_loop_example_smallmachines_impl_wordTexts)] }
def FnTraceOfSaid : Prop := fnTraceOfRow.holds Tryd.pinned (OpenSpec.ofChange fnTraceOfSpec)

/-- ITS FALSE NEIGHBOUR: 'it returns false'. Refute it at one input. -/
def fnTraceOfWrong : ChangeSpec := { name := "fnTraceOf", vars := ["loop.example/smallmachines/impl.wordTexts"], fn := fun _ => fun
  | [d, g1] => { results := [.lit (.bool false)], args := [d], vars := [g1] }
  | _ => none }
def FnTraceOfWrongFalsely : Prop := fnTraceOfRow.holds Tryd.pinned (OpenSpec.ofChange fnTraceOfWrong)

/-- 'laws.FnNextOf': WHATEVER THE INPUT: true; the input reads as it did. -/
def fnNextOfSpec : ChangeSpec := { name := "fnNextOf", vars := ["loop.example/smallmachines/impl.wordTexts"], fn := fun _ => fun
  | [d, g1] => { results := [.lit (.bool true)], args := [d], vars := [g1] }
  | _ => none }
def fnNextOfRow : OpenClaim := { program := "ytbdlbooooiinkaadoor", sum := "25bcbcaaf89136254236a374984986f69ba9a9a4cb294d3f1cec4d0dfa1f488d", func := "loop.example/smallmachines/laws.FnNextOf", spec := "fnNextOf", named := ["loop.example/smallmachines/impl.wordTexts"], apart := false, laid := [("loop.example/smallmachines/impl.wordTexts", laid_loop_example_smallmachines_impl_wordTexts)] }
def FnNextOfSaid : Prop := fnNextOfRow.holds Tryd.pinned (OpenSpec.ofChange fnNextOfSpec)

/-- ITS FALSE NEIGHBOUR: 'it returns false'. Refute it at one input. -/
def fnNextOfWrong : ChangeSpec := { name := "fnNextOf", vars := ["loop.example/smallmachines/impl.wordTexts"], fn := fun _ => fun
  | [d, g1] => { results := [.lit (.bool false)], args := [d], vars := [g1] }
  | _ => none }
def FnNextOfWrongFalsely : Prop := fnNextOfRow.holds Tryd.pinned (OpenSpec.ofChange fnNextOfWrong)

/-- 'laws.FnLeadersOf': WHATEVER THE INPUT: true; the input reads as it did. -/
def fnLeadersOfSpec : ChangeSpec := { name := "fnLeadersOf", vars := ["loop.example/smallmachines/impl.wordTexts"], fn := fun _ => fun
  | [d, g1] => { results := [.lit (.bool true)], args := [d], vars := [g1] }
  | _ => none }
def fnLeadersOfRow : OpenClaim := { program := "ytbdlbooooiinkaadoor", sum := "25bcbcaaf89136254236a374984986f69ba9a9a4cb294d3f1cec4d0dfa1f488d", func := "loop.example/smallmachines/laws.FnLeadersOf", spec := "fnLeadersOf", named := ["loop.example/smallmachines/impl.wordTexts"], apart := false, laid := [("loop.example/smallmachines/impl.wordTexts", laid_loop_example_smallmachines_impl_wordTexts)] }
def FnLeadersOfSaid : Prop := fnLeadersOfRow.holds Tryd.pinned (OpenSpec.ofChange fnLeadersOfSpec)

/-- ITS FALSE NEIGHBOUR: 'it returns false'. Refute it at one input. -/
def fnLeadersOfWrong : ChangeSpec := { name := "fnLeadersOf", vars := ["loop.example/smallmachines/impl.wordTexts"], fn := fun _ => fun
  | [d, g1] => { results := [.lit (.bool false)], args := [d], vars := [g1] }
  | _ => none }
def FnLeadersOfWrongFalsely : Prop := fnLeadersOfRow.holds Tryd.pinned (OpenSpec.ofChange fnLeadersOfWrong)

/-- 'laws.FnExactNextOf': WHATEVER THE INPUT: true; the input reads as it did. -/
def fnExactNextOfSpec : ChangeSpec := { name := "fnExactNextOf", vars := ["loop.example/smallmachines/impl.wordTexts"], fn := fun _ => fun
  | [d1, d2, g1] => { results := [.lit (.bool true)], args := [d1, d2], vars := [g1] }
  | _ => none }
def fnExactNextOfRow : OpenClaim := { program := "ytbdlbooooiinkaadoor", sum := "25bcbcaaf89136254236a374984986f69ba9a9a4cb294d3f1cec4d0dfa1f488d", func := "loop.example/smallmachines/laws.FnExactNextOf", spec := "fnExactNextOf", named := ["loop.example/smallmachines/impl.wordTexts"], apart := false, laid := [("loop.example/smallmachines/impl.wordTexts", laid_loop_example_smallmachines_impl_wordTexts)] }
def FnExactNextOfSaid : Prop := fnExactNextOfRow.holds Tryd.pinned (OpenSpec.ofChange fnExactNextOfSpec)

/-- ITS FALSE NEIGHBOUR: 'it returns false'. Refute it at one input. -/
def fnExactNextOfWrong : ChangeSpec := { name := "fnExactNextOf", vars := ["loop.example/smallmachines/impl.wordTexts"], fn := fun _ => fun
  | [d1, d2, g1] => { results := [.lit (.bool false)], args := [d1, d2], vars := [g1] }
  | _ => none }
def FnExactNextOfWrongFalsely : Prop := fnExactNextOfRow.holds Tryd.pinned (OpenSpec.ofChange fnExactNextOfWrong)

/-- 'laws.FnExactLeadersOf': WHATEVER THE INPUT: true; the input reads as it did. -/
def fnExactLeadersOfSpec : ChangeSpec := { name := "fnExactLeadersOf", vars := ["loop.example/smallmachines/impl.wordTexts"], fn := fun _ => fun
  | [d, g1] => { results := [.lit (.bool true)], args := [d], vars := [g1] }
  | _ => none }
def fnExactLeadersOfRow : OpenClaim := { program := "ytbdlbooooiinkaadoor", sum := "25bcbcaaf89136254236a374984986f69ba9a9a4cb294d3f1cec4d0dfa1f488d", func := "loop.example/smallmachines/laws.FnExactLeadersOf", spec := "fnExactLeadersOf", named := ["loop.example/smallmachines/impl.wordTexts"], apart := false, laid := [("loop.example/smallmachines/impl.wordTexts", laid_loop_example_smallmachines_impl_wordTexts)] }
def FnExactLeadersOfSaid : Prop := fnExactLeadersOfRow.holds Tryd.pinned (OpenSpec.ofChange fnExactLeadersOfSpec)

/-- ITS FALSE NEIGHBOUR: 'it returns false'. Refute it at one input. -/
def fnExactLeadersOfWrong : ChangeSpec := { name := "fnExactLeadersOf", vars := ["loop.example/smallmachines/impl.wordTexts"], fn := fun _ => fun
  | [d, g1] => { results := [.lit (.bool false)], args := [d], vars := [g1] }
  | _ => none }
def FnExactLeadersOfWrongFalsely : Prop := fnExactLeadersOfRow.holds Tryd.pinned (OpenSpec.ofChange fnExactLeadersOfWrong)

/- THE SECOND FORM. 'bulk': how many values and letters a reading holds, each counted each time it is reached (what is shared counts as often as it is met; a slice's spare places count too). A statement '..UptoSaid' is the law's where the arguments, and the package variables that the reading takes, are together of bulk at most 1048576: NARROWER than '..Said'. Prove '..Said' where nothing that the law and all that it calls make is longer than what came in: it says more and counts as full. Else prove '..UptoSaid'. A law counts once. -/
mutual
def uptoBulk {H : Type} : DataW H → Nat
  | .lit (.string bytes) => bytes.length + 1
  | .lit _ => 1
  | .nil => 1
  | .ptr d => uptoBulk d + 1
  | .slice elems spare => uptoBulkAll elems + uptoBulkAll spare + 1
  | .agg parts => uptoBulkAll parts + 1
  | .iface _ d => uptoBulk d + 1
  | .map entries => uptoBulkEntries entries + 1
  | .held _ => 1
def uptoBulkAll {H : Type} : List (DataW H) → Nat
  | [] => 0
  | d :: r => uptoBulk d + uptoBulkAll r
def uptoBulkEntries {H : Type} : List (Lit × DataW H) → Nat
  | [] => 0
  | x :: r => uptoBulkEntry x + uptoBulkEntries r
def uptoBulkEntry {H : Type} : Lit × DataW H → Nat
  | (.string bytes, d) => bytes.length + uptoBulk d + 1
  | (_, d) => uptoBulk d + 1
 end
def uptoSmall : (H : Type) → List (DataW H) → Bool := fun _ ds => decide (uptoBulkAll ds ≤ 1048576)
def OpenSpec.upto (s : _root_.Go.ChangeSpec) : _root_.Go.OpenSpec := { _root_.Go.OpenSpec.ofChange s with cond := some uptoSmall }

/-- 'laws.FnStepMachine', WHERE WHAT IT READS IS OF BULK AT MOST 1048576: true; the input reads as it did. -/
def fnStepMachineUptoRow : OpenClaim := { program := "ytbdlbooooiinkaadoor", sum := "25bcbcaaf89136254236a374984986f69ba9a9a4cb294d3f1cec4d0dfa1f488d", func := "loop.example/smallmachines/laws.FnStepMachine", spec := "fnStepMachine", named := ["loop.example/smallmachines/impl.wordTexts"], apart := false, laid := [("loop.example/smallmachines/impl.wordTexts", laid_loop_example_smallmachines_impl_wordTexts)], narrowed := true }
def FnStepMachineUptoSaid : Prop := fnStepMachineUptoRow.holds Tryd.pinned (OpenSpec.upto fnStepMachineSpec)

/-- 'laws.FnTraceOf', WHERE WHAT IT READS IS OF BULK AT MOST 1048576: true; the input reads as it did. -/
def fnTraceOfUptoRow : OpenClaim := { program := "ytbdlbooooiinkaadoor", sum := "25bcbcaaf89136254236a374984986f69ba9a9a4cb294d3f1cec4d0dfa1f488d", func := "loop.example/smallmachines/laws.FnTraceOf", spec := "fnTraceOf", unfollowed := true, recurses := true, named := ["loop.example/smallmachines/impl.wordTexts"], apart := false, laid := [("loop.example/smallmachines/impl.wordTexts", laid_loop_example_smallmachines_impl_wordTexts)], narrowed := true }
def FnTraceOfUptoSaid : Prop := fnTraceOfUptoRow.holds Tryd.pinned (OpenSpec.upto fnTraceOfSpec)

/-- 'laws.FnNextOf', WHERE WHAT IT READS IS OF BULK AT MOST 1048576: true; the input reads as it did. -/
def fnNextOfUptoRow : OpenClaim := { program := "ytbdlbooooiinkaadoor", sum := "25bcbcaaf89136254236a374984986f69ba9a9a4cb294d3f1cec4d0dfa1f488d", func := "loop.example/smallmachines/laws.FnNextOf", spec := "fnNextOf", named := ["loop.example/smallmachines/impl.wordTexts"], apart := false, laid := [("loop.example/smallmachines/impl.wordTexts", laid_loop_example_smallmachines_impl_wordTexts)], narrowed := true }
def FnNextOfUptoSaid : Prop := fnNextOfUptoRow.holds Tryd.pinned (OpenSpec.upto fnNextOfSpec)

/-- 'laws.FnLeadersOf', WHERE WHAT IT READS IS OF BULK AT MOST 1048576: true; the input reads as it did. -/
def fnLeadersOfUptoRow : OpenClaim := { program := "ytbdlbooooiinkaadoor", sum := "25bcbcaaf89136254236a374984986f69ba9a9a4cb294d3f1cec4d0dfa1f488d", func := "loop.example/smallmachines/laws.FnLeadersOf", spec := "fnLeadersOf", named := ["loop.example/smallmachines/impl.wordTexts"], apart := false, laid := [("loop.example/smallmachines/impl.wordTexts", laid_loop_example_smallmachines_impl_wordTexts)], narrowed := true }
def FnLeadersOfUptoSaid : Prop := fnLeadersOfUptoRow.holds Tryd.pinned (OpenSpec.upto fnLeadersOfSpec)

/-- 'laws.FnExactNextOf', WHERE WHAT IT READS IS OF BULK AT MOST 1048576: true; the input reads as it did. -/
def fnExactNextOfUptoRow : OpenClaim := { program := "ytbdlbooooiinkaadoor", sum := "25bcbcaaf89136254236a374984986f69ba9a9a4cb294d3f1cec4d0dfa1f488d", func := "loop.example/smallmachines/laws.FnExactNextOf", spec := "fnExactNextOf", named := ["loop.example/smallmachines/impl.wordTexts"], apart := false, laid := [("loop.example/smallmachines/impl.wordTexts", laid_loop_example_smallmachines_impl_wordTexts)], narrowed := true }
def FnExactNextOfUptoSaid : Prop := fnExactNextOfUptoRow.holds Tryd.pinned (OpenSpec.upto fnExactNextOfSpec)

/-- 'laws.FnExactLeadersOf', WHERE WHAT IT READS IS OF BULK AT MOST 1048576: true; the input reads as it did. -/
def fnExactLeadersOfUptoRow : OpenClaim := { program := "ytbdlbooooiinkaadoor", sum := "25bcbcaaf89136254236a374984986f69ba9a9a4cb294d3f1cec4d0dfa1f488d", func := "loop.example/smallmachines/laws.FnExactLeadersOf", spec := "fnExactLeadersOf", named := ["loop.example/smallmachines/impl.wordTexts"], apart := false, laid := [("loop.example/smallmachines/impl.wordTexts", laid_loop_example_smallmachines_impl_wordTexts)], narrowed := true }
def FnExactLeadersOfUptoSaid : Prop := fnExactLeadersOfUptoRow.holds Tryd.pinned (OpenSpec.upto fnExactLeadersOfSpec)

end Rows
end Go.Proofs.YtbdlbooooiinkaaDoor
