/-
  NARROWER THAN 'FOR EVERY INPUT', by the rows' own cells (each row's printed sentence says how): FnValidInstr: laid · FnEncodeInstr: laid · FnDecodeInstr: laid · FnValidCode: laid · FnExactValidCode: laid · FnUsesOf: laid · FnExactStepMachine: laid · FnExactTraceOf: laid.
  DERIVED. THE GIVEN ROWS OF THIS SEAT. 8 by the template 'for every input the law returns true; each argument reads behind the call as it read before'; 0 by the template 'total and deterministic' (their statements: YtghpgpklhenleaaDoorTotals.lean).
  GIVEN WITH THE SEED: the statements are not yours to turn. If you find one false, say at which input.
  Laid BY PROGRAM, IN A SANDBOX (cutbox-rows.mjs): the forced cells as the released guide's own fill.sh prints them over the translation 34d871313f1c0c8b… (all of the seat's roots in one cut). By AI agents, Wed Nov 11 2026. No macro, syntax, notation, axiom, sorry.
-/
import Derived.Test.YtghpgpklhenleaaDoorChecked
import GoSem.Claim
import GoSem.ClaimJoined
import GoSem.ClaimMapViews
import Derived.JoinedTies
import Derived.KernelRfl
namespace Go.Proofs.YtghpgpklhenleaaDoor
/- THE CELL 'sum', in the pinned program and in every row, IS THE sha256 OF THE DUMP (.gsa) THAT YtghpgpklhenleaaDoorProg.lean LOADS. Nothing in Lean hashes anything: it is a label: what it is worth is what the hold of that sum in a sandbox is worth. -/
noncomputable def Tryd.pinned : Pinned := { name := "ytghpgpklhenleaadoor", sum := "34d871313f1c0c8bd0e7238c5f685e2cec80f0f092c640b7b1ac1ec4d77640e1", checked := Tryd.checked }
namespace Rows
def none {H : Type} : Left H := { results := [], args := [] }

/- WHAT THE LISTED PACKAGE-LEVEL VARIABLES READ AS WHEN THE CALL BEGINS. Each datum BY PROGRAM (the guide's laid-datum.mjs) off the statement by which the dump's own 'gosem.cut.vars' lays the variable. In a bare row this is a premise. The card (YtghpgpklhenleaaDoorCards.lean) ties it to the program's text. -/
def laid_loop_example_smallmachines_impl_wordTexts {H : Type} : DataW H := .agg [.lit (.string [115, 101, 116]), .lit (.string [97, 100, 100]), .lit (.string [115, 117, 98]), .lit (.string [109, 117, 108]), .lit (.string [108, 116]), .lit (.string [108, 100]), .lit (.string [115, 116]), .lit (.string [98, 122]), .lit (.string [106, 109, 112]), .lit (.string [104, 108, 116])]

/-- 'laws.FnValidInstr': WHATEVER THE INPUT: true; the input reads as it did. -/
def fnValidInstrSpec : ChangeSpec := { name := "fnValidInstr", vars := ["loop.example/smallmachines/impl.wordTexts"], fn := fun _ => fun
  | [d, g1] => { results := [.lit (.bool true)], args := [d], vars := [g1] }
  | _ => none }
def fnValidInstrRow : OpenClaim := { program := "ytghpgpklhenleaadoor", sum := "34d871313f1c0c8bd0e7238c5f685e2cec80f0f092c640b7b1ac1ec4d77640e1", func := "loop.example/smallmachines/laws.FnValidInstr", spec := "fnValidInstr", named := ["loop.example/smallmachines/impl.wordTexts"], apart := false, laid := [("loop.example/smallmachines/impl.wordTexts", laid_loop_example_smallmachines_impl_wordTexts)] }
def FnValidInstrSaid : Prop := fnValidInstrRow.holds Tryd.pinned (OpenSpec.ofChange fnValidInstrSpec)

/-- ITS FALSE NEIGHBOUR: 'it returns false'. Refute it at one input. -/
def fnValidInstrWrong : ChangeSpec := { name := "fnValidInstr", vars := ["loop.example/smallmachines/impl.wordTexts"], fn := fun _ => fun
  | [d, g1] => { results := [.lit (.bool false)], args := [d], vars := [g1] }
  | _ => none }
def FnValidInstrWrongFalsely : Prop := fnValidInstrRow.holds Tryd.pinned (OpenSpec.ofChange fnValidInstrWrong)

/-- 'laws.FnEncodeInstr': WHATEVER THE INPUT: true; the input reads as it did. -/
def fnEncodeInstrSpec : ChangeSpec := { name := "fnEncodeInstr", vars := ["loop.example/smallmachines/impl.wordTexts"], fn := fun _ => fun
  | [d, g1] => { results := [.lit (.bool true)], args := [d], vars := [g1] }
  | _ => none }
def fnEncodeInstrRow : OpenClaim := { program := "ytghpgpklhenleaadoor", sum := "34d871313f1c0c8bd0e7238c5f685e2cec80f0f092c640b7b1ac1ec4d77640e1", func := "loop.example/smallmachines/laws.FnEncodeInstr", spec := "fnEncodeInstr", named := ["loop.example/smallmachines/impl.wordTexts"], apart := false, laid := [("loop.example/smallmachines/impl.wordTexts", laid_loop_example_smallmachines_impl_wordTexts)] }
def FnEncodeInstrSaid : Prop := fnEncodeInstrRow.holds Tryd.pinned (OpenSpec.ofChange fnEncodeInstrSpec)

/-- ITS FALSE NEIGHBOUR: 'it returns false'. Refute it at one input. -/
def fnEncodeInstrWrong : ChangeSpec := { name := "fnEncodeInstr", vars := ["loop.example/smallmachines/impl.wordTexts"], fn := fun _ => fun
  | [d, g1] => { results := [.lit (.bool false)], args := [d], vars := [g1] }
  | _ => none }
def FnEncodeInstrWrongFalsely : Prop := fnEncodeInstrRow.holds Tryd.pinned (OpenSpec.ofChange fnEncodeInstrWrong)

/-- 'laws.FnDecodeInstr': WHATEVER THE INPUT: true; the input reads as it did. -/
def fnDecodeInstrSpec : ChangeSpec := { name := "fnDecodeInstr", vars := ["loop.example/smallmachines/impl.wordTexts"], fn := fun _ => fun
  | [d, g1] => { results := [.lit (.bool true)], args := [d], vars := [g1] }
  | _ => none }
def fnDecodeInstrRow : OpenClaim := { program := "ytghpgpklhenleaadoor", sum := "34d871313f1c0c8bd0e7238c5f685e2cec80f0f092c640b7b1ac1ec4d77640e1", func := "loop.example/smallmachines/laws.FnDecodeInstr", spec := "fnDecodeInstr", named := ["loop.example/smallmachines/impl.wordTexts"], apart := false, laid := [("loop.example/smallmachines/impl.wordTexts", laid_loop_example_smallmachines_impl_wordTexts)] }
def FnDecodeInstrSaid : Prop := fnDecodeInstrRow.holds Tryd.pinned (OpenSpec.ofChange fnDecodeInstrSpec)

/-- ITS FALSE NEIGHBOUR: 'it returns false'. Refute it at one input. -/
def fnDecodeInstrWrong : ChangeSpec := { name := "fnDecodeInstr", vars := ["loop.example/smallmachines/impl.wordTexts"], fn := fun _ => fun
  | [d, g1] => { results := [.lit (.bool false)], args := [d], vars := [g1] }
  | _ => none }
def FnDecodeInstrWrongFalsely : Prop := fnDecodeInstrRow.holds Tryd.pinned (OpenSpec.ofChange fnDecodeInstrWrong)

/-- 'laws.FnValidCode': WHATEVER THE INPUT: true; the input reads as it did. -/
def fnValidCodeSpec : ChangeSpec := { name := "fnValidCode", vars := ["loop.example/smallmachines/impl.wordTexts"], fn := fun _ => fun
  | [d, g1] => { results := [.lit (.bool true)], args := [d], vars := [g1] }
  | _ => none }
def fnValidCodeRow : OpenClaim := { program := "ytghpgpklhenleaadoor", sum := "34d871313f1c0c8bd0e7238c5f685e2cec80f0f092c640b7b1ac1ec4d77640e1", func := "loop.example/smallmachines/laws.FnValidCode", spec := "fnValidCode", named := ["loop.example/smallmachines/impl.wordTexts"], apart := false, laid := [("loop.example/smallmachines/impl.wordTexts", laid_loop_example_smallmachines_impl_wordTexts)] }
def FnValidCodeSaid : Prop := fnValidCodeRow.holds Tryd.pinned (OpenSpec.ofChange fnValidCodeSpec)

/-- ITS FALSE NEIGHBOUR: 'it returns false'. Refute it at one input. -/
def fnValidCodeWrong : ChangeSpec := { name := "fnValidCode", vars := ["loop.example/smallmachines/impl.wordTexts"], fn := fun _ => fun
  | [d, g1] => { results := [.lit (.bool false)], args := [d], vars := [g1] }
  | _ => none }
def FnValidCodeWrongFalsely : Prop := fnValidCodeRow.holds Tryd.pinned (OpenSpec.ofChange fnValidCodeWrong)

/-- 'laws.FnExactValidCode': WHATEVER THE INPUT: true; the input reads as it did. -/
def fnExactValidCodeSpec : ChangeSpec := { name := "fnExactValidCode", vars := ["loop.example/smallmachines/impl.wordTexts"], fn := fun _ => fun
  | [d, g1] => { results := [.lit (.bool true)], args := [d], vars := [g1] }
  | _ => none }
def fnExactValidCodeRow : OpenClaim := { program := "ytghpgpklhenleaadoor", sum := "34d871313f1c0c8bd0e7238c5f685e2cec80f0f092c640b7b1ac1ec4d77640e1", func := "loop.example/smallmachines/laws.FnExactValidCode", spec := "fnExactValidCode", named := ["loop.example/smallmachines/impl.wordTexts"], apart := false, laid := [("loop.example/smallmachines/impl.wordTexts", laid_loop_example_smallmachines_impl_wordTexts)] }
def FnExactValidCodeSaid : Prop := fnExactValidCodeRow.holds Tryd.pinned (OpenSpec.ofChange fnExactValidCodeSpec)

/-- ITS FALSE NEIGHBOUR: 'it returns false'. Refute it at one input. -/
def fnExactValidCodeWrong : ChangeSpec := { name := "fnExactValidCode", vars := ["loop.example/smallmachines/impl.wordTexts"], fn := fun _ => fun
  | [d, g1] => { results := [.lit (.bool false)], args := [d], vars := [g1] }
  | _ => none }
def FnExactValidCodeWrongFalsely : Prop := fnExactValidCodeRow.holds Tryd.pinned (OpenSpec.ofChange fnExactValidCodeWrong)

/-- 'laws.FnUsesOf': WHATEVER THE INPUT: true; the input reads as it did. -/
def fnUsesOfSpec : ChangeSpec := { name := "fnUsesOf", vars := ["loop.example/smallmachines/impl.wordTexts"], fn := fun _ => fun
  | [d, g1] => { results := [.lit (.bool true)], args := [d], vars := [g1] }
  | _ => none }
def fnUsesOfRow : OpenClaim := { program := "ytghpgpklhenleaadoor", sum := "34d871313f1c0c8bd0e7238c5f685e2cec80f0f092c640b7b1ac1ec4d77640e1", func := "loop.example/smallmachines/laws.FnUsesOf", spec := "fnUsesOf", named := ["loop.example/smallmachines/impl.wordTexts"], apart := false, laid := [("loop.example/smallmachines/impl.wordTexts", laid_loop_example_smallmachines_impl_wordTexts)] }
def FnUsesOfSaid : Prop := fnUsesOfRow.holds Tryd.pinned (OpenSpec.ofChange fnUsesOfSpec)

/-- ITS FALSE NEIGHBOUR: 'it returns false'. Refute it at one input. -/
def fnUsesOfWrong : ChangeSpec := { name := "fnUsesOf", vars := ["loop.example/smallmachines/impl.wordTexts"], fn := fun _ => fun
  | [d, g1] => { results := [.lit (.bool false)], args := [d], vars := [g1] }
  | _ => none }
def FnUsesOfWrongFalsely : Prop := fnUsesOfRow.holds Tryd.pinned (OpenSpec.ofChange fnUsesOfWrong)

/-- 'laws.FnExactStepMachine': WHATEVER THE INPUT: true; the input reads as it did. -/
def fnExactStepMachineSpec : ChangeSpec := { name := "fnExactStepMachine", vars := ["loop.example/smallmachines/impl.wordTexts"], fn := fun _ => fun
  | [d1, d2, g1] => { results := [.lit (.bool true)], args := [d1, d2], vars := [g1] }
  | _ => none }
def fnExactStepMachineRow : OpenClaim := { program := "ytghpgpklhenleaadoor", sum := "34d871313f1c0c8bd0e7238c5f685e2cec80f0f092c640b7b1ac1ec4d77640e1", func := "loop.example/smallmachines/laws.FnExactStepMachine", spec := "fnExactStepMachine", named := ["loop.example/smallmachines/impl.wordTexts"], apart := false, laid := [("loop.example/smallmachines/impl.wordTexts", laid_loop_example_smallmachines_impl_wordTexts)] }
def FnExactStepMachineSaid : Prop := fnExactStepMachineRow.holds Tryd.pinned (OpenSpec.ofChange fnExactStepMachineSpec)

/-- ITS FALSE NEIGHBOUR: 'it returns false'. Refute it at one input. -/
def fnExactStepMachineWrong : ChangeSpec := { name := "fnExactStepMachine", vars := ["loop.example/smallmachines/impl.wordTexts"], fn := fun _ => fun
  | [d1, d2, g1] => { results := [.lit (.bool false)], args := [d1, d2], vars := [g1] }
  | _ => none }
def FnExactStepMachineWrongFalsely : Prop := fnExactStepMachineRow.holds Tryd.pinned (OpenSpec.ofChange fnExactStepMachineWrong)

/-- 'laws.FnExactTraceOf': WHATEVER THE INPUT: true; the input reads as it did. -/
def fnExactTraceOfSpec : ChangeSpec := { name := "fnExactTraceOf", vars := ["loop.example/smallmachines/impl.wordTexts"], fn := fun _ => fun
  | [d1, d2, d3, g1] => { results := [.lit (.bool true)], args := [d1, d2, d3], vars := [g1] }
  | _ => none }
def fnExactTraceOfRow : OpenClaim := { program := "ytghpgpklhenleaadoor", sum := "34d871313f1c0c8bd0e7238c5f685e2cec80f0f092c640b7b1ac1ec4d77640e1", func := "loop.example/smallmachines/laws.FnExactTraceOf", spec := "fnExactTraceOf", unfollowed := true, recurses := true, named := ["loop.example/smallmachines/impl.wordTexts"], apart := false, laid := [("loop.example/smallmachines/impl.wordTexts", laid_loop_example_smallmachines_impl_wordTexts)] }
def FnExactTraceOfSaid : Prop := fnExactTraceOfRow.holds Tryd.pinned (OpenSpec.ofChange fnExactTraceOfSpec)

/-- ITS FALSE NEIGHBOUR: 'it returns false'. Refute it at one input. -/
def fnExactTraceOfWrong : ChangeSpec := { name := "fnExactTraceOf", vars := ["loop.example/smallmachines/impl.wordTexts"], fn := fun _ => fun
  | [d1, d2, d3, g1] => { results := [.lit (.bool false)], args := [d1, d2, d3], vars := [g1] }
  | _ => none }
def FnExactTraceOfWrongFalsely : Prop := fnExactTraceOfRow.holds Tryd.pinned (OpenSpec.ofChange fnExactTraceOfWrong)

/- THE SECOND FORM. 'bulk': how many values and letters a reading holds, each counted each time it is reached (what is shared counts as often as it is met; a slice's spare places count too). A statement '..UptoSaid' is the law's where the arguments, and the package variables that the reading takes, are together of bulk at most 1048576: NARROWER than '..Said'. Prove '..Said' where nothing that the law and all that it calls make is longer than what came in: it says more and counts as full. Else prove '..UptoSaid'. A law counts once. -/
mutual
def uptoBulk {H : Type} : DataW H → Nat
  | .lit (.string bytes) => bytes.length + 1
  | .lit _ => 1
  | .nil => 1
  | .ptr d => uptoBulk d + 1
  | .slice elems spare => uptoBulkAll elems + uptoBulkAll spare + 1
  | .agg parts => uptoBulkAll parts + 1
  | .iface _ d => uptoBulk d + 1
  | .map entries => uptoBulkEntries entries + 1
  | .held _ => 1
def uptoBulkAll {H : Type} : List (DataW H) → Nat
  | [] => 0
  | d :: r => uptoBulk d + uptoBulkAll r
def uptoBulkEntries {H : Type} : List (Lit × DataW H) → Nat
  | [] => 0
  | x :: r => uptoBulkEntry x + uptoBulkEntries r
def uptoBulkEntry {H : Type} : Lit × DataW H → Nat
  | (.string bytes, d) => bytes.length + uptoBulk d + 1
  | (_, d) => uptoBulk d + 1
 end
def uptoSmall : (H : Type) → List (DataW H) → Bool := fun _ ds => decide (uptoBulkAll ds ≤ 1048576)
def OpenSpec.upto (s : _root_.Go.ChangeSpec) : _root_.Go.OpenSpec := { _root_.Go.OpenSpec.ofChange s with cond := some uptoSmall }

/-- 'laws.FnValidInstr', WHERE WHAT IT READS IS OF BULK AT MOST 1048576: true; the input reads as it did. -/
def fnValidInstrUptoRow : OpenClaim := { program := "ytghpgpklhenleaadoor", sum := "34d871313f1c0c8bd0e7238c5f685e2cec80f0f092c640b7b1ac1ec4d77640e1", func := "loop.example/smallmachines/laws.FnValidInstr", spec := "fnValidInstr", named := ["loop.example/smallmachines/impl.wordTexts"], apart := false, laid := [("loop.example/smallmachines/impl.wordTexts", laid_loop_example_smallmachines_impl_wordTexts)], narrowed := true }
def FnValidInstrUptoSaid : Prop := fnValidInstrUptoRow.holds Tryd.pinned (OpenSpec.upto fnValidInstrSpec)

/-- 'laws.FnEncodeInstr', WHERE WHAT IT READS IS OF BULK AT MOST 1048576: true; the input reads as it did. -/
def fnEncodeInstrUptoRow : OpenClaim := { program := "ytghpgpklhenleaadoor", sum := "34d871313f1c0c8bd0e7238c5f685e2cec80f0f092c640b7b1ac1ec4d77640e1", func := "loop.example/smallmachines/laws.FnEncodeInstr", spec := "fnEncodeInstr", named := ["loop.example/smallmachines/impl.wordTexts"], apart := false, laid := [("loop.example/smallmachines/impl.wordTexts", laid_loop_example_smallmachines_impl_wordTexts)], narrowed := true }
def FnEncodeInstrUptoSaid : Prop := fnEncodeInstrUptoRow.holds Tryd.pinned (OpenSpec.upto fnEncodeInstrSpec)

/-- 'laws.FnDecodeInstr', WHERE WHAT IT READS IS OF BULK AT MOST 1048576: true; the input reads as it did. -/
def fnDecodeInstrUptoRow : OpenClaim := { program := "ytghpgpklhenleaadoor", sum := "34d871313f1c0c8bd0e7238c5f685e2cec80f0f092c640b7b1ac1ec4d77640e1", func := "loop.example/smallmachines/laws.FnDecodeInstr", spec := "fnDecodeInstr", named := ["loop.example/smallmachines/impl.wordTexts"], apart := false, laid := [("loop.example/smallmachines/impl.wordTexts", laid_loop_example_smallmachines_impl_wordTexts)], narrowed := true }
def FnDecodeInstrUptoSaid : Prop := fnDecodeInstrUptoRow.holds Tryd.pinned (OpenSpec.upto fnDecodeInstrSpec)

/-- 'laws.FnValidCode', WHERE WHAT IT READS IS OF BULK AT MOST 1048576: true; the input reads as it did. -/
def fnValidCodeUptoRow : OpenClaim := { program := "ytghpgpklhenleaadoor", sum := "34d871313f1c0c8bd0e7238c5f685e2cec80f0f092c640b7b1ac1ec4d77640e1", func := "loop.example/smallmachines/laws.FnValidCode", spec := "fnValidCode", named := ["loop.example/smallmachines/impl.wordTexts"], apart := false, laid := [("loop.example/smallmachines/impl.wordTexts", laid_loop_example_smallmachines_impl_wordTexts)], narrowed := true }
def FnValidCodeUptoSaid : Prop := fnValidCodeUptoRow.holds Tryd.pinned (OpenSpec.upto fnValidCodeSpec)

/-- 'laws.FnExactValidCode', WHERE WHAT IT READS IS OF BULK AT MOST 1048576: true; the input reads as it did. -/
def fnExactValidCodeUptoRow : OpenClaim := { program := "ytghpgpklhenleaadoor", sum := "34d871313f1c0c8bd0e7238c5f685e2cec80f0f092c640b7b1ac1ec4d77640e1", func := "loop.example/smallmachines/laws.FnExactValidCode", spec := "fnExactValidCode", named := ["loop.example/smallmachines/impl.wordTexts"], apart := false, laid := [("loop.example/smallmachines/impl.wordTexts", laid_loop_example_smallmachines_impl_wordTexts)], narrowed := true }
def FnExactValidCodeUptoSaid : Prop := fnExactValidCodeUptoRow.holds Tryd.pinned (OpenSpec.upto fnExactValidCodeSpec)

/-- 'laws.FnUsesOf', WHERE WHAT IT READS IS OF BULK AT MOST 1048576: true; the input reads as it did. -/
def fnUsesOfUptoRow : OpenClaim := { program := "ytghpgpklhenleaadoor", sum := "34d871313f1c0c8bd0e7238c5f685e2cec80f0f092c640b7b1ac1ec4d77640e1", func := "loop.example/smallmachines/laws.FnUsesOf", spec := "fnUsesOf", named := ["loop.example/smallmachines/impl.wordTexts"], apart := false, laid := [("loop.example/smallmachines/impl.wordTexts", laid_loop_example_smallmachines_impl_wordTexts)], narrowed := true }
def FnUsesOfUptoSaid : Prop := fnUsesOfUptoRow.holds Tryd.pinned (OpenSpec.upto fnUsesOfSpec)

/-- 'laws.FnExactStepMachine', WHERE WHAT IT READS IS OF BULK AT MOST 1048576: true; the input reads as it did. -/
def fnExactStepMachineUptoRow : OpenClaim := { program := "ytghpgpklhenleaadoor", sum := "34d871313f1c0c8bd0e7238c5f685e2cec80f0f092c640b7b1ac1ec4d77640e1", func := "loop.example/smallmachines/laws.FnExactStepMachine", spec := "fnExactStepMachine", named := ["loop.example/smallmachines/impl.wordTexts"], apart := false, laid := [("loop.example/smallmachines/impl.wordTexts", laid_loop_example_smallmachines_impl_wordTexts)], narrowed := true }
def FnExactStepMachineUptoSaid : Prop := fnExactStepMachineUptoRow.holds Tryd.pinned (OpenSpec.upto fnExactStepMachineSpec)

/-- 'laws.FnExactTraceOf', WHERE WHAT IT READS IS OF BULK AT MOST 1048576: true; the input reads as it did. -/
def fnExactTraceOfUptoRow : OpenClaim := { program := "ytghpgpklhenleaadoor", sum := "34d871313f1c0c8bd0e7238c5f685e2cec80f0f092c640b7b1ac1ec4d77640e1", func := "loop.example/smallmachines/laws.FnExactTraceOf", spec := "fnExactTraceOf", unfollowed := true, recurses := true, named := ["loop.example/smallmachines/impl.wordTexts"], apart := false, laid := [("loop.example/smallmachines/impl.wordTexts", laid_loop_example_smallmachines_impl_wordTexts)], narrowed := true }
def FnExactTraceOfUptoSaid : Prop := fnExactTraceOfUptoRow.holds Tryd.pinned (OpenSpec.upto fnExactTraceOfSpec)

end Rows
end Go.Proofs.YtghpgpklhenleaaDoor
