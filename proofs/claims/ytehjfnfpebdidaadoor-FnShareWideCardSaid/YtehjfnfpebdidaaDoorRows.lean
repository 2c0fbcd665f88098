/-
  NARROWER THAN 'FOR EVERY INPUT', by the rows' own cells (each row's printed sentence says how): FnShareWide: laid · FnExactShareWide: laid.
  DERIVED. THE GIVEN ROWS OF THIS SEAT. 2 by the template 'for every input the law returns true; each argument reads behind the call as it read before'; 0 by the template 'total and deterministic' (their statements: YtehjfnfpebdidaaDoorTotals.lean).
  GIVEN WITH THE SEED: the statements are not yours to turn. If you find one false, say at which input.
  Laid BY PROGRAM, IN A SANDBOX (cutbox-rows.mjs): the forced cells as the released guide's own fill.sh prints them over the translation dc724c76e4db8143… (all of the seat's roots in one cut). By AI agents, Wed Nov 11 2026. No macro, syntax, notation, axiom, sorry.
-/
import Derived.Test.YtehjfnfpebdidaaDoorChecked
import GoSem.Claim
import GoSem.ClaimJoined
import GoSem.ClaimMapViews
import Derived.JoinedTies
import Derived.KernelRfl
namespace Go.Proofs.YtehjfnfpebdidaaDoor
/- THE CELL 'sum', in the pinned program and in every row, IS THE sha256 OF THE DUMP (.gsa) THAT YtehjfnfpebdidaaDoorProg.lean LOADS. Nothing in Lean hashes anything: it is a label: what it is worth is what the hold of that sum in a sandbox is worth. -/
noncomputable def Tryd.pinned : Pinned := { name := "ytehjfnfpebdidaadoor", sum := "dc724c76e4db81430af8d3e8fe128262f43388bd031bc5871d06a5bf6b350e6e", checked := Tryd.checked }
namespace Rows
def none {H : Type} : Left H := { results := [], args := [] }

/- WHAT THE LISTED PACKAGE-LEVEL VARIABLES READ AS WHEN THE CALL BEGINS. Each datum BY PROGRAM (the guide's laid-datum.mjs) off the statement by which the dump's own 'gosem.cut.vars' lays the variable. In a bare row this is a premise. The card (YtehjfnfpebdidaaDoorCards.lean) ties it to the program's text. -/
def laid_loop_example_smallmachines_impl_wordTexts {H : Type} : DataW H := .agg [.lit (.string [115, 101, 116]), .lit (.string [97, 100, 100]), .lit (.string [115, 117, 98]), .lit (.string [109, 117, 108]), .lit (.string [108, 116]), .lit (.string [108, 100]), .lit (.string [115, 116]), .lit (.string [98, 122]), .lit (.string [106, 109, 112]), .lit (.string [104, 108, 116])]

/-- 'laws.FnShareWide': WHATEVER THE INPUT: true; the input reads as it did. -/
def fnShareWideSpec : ChangeSpec := { name := "fnShareWide", vars := ["loop.example/smallmachines/impl.wordTexts"], fn := fun _ => fun
  | [d, g1] => { results := [.lit (.bool true)], args := [d], vars := [g1] }
  | _ => none }
def fnShareWideRow : OpenClaim := { program := "ytehjfnfpebdidaadoor", sum := "dc724c76e4db81430af8d3e8fe128262f43388bd031bc5871d06a5bf6b350e6e", func := "loop.example/smallmachines/laws.FnShareWide", spec := "fnShareWide", named := ["loop.example/smallmachines/impl.wordTexts"], apart := false, laid := [("loop.example/smallmachines/impl.wordTexts", laid_loop_example_smallmachines_impl_wordTexts)] }
def FnShareWideSaid : Prop := fnShareWideRow.holds Tryd.pinned (OpenSpec.ofChange fnShareWideSpec)

/-- ITS FALSE NEIGHBOUR: 'it returns false'. Refute it at one input. -/
def fnShareWideWrong : ChangeSpec := { name := "fnShareWide", vars := ["loop.example/smallmachines/impl.wordTexts"], fn := fun _ => fun
  | [d, g1] => { results := [.lit (.bool false)], args := [d], vars := [g1] }
  | _ => none }
def FnShareWideWrongFalsely : Prop := fnShareWideRow.holds Tryd.pinned (OpenSpec.ofChange fnShareWideWrong)

/-- 'laws.FnExactShareWide': WHATEVER THE INPUT: true; the input reads as it did. -/
def fnExactShareWideSpec : ChangeSpec := { name := "fnExactShareWide", vars := ["loop.example/smallmachines/impl.wordTexts"], fn := fun _ => fun
  | [d, g1] => { results := [.lit (.bool true)], args := [d], vars := [g1] }
  | _ => none }
def fnExactShareWideRow : OpenClaim := { program := "ytehjfnfpebdidaadoor", sum := "dc724c76e4db81430af8d3e8fe128262f43388bd031bc5871d06a5bf6b350e6e", func := "loop.example/smallmachines/laws.FnExactShareWide", spec := "fnExactShareWide", named := ["loop.example/smallmachines/impl.wordTexts"], apart := false, laid := [("loop.example/smallmachines/impl.wordTexts", laid_loop_example_smallmachines_impl_wordTexts)] }
def FnExactShareWideSaid : Prop := fnExactShareWideRow.holds Tryd.pinned (OpenSpec.ofChange fnExactShareWideSpec)

/-- ITS FALSE NEIGHBOUR: 'it returns false'. Refute it at one input. -/
def fnExactShareWideWrong : ChangeSpec := { name := "fnExactShareWide", vars := ["loop.example/smallmachines/impl.wordTexts"], fn := fun _ => fun
  | [d, g1] => { results := [.lit (.bool false)], args := [d], vars := [g1] }
  | _ => none }
def FnExactShareWideWrongFalsely : Prop := fnExactShareWideRow.holds Tryd.pinned (OpenSpec.ofChange fnExactShareWideWrong)

/- THE SECOND FORM. 'bulk': how many values and letters a reading holds, each counted each time it is reached (what is shared counts as often as it is met; a slice's spare places count too). A statement '..UptoSaid' is the law's where the arguments, and the package variables that the reading takes, are together of bulk at most 1048576: NARROWER than '..Said'. Prove '..Said' where nothing that the law and all that it calls make is longer than what came in: it says more and counts as full. Else prove '..UptoSaid'. A law counts once. -/
mutual
def uptoBulk {H : Type} : DataW H → Nat
  | .lit (.string bytes) => bytes.length + 1
  | .lit _ => 1
  | .nil => 1
  | .ptr d => uptoBulk d + 1
  | .slice elems spare => uptoBulkAll elems + uptoBulkAll spare + 1
  | .agg parts => uptoBulkAll parts + 1
  | .iface _ d => uptoBulk d + 1
  | .map entries => uptoBulkEntries entries + 1
  | .held _ => 1
def uptoBulkAll {H : Type} : List (DataW H) → Nat
  | [] => 0
  | d :: r => uptoBulk d + uptoBulkAll r
def uptoBulkEntries {H : Type} : List (Lit × DataW H) → Nat
  | [] => 0
  | x :: r => uptoBulkEntry x + uptoBulkEntries r
def uptoBulkEntry {H : Type} : Lit × DataW H → Nat
  | (.string bytes, d) => bytes.length + uptoBulk d + 1
  | (_, d) => uptoBulk d + 1
 end
def uptoSmall : (H : Type) → List (DataW H) → Bool := fun _ ds => decide (uptoBulkAll ds ≤ 1048576)
def OpenSpec.upto (s : _root_.Go.ChangeSpec) : _root_.Go.OpenSpec := { _root_.Go.OpenSpec.ofChange s with cond := some uptoSmall }

/-- 'laws.FnShareWide', WHERE WHAT IT READS IS OF BULK AT MOST 1048576: true; the input reads as it did. -/
def fnShareWideUptoRow : OpenClaim := { program := "ytehjfnfpebdidaadoor", sum := "dc724c76e4db81430af8d3e8fe128262f43388bd031bc5871d06a5bf6b350e6e", func := "loop.example/smallmachines/laws.FnShareWide", spec := "fnShareWide", named := ["loop.example/smallmachines/impl.wordTexts"], apart := false, laid := [("loop.example/smallmachines/impl.wordTexts", laid_loop_example_smallmachines_impl_wordTexts)], narrowed := true }
def FnShareWideUptoSaid : Prop := fnShareWideUptoRow.holds Tryd.pinned (OpenSpec.upto fnShareWideSpec)

/-- 'laws.FnExactShareWide', WHERE WHAT IT READS IS OF BULK AT MOST 1048576: true; the input reads as it did. -/
def fnExactShareWideUptoRow : OpenClaim := { program := "ytehjfnfpebdidaadoor", sum := "dc724c76e4db81430af8d3e8fe128262f43388bd031bc5871d06a5bf6b350e6e", func := "loop.example/smallmachines/laws.FnExactShareWide", spec := "fnExactShareWide", named := ["loop.example/smallmachines/impl.wordTexts"], apart := false, laid := [("loop.example/smallmachines/impl.wordTexts", laid_loop_example_smallmachines_impl_wordTexts)], narrowed := true }
def FnExactShareWideUptoSaid : Prop := fnExactShareWideUptoRow.holds Tryd.pinned (OpenSpec.upto fnExactShareWideSpec)

end Rows
end Go.Proofs.YtehjfnfpebdidaaDoor
