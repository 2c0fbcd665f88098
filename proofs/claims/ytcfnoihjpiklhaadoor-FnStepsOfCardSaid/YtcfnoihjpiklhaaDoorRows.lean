/-
  NARROWER THAN 'FOR EVERY INPUT', by the rows' own cells (each row's printed sentence says how): FnStepsOf: laid · FnExactStepsOf: laid.
  DERIVED. THE GIVEN ROWS OF THIS SEAT. 2 by the template 'for every input the law returns true; each argument reads behind the call as it read before'; 0 by the template 'total and deterministic' (their statements: YtcfnoihjpiklhaaDoorTotals.lean).
  GIVEN WITH THE SEED: the statements are not yours to turn. If you find one false, say at which input.
  Laid BY PROGRAM, IN A SANDBOX (cutbox-rows.mjs): the forced cells as the released guide's own fill.sh prints them over the translation 9577b32549ebf56f… (all of the seat's roots in one cut). By AI agents, Wed Nov 11 2026. No macro, syntax, notation, axiom, sorry.
-/
import Derived.Test.YtcfnoihjpiklhaaDoorChecked
import GoSem.Claim
import GoSem.ClaimJoined
import GoSem.ClaimMapViews
import Derived.JoinedTies
import Derived.KernelRfl
namespace Go.Proofs.YtcfnoihjpiklhaaDoor
/- THE CELL 'sum', in the pinned program and in every row, IS THE sha256 OF THE DUMP (.gsa) THAT YtcfnoihjpiklhaaDoorProg.lean LOADS. Nothing in Lean hashes anything: it is a label: what it is worth is what the hold of that sum in a sandbox is worth. -/
noncomputable def Tryd.pinned : Pinned := { name := "ytcfnoihjpiklhaadoor", sum := "9577b32549ebf56f882d484f9e334c592271a498780816694385fbb1a1654d0d", checked := Tryd.checked }
namespace Rows
def none {H : Type} : Left H := { results := [], args := [] }

/- WHAT THE LISTED PACKAGE-LEVEL VARIABLES READ AS WHEN THE CALL BEGINS. Each datum BY PROGRAM (the guide's laid-datum.mjs) off the statement by which the dump's own 'gosem.cut.vars' lays the variable. In a bare row this is a premise. The card (YtcfnoihjpiklhaaDoorCards.lean) ties it to the program's text. -/
def laid_loop_example_smallmachines_impl_wordTexts {H : Type} : DataW H := .agg [.lit (.string [115, 101, 116]), .lit (.string [97, 100, 100]), .lit (.string [115, 117, 98]), .lit (.string [109, 117, 108]), .lit (.string [108, 116]), .lit (.string [108, 100]), .lit (.string [115, 116]), .lit (.string [98, 122]), .lit (.string [106, 109, 112]), .lit (.string [104, 108, 116])]

/-- 'laws.FnStepsOf': WHATEVER THE INPUT: true; the input reads as it did. -/
def fnStepsOfSpec : ChangeSpec := { name := "fnStepsOf", vars := ["loop.example/smallmachines/impl.wordTexts"], fn := fun _ => fun
  | [d, g1] => { results := [.lit (.bool true)], args := [d], vars := [g1] }
  | _ => none }
def fnStepsOfRow : OpenClaim := { program := "ytcfnoihjpiklhaadoor", sum := "9577b32549ebf56f882d484f9e334c592271a498780816694385fbb1a1654d0d", func := "loop.example/smallmachines/laws.FnStepsOf", spec := "fnStepsOf", unfollowed := true, recurses := true, named := ["loop.example/smallmachines/impl.wordTexts"], apart := false, laid := [("loop.example/smallmachines/impl.wordTexts", laid_loop_example_smallmachines_impl_wordTexts)] }
def FnStepsOfSaid : Prop := fnStepsOfRow.holds Tryd.pinned (OpenSpec.ofChange fnStepsOfSpec)

/-- ITS FALSE NEIGHBOUR: 'it returns false'. Refute it at one input. -/
def fnStepsOfWrong : ChangeSpec := { name := "fnStepsOf", vars := ["loop.example/smallmachines/impl.wordTexts"], fn := fun _ => fun
  | [d, g1] => { results := [.lit (.bool false)], args := [d], vars := [g1] }
  | _ => none }
def FnStepsOfWrongFalsely : Prop := fnStepsOfRow.holds Tryd.pinned (OpenSpec.ofChange fnStepsOfWrong)

/-- 'laws.FnExactStepsOf': WHATEVER THE INPUT: true; the input reads as it did. -/
def fnExactStepsOfSpec : ChangeSpec := { name := "fnExactStepsOf", vars := ["loop.example/smallmachines/impl.wordTexts"], fn := fun _ => fun
  | [d1, d2, d3, g1] => { results := [.lit (.bool true)], args := [d1, d2, d3], vars := [g1] }
  | _ => none }
def fnExactStepsOfRow : OpenClaim := { program := "ytcfnoihjpiklhaadoor", sum := "9577b32549ebf56f882d484f9e334c592271a498780816694385fbb1a1654d0d", func := "loop.example/smallmachines/laws.FnExactStepsOf", spec := "fnExactStepsOf", unfollowed := true, recurses := true, named := ["loop.example/smallmachines/impl.wordTexts"], apart := false, laid := [("loop.example/smallmachines/impl.wordTexts", laid_loop_example_smallmachines_impl_wordTexts)] }
def FnExactStepsOfSaid : Prop := fnExactStepsOfRow.holds Tryd.pinned (OpenSpec.ofChange fnExactStepsOfSpec)

/-- ITS FALSE NEIGHBOUR: 'it returns false'. Refute it at one input. -/
def fnExactStepsOfWrong : ChangeSpec := { name := "fnExactStepsOf", vars := ["loop.example/smallmachines/impl.wordTexts"], fn := fun _ => fun
  | [d1, d2, d3, g1] => { results := [.lit (.bool false)], args := [d1, d2, d3], vars := [g1] }
  | _ => none }
def FnExactStepsOfWrongFalsely : Prop := fnExactStepsOfRow.holds Tryd.pinned (OpenSpec.ofChange fnExactStepsOfWrong)

/- THE SECOND FORM. 'bulk': how many values and letters a reading holds, each counted each time it is reached (what is shared counts as often as it is met; a slice's spare places count too). A statement '..UptoSaid' is the law's where the arguments, and the package variables that the reading takes, are together of bulk at most 1048576: NARROWER than '..Said'. Prove '..Said' where nothing that the law and all that it calls make is longer than what came in: it says more and counts as full. Else prove '..UptoSaid'. A law counts once. -/
mutual
def uptoBulk {H : Type} : DataW H → Nat
  | .lit (.string bytes) => bytes.length + 1
  | .lit _ => 1
  | .nil => 1
  | .ptr d => uptoBulk d + 1
  | .slice elems spare => uptoBulkAll elems + uptoBulkAll spare + 1
  | .agg parts => uptoBulkAll parts + 1
  | .iface _ d => uptoBulk d + 1
  | .map entries => uptoBulkEntries entries + 1
  | .held _ => 1
def uptoBulkAll {H : Type} : List (DataW H) → Nat
  | [] => 0
  | d :: r => uptoBulk d + uptoBulkAll r
def uptoBulkEntries {H : Type} : List (Lit × DataW H) → Nat
  | [] => 0
  | x :: r => uptoBulkEntry x + uptoBulkEntries r
def uptoBulkEntry {H : Type} : Lit × DataW H → Nat
  | (.string bytes, d) => bytes.length + uptoBulk d + 1
  | (_, d) => uptoBulk d + 1
 end
def uptoSmall : (H : Type) → List (DataW H) → Bool := fun _ ds => decide (uptoBulkAll ds ≤ 1048576)
def OpenSpec.upto (s : _root_.Go.ChangeSpec) : _root_.Go.OpenSpec := { _root_.Go.OpenSpec.ofChange s with cond := some uptoSmall }

/-- 'laws.FnStepsOf', WHERE WHAT IT READS IS OF BULK AT MOST 1048576: true; the input reads as it did. -/
def fnStepsOfUptoRow : OpenClaim := { program := "ytcfnoihjpiklhaadoor", sum := "9577b32549ebf56f882d484f9e334c592271a498780816694385fbb1a1654d0d", func := "loop.example/smallmachines/laws.FnStepsOf", spec := "fnStepsOf", unfollowed := true, recurses := true, named := ["loop.example/smallmachines/impl.wordTexts"], apart := false, laid := [("loop.example/smallmachines/impl.wordTexts", laid_loop_example_smallmachines_impl_wordTexts)], narrowed := true }
def FnStepsOfUptoSaid : Prop := fnStepsOfUptoRow.holds Tryd.pinned (OpenSpec.upto fnStepsOfSpec)

/-- 'laws.FnExactStepsOf', WHERE WHAT IT READS IS OF BULK AT MOST 1048576: true; the input reads as it did. -/
def fnExactStepsOfUptoRow : OpenClaim := { program := "ytcfnoihjpiklhaadoor", sum := "9577b32549ebf56f882d484f9e334c592271a498780816694385fbb1a1654d0d", func := "loop.example/smallmachines/laws.FnExactStepsOf", spec := "fnExactStepsOf", unfollowed := true, recurses := true, named := ["loop.example/smallmachines/impl.wordTexts"], apart := false, laid := [("loop.example/smallmachines/impl.wordTexts", laid_loop_example_smallmachines_impl_wordTexts)], narrowed := true }
def FnExactStepsOfUptoSaid : Prop := fnExactStepsOfUptoRow.holds Tryd.pinned (OpenSpec.upto fnExactStepsOfSpec)

end Rows
end Go.Proofs.YtcfnoihjpiklhaaDoor
