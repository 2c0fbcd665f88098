/-
  NARROWER THAN 'FOR EVERY INPUT', by the rows' own cells (each row's printed sentence says how): FnExactDropDead: laid · FnExactShrinkCode: laid · FnExactSkipCode: laid · FnExactKnownAt: laid · FnExactFoldCode: laid · FnExactBetterCode: laid.
  DERIVED. THE GIVEN ROWS OF THIS SEAT. 6 by the template 'for every input the law returns true; each argument reads behind the call as it read before'; 0 by the template 'total and deterministic' (their statements: YtbjhlilhbeiogaaDoorTotals.lean).
  GIVEN WITH THE SEED: the statements are not yours to turn. If you find one false, say at which input.
  Laid BY PROGRAM, IN A SANDBOX (cutbox-rows.mjs): the forced cells as the released guide's own fill.sh prints them over the translation 6eeb4a75a53be75e… (all of the seat's roots in one cut). By AI agents, Wed Nov 11 2026. No macro, syntax, notation, axiom, sorry.
-/
import Derived.Test.YtbjhlilhbeiogaaDoorChecked
import GoSem.Claim
import GoSem.ClaimJoined
import GoSem.ClaimMapViews
import Derived.JoinedTies
import Derived.KernelRfl
namespace Go.Proofs.YtbjhlilhbeiogaaDoor
/- THE CELL 'sum', in the pinned program and in every row, IS THE sha256 OF THE DUMP (.gsa) THAT YtbjhlilhbeiogaaDoorProg.lean LOADS. Nothing in Lean hashes anything: it is a label: what it is worth is what the hold of that sum in a sandbox is worth. -/
noncomputable def Tryd.pinned : Pinned := { name := "ytbjhlilhbeiogaadoor", sum := "6eeb4a75a53be75e7fb7c7879585fc9dcc585c04fe2dc4f5e6a647498d3c4c7b", checked := Tryd.checked }
namespace Rows
def none {H : Type} : Left H := { results := [], args := [] }

/- WHAT THE LISTED PACKAGE-LEVEL VARIABLES READ AS WHEN THE CALL BEGINS. Each datum BY PROGRAM (the guide's laid-datum.mjs) off the statement by which the dump's own 'gosem.cut.vars' lays the variable. In a bare row this is a premise. The card (YtbjhlilhbeiogaaDoorCards.lean) ties it to the program's text. -/
def laid_loop_example_smallmachines_impl_wordTexts {H : Type} : DataW H := .agg [.lit (.string [115, 101, 116]), .lit (.string [97, 100, 100]), .lit (.string [115, 117, 98]), .lit (.string [109, 117, 108]), .lit (.string [108, 116]), .lit (.string [108, 100]), .lit (.string [115, 116]), .lit (.string [98, 122]), .lit (.string [106, 109, 112]), .lit (.string [104, 108, 116])]

/-- 'laws.FnExactDropDead': WHATEVER THE INPUT: true; the input reads as it did. -/
def fnExactDropDeadSpec : ChangeSpec := { name := "fnExactDropDead", vars := ["loop.example/smallmachines/impl.wordTexts"], fn := fun _ => fun
  | [d, g1] => { results := [.lit (.bool true)], args := [d], vars := [g1] }
  | _ => none }
def fnExactDropDeadRow : OpenClaim := { program := "ytbjhlilhbeiogaadoor", sum := "6eeb4a75a53be75e7fb7c7879585fc9dcc585c04fe2dc4f5e6a647498d3c4c7b", func := "loop.example/smallmachines/laws.FnExactDropDead", spec := "fnExactDropDead", unfollowed := true, recurses := true, named := ["loop.example/smallmachines/impl.wordTexts"], apart := false, laid := [("loop.example/smallmachines/impl.wordTexts", laid_loop_example_smallmachines_impl_wordTexts)] }
def FnExactDropDeadSaid : Prop := fnExactDropDeadRow.holds Tryd.pinned (OpenSpec.ofChange fnExactDropDeadSpec)

/-- ITS FALSE NEIGHBOUR: 'it returns false'. Refute it at one input. -/
def fnExactDropDeadWrong : ChangeSpec := { name := "fnExactDropDead", vars := ["loop.example/smallmachines/impl.wordTexts"], fn := fun _ => fun
  | [d, g1] => { results := [.lit (.bool false)], args := [d], vars := [g1] }
  | _ => none }
def FnExactDropDeadWrongFalsely : Prop := fnExactDropDeadRow.holds Tryd.pinned (OpenSpec.ofChange fnExactDropDeadWrong)

/-- 'laws.FnExactShrinkCode': WHATEVER THE INPUT: true; the input reads as it did. -/
def fnExactShrinkCodeSpec : ChangeSpec := { name := "fnExactShrinkCode", vars := ["loop.example/smallmachines/impl.wordTexts"], fn := fun _ => fun
  | [d, g1] => { results := [.lit (.bool true)], args := [d], vars := [g1] }
  | _ => none }
def fnExactShrinkCodeRow : OpenClaim := { program := "ytbjhlilhbeiogaadoor", sum := "6eeb4a75a53be75e7fb7c7879585fc9dcc585c04fe2dc4f5e6a647498d3c4c7b", func := "loop.example/smallmachines/laws.FnExactShrinkCode", spec := "fnExactShrinkCode", unfollowed := true, recurses := true, named := ["loop.example/smallmachines/impl.wordTexts"], apart := false, laid := [("loop.example/smallmachines/impl.wordTexts", laid_loop_example_smallmachines_impl_wordTexts)] }
def FnExactShrinkCodeSaid : Prop := fnExactShrinkCodeRow.holds Tryd.pinned (OpenSpec.ofChange fnExactShrinkCodeSpec)

/-- ITS FALSE NEIGHBOUR: 'it returns false'. Refute it at one input. -/
def fnExactShrinkCodeWrong : ChangeSpec := { name := "fnExactShrinkCode", vars := ["loop.example/smallmachines/impl.wordTexts"], fn := fun _ => fun
  | [d, g1] => { results := [.lit (.bool false)], args := [d], vars := [g1] }
  | _ => none }
def FnExactShrinkCodeWrongFalsely : Prop := fnExactShrinkCodeRow.holds Tryd.pinned (OpenSpec.ofChange fnExactShrinkCodeWrong)

/-- 'laws.FnExactSkipCode': WHATEVER THE INPUT: true; the input reads as it did. -/
def fnExactSkipCodeSpec : ChangeSpec := { name := "fnExactSkipCode", vars := ["loop.example/smallmachines/impl.wordTexts"], fn := fun _ => fun
  | [d, g1] => { results := [.lit (.bool true)], args := [d], vars := [g1] }
  | _ => none }
def fnExactSkipCodeRow : OpenClaim := { program := "ytbjhlilhbeiogaadoor", sum := "6eeb4a75a53be75e7fb7c7879585fc9dcc585c04fe2dc4f5e6a647498d3c4c7b", func := "loop.example/smallmachines/laws.FnExactSkipCode", spec := "fnExactSkipCode", unfollowed := true, recurses := true, named := ["loop.example/smallmachines/impl.wordTexts"], apart := false, laid := [("loop.example/smallmachines/impl.wordTexts", laid_loop_example_smallmachines_impl_wordTexts)] }
def FnExactSkipCodeSaid : Prop := fnExactSkipCodeRow.holds Tryd.pinned (OpenSpec.ofChange fnExactSkipCodeSpec)

/-- ITS FALSE NEIGHBOUR: 'it returns false'. Refute it at one input. -/
def fnExactSkipCodeWrong : ChangeSpec := { name := "fnExactSkipCode", vars := ["loop.example/smallmachines/impl.wordTexts"], fn := fun _ => fun
  | [d, g1] => { results := [.lit (.bool false)], args := [d], vars := [g1] }
  | _ => none }
def FnExactSkipCodeWrongFalsely : Prop := fnExactSkipCodeRow.holds Tryd.pinned (OpenSpec.ofChange fnExactSkipCodeWrong)

/-- 'laws.FnExactKnownAt': WHATEVER THE INPUT: true; the input reads as it did. -/
def fnExactKnownAtSpec : ChangeSpec := { name := "fnExactKnownAt", vars := ["loop.example/smallmachines/impl.wordTexts"], fn := fun _ => fun
  | [d, g1] => { results := [.lit (.bool true)], args := [d], vars := [g1] }
  | _ => none }
def fnExactKnownAtRow : OpenClaim := { program := "ytbjhlilhbeiogaadoor", sum := "6eeb4a75a53be75e7fb7c7879585fc9dcc585c04fe2dc4f5e6a647498d3c4c7b", func := "loop.example/smallmachines/laws.FnExactKnownAt", spec := "fnExactKnownAt", inPlace := ["maps.clone"], named := ["loop.example/smallmachines/impl.wordTexts"], apart := false, laid := [("loop.example/smallmachines/impl.wordTexts", laid_loop_example_smallmachines_impl_wordTexts)] }
def FnExactKnownAtSaid : Prop := fnExactKnownAtRow.holds Tryd.pinned (OpenSpec.ofChange fnExactKnownAtSpec)

/-- ITS FALSE NEIGHBOUR: 'it returns false'. Refute it at one input. -/
def fnExactKnownAtWrong : ChangeSpec := { name := "fnExactKnownAt", vars := ["loop.example/smallmachines/impl.wordTexts"], fn := fun _ => fun
  | [d, g1] => { results := [.lit (.bool false)], args := [d], vars := [g1] }
  | _ => none }
def FnExactKnownAtWrongFalsely : Prop := fnExactKnownAtRow.holds Tryd.pinned (OpenSpec.ofChange fnExactKnownAtWrong)

/-- 'laws.FnExactFoldCode': WHATEVER THE INPUT: true; the input reads as it did. -/
def fnExactFoldCodeSpec : ChangeSpec := { name := "fnExactFoldCode", vars := ["loop.example/smallmachines/impl.wordTexts"], fn := fun _ => fun
  | [d, g1] => { results := [.lit (.bool true)], args := [d], vars := [g1] }
  | _ => none }
def fnExactFoldCodeRow : OpenClaim := { program := "ytbjhlilhbeiogaadoor", sum := "6eeb4a75a53be75e7fb7c7879585fc9dcc585c04fe2dc4f5e6a647498d3c4c7b", func := "loop.example/smallmachines/laws.FnExactFoldCode", spec := "fnExactFoldCode", inPlace := ["maps.clone"], named := ["loop.example/smallmachines/impl.wordTexts"], apart := false, laid := [("loop.example/smallmachines/impl.wordTexts", laid_loop_example_smallmachines_impl_wordTexts)] }
def FnExactFoldCodeSaid : Prop := fnExactFoldCodeRow.holds Tryd.pinned (OpenSpec.ofChange fnExactFoldCodeSpec)

/-- ITS FALSE NEIGHBOUR: 'it returns false'. Refute it at one input. -/
def fnExactFoldCodeWrong : ChangeSpec := { name := "fnExactFoldCode", vars := ["loop.example/smallmachines/impl.wordTexts"], fn := fun _ => fun
  | [d, g1] => { results := [.lit (.bool false)], args := [d], vars := [g1] }
  | _ => none }
def FnExactFoldCodeWrongFalsely : Prop := fnExactFoldCodeRow.holds Tryd.pinned (OpenSpec.ofChange fnExactFoldCodeWrong)

/-- 'laws.FnExactBetterCode': WHATEVER THE INPUT: true; the input reads as it did. -/
def fnExactBetterCodeSpec : ChangeSpec := { name := "fnExactBetterCode", vars := ["loop.example/smallmachines/impl.wordTexts"], fn := fun _ => fun
  | [d, g1] => { results := [.lit (.bool true)], args := [d], vars := [g1] }
  | _ => none }
def fnExactBetterCodeRow : OpenClaim := { program := "ytbjhlilhbeiogaadoor", sum := "6eeb4a75a53be75e7fb7c7879585fc9dcc585c04fe2dc4f5e6a647498d3c4c7b", func := "loop.example/smallmachines/laws.FnExactBetterCode", spec := "fnExactBetterCode", inPlace := ["maps.clone"], unfollowed := true, recurses := true, named := ["loop.example/smallmachines/impl.wordTexts"], apart := false, laid := [("loop.example/smallmachines/impl.wordTexts", laid_loop_example_smallmachines_impl_wordTexts)] }
def FnExactBetterCodeSaid : Prop := fnExactBetterCodeRow.holds Tryd.pinned (OpenSpec.ofChange fnExactBetterCodeSpec)

/-- ITS FALSE NEIGHBOUR: 'it returns false'. Refute it at one input. -/
def fnExactBetterCodeWrong : ChangeSpec := { name := "fnExactBetterCode", vars := ["loop.example/smallmachines/impl.wordTexts"], fn := fun _ => fun
  | [d, g1] => { results := [.lit (.bool false)], args := [d], vars := [g1] }
  | _ => none }
def FnExactBetterCodeWrongFalsely : Prop := fnExactBetterCodeRow.holds Tryd.pinned (OpenSpec.ofChange fnExactBetterCodeWrong)

/- THE SECOND FORM. 'bulk': how many values and letters a reading holds, each counted each time it is reached (what is shared counts as often as it is met; a slice's spare places count too). A statement '..UptoSaid' is the law's where the arguments, and the package variables that the reading takes, are together of bulk at most 1048576: NARROWER than '..Said'. Prove '..Said' where nothing that the law and all that it calls make is longer than what came in: it says more and counts as full. Else prove '..UptoSaid'. A law counts once. -/
mutual
def uptoBulk {H : Type} : DataW H → Nat
  | .lit (.string bytes) => bytes.length + 1
  | .lit _ => 1
  | .nil => 1
  | .ptr d => uptoBulk d + 1
  | .slice elems spare => uptoBulkAll elems + uptoBulkAll spare + 1
  | .agg parts => uptoBulkAll parts + 1
  | .iface _ d => uptoBulk d + 1
  | .map entries => uptoBulkEntries entries + 1
  | .held _ => 1
def uptoBulkAll {H : Type} : List (DataW H) → Nat
  | [] => 0
  | d :: r => uptoBulk d + uptoBulkAll r
def uptoBulkEntries {H : Type} : List (Lit × DataW H) → Nat
  | [] => 0
  | x :: r => uptoBulkEntry x + uptoBulkEntries r
def uptoBulkEntry {H : Type} : Lit × DataW H → Nat
  | (.string bytes, d) => bytes.length + uptoBulk d + 1
  | (_, d) => uptoBulk d + 1
 end
def uptoSmall : (H : Type) → List (DataW H) → Bool := fun _ ds => decide (uptoBulkAll ds ≤ 1048576)
def OpenSpec.upto (s : _root_.Go.ChangeSpec) : _root_.Go.OpenSpec := { _root_.Go.OpenSpec.ofChange s with cond := some uptoSmall }

/-- 'laws.FnExactDropDead', WHERE WHAT IT READS IS OF BULK AT MOST 1048576: true; the input reads as it did. -/
def fnExactDropDeadUptoRow : OpenClaim := { program := "ytbjhlilhbeiogaadoor", sum := "6eeb4a75a53be75e7fb7c7879585fc9dcc585c04fe2dc4f5e6a647498d3c4c7b", func := "loop.example/smallmachines/laws.FnExactDropDead", spec := "fnExactDropDead", unfollowed := true, recurses := true, named := ["loop.example/smallmachines/impl.wordTexts"], apart := false, laid := [("loop.example/smallmachines/impl.wordTexts", laid_loop_example_smallmachines_impl_wordTexts)], narrowed := true }
def FnExactDropDeadUptoSaid : Prop := fnExactDropDeadUptoRow.holds Tryd.pinned (OpenSpec.upto fnExactDropDeadSpec)

/-- 'laws.FnExactShrinkCode', WHERE WHAT IT READS IS OF BULK AT MOST 1048576: true; the input reads as it did. -/
def fnExactShrinkCodeUptoRow : OpenClaim := { program := "ytbjhlilhbeiogaadoor", sum := "6eeb4a75a53be75e7fb7c7879585fc9dcc585c04fe2dc4f5e6a647498d3c4c7b", func := "loop.example/smallmachines/laws.FnExactShrinkCode", spec := "fnExactShrinkCode", unfollowed := true, recurses := true, named := ["loop.example/smallmachines/impl.wordTexts"], apart := false, laid := [("loop.example/smallmachines/impl.wordTexts", laid_loop_example_smallmachines_impl_wordTexts)], narrowed := true }
def FnExactShrinkCodeUptoSaid : Prop := fnExactShrinkCodeUptoRow.holds Tryd.pinned (OpenSpec.upto fnExactShrinkCodeSpec)

/-- 'laws.FnExactSkipCode', WHERE WHAT IT READS IS OF BULK AT MOST 1048576: true; the input reads as it did. -/
def fnExactSkipCodeUptoRow : OpenClaim := { program := "ytbjhlilhbeiogaadoor", sum := "6eeb4a75a53be75e7fb7c7879585fc9dcc585c04fe2dc4f5e6a647498d3c4c7b", func := "loop.example/smallmachines/laws.FnExactSkipCode", spec := "fnExactSkipCode", unfollowed := true, recurses := true, named := ["loop.example/smallmachines/impl.wordTexts"], apart := false, laid := [("loop.example/smallmachines/impl.wordTexts", laid_loop_example_smallmachines_impl_wordTexts)], narrowed := true }
def FnExactSkipCodeUptoSaid : Prop := fnExactSkipCodeUptoRow.holds Tryd.pinned (OpenSpec.upto fnExactSkipCodeSpec)

/-- 'laws.FnExactKnownAt', WHERE WHAT IT READS IS OF BULK AT MOST 1048576: true; the input reads as it did. -/
def fnExactKnownAtUptoRow : OpenClaim := { program := "ytbjhlilhbeiogaadoor", sum := "6eeb4a75a53be75e7fb7c7879585fc9dcc585c04fe2dc4f5e6a647498d3c4c7b", func := "loop.example/smallmachines/laws.FnExactKnownAt", spec := "fnExactKnownAt", inPlace := ["maps.clone"], named := ["loop.example/smallmachines/impl.wordTexts"], apart := false, laid := [("loop.example/smallmachines/impl.wordTexts", laid_loop_example_smallmachines_impl_wordTexts)], narrowed := true }
def FnExactKnownAtUptoSaid : Prop := fnExactKnownAtUptoRow.holds Tryd.pinned (OpenSpec.upto fnExactKnownAtSpec)

/-- 'laws.FnExactFoldCode', WHERE WHAT IT READS IS OF BULK AT MOST 1048576: true; the input reads as it did. -/
def fnExactFoldCodeUptoRow : OpenClaim := { program := "ytbjhlilhbeiogaadoor", sum := "6eeb4a75a53be75e7fb7c7879585fc9dcc585c04fe2dc4f5e6a647498d3c4c7b", func := "loop.example/smallmachines/laws.FnExactFoldCode", spec := "fnExactFoldCode", inPlace := ["maps.clone"], named := ["loop.example/smallmachines/impl.wordTexts"], apart := false, laid := [("loop.example/smallmachines/impl.wordTexts", laid_loop_example_smallmachines_impl_wordTexts)], narrowed := true }
def FnExactFoldCodeUptoSaid : Prop := fnExactFoldCodeUptoRow.holds Tryd.pinned (OpenSpec.upto fnExactFoldCodeSpec)

/-- 'laws.FnExactBetterCode', WHERE WHAT IT READS IS OF BULK AT MOST 1048576: true; the input reads as it did. -/
def fnExactBetterCodeUptoRow : OpenClaim := { program := "ytbjhlilhbeiogaadoor", sum := "6eeb4a75a53be75e7fb7c7879585fc9dcc585c04fe2dc4f5e6a647498d3c4c7b", func := "loop.example/smallmachines/laws.FnExactBetterCode", spec := "fnExactBetterCode", inPlace := ["maps.clone"], unfollowed := true, recurses := true, named := ["loop.example/smallmachines/impl.wordTexts"], apart := false, laid := [("loop.example/smallmachines/impl.wordTexts", laid_loop_example_smallmachines_impl_wordTexts)], narrowed := true }
def FnExactBetterCodeUptoSaid : Prop := fnExactBetterCodeUptoRow.holds Tryd.pinned (OpenSpec.upto fnExactBetterCodeSpec)

end Rows
end Go.Proofs.YtbjhlilhbeiogaaDoor
