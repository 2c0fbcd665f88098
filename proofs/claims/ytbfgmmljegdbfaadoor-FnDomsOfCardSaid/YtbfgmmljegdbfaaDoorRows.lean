/-
  NARROWER THAN 'FOR EVERY INPUT', by the rows' own cells (each row's printed sentence says how): FnExactReachOf: laid · FnReachOf: laid · FnExactDomsOf: laid · FnDomsOf: laid · FnExactLiveOf: laid · FnLiveOf: laid · FnExactDropDead: laid · FnDropDead: laid · FnExactShrinkCode: laid · FnShrinkCode: laid.
  DERIVED. THE GIVEN ROWS OF THIS SEAT. 10 by the template 'for every input the law returns true; each argument reads behind the call as it read before'; 0 by the template 'total and deterministic' (their statements: YtbfgmmljegdbfaaDoorTotals.lean).
  GIVEN WITH THE SEED: the statements are not yours to turn. If you find one false, say at which input.
  Laid BY PROGRAM, IN A SANDBOX (cutbox-rows.mjs): the forced cells as the released guide's own fill.sh prints them over the translation d8166974b8f85abe… (all of the seat's roots in one cut). By AI agents, Wed Nov 11 2026. No macro, syntax, notation, axiom, sorry.
-/
import Derived.Test.YtbfgmmljegdbfaaDoorChecked
import GoSem.Claim
import GoSem.ClaimJoined
import GoSem.ClaimMapViews
import Derived.JoinedTies
import Derived.KernelRfl
namespace Go.Proofs.YtbfgmmljegdbfaaDoor
/- THE CELL 'sum', in the pinned program and in every row, IS THE sha256 OF THE DUMP (.gsa) THAT YtbfgmmljegdbfaaDoorProg.lean LOADS. Nothing in Lean hashes anything: it is a label: what it is worth is what the hold of that sum in a sandbox is worth. -/
noncomputable def Tryd.pinned : Pinned := { name := "ytbfgmmljegdbfaadoor", sum := "d8166974b8f85abe93e60711114cde5c101fc37d838de11c374e030881009331", checked := Tryd.checked }
namespace Rows
def none {H : Type} : Left H := { results := [], args := [] }

/- WHAT THE LISTED PACKAGE-LEVEL VARIABLES READ AS WHEN THE CALL BEGINS. Each datum BY PROGRAM (the guide's laid-datum.mjs) off the statement by which the dump's own 'gosem.cut.vars' lays the variable. In a bare row this is a premise. The card (YtbfgmmljegdbfaaDoorCards.lean) ties it to the program's text. -/
def laid_loop_example_smallmachines_impl_wordTexts {H : Type} : DataW H := .agg [.lit (.string [115, 101, 116]), .lit (.string [97, 100, 100]), .lit (.string [115, 117, 98]), .lit (.string [109, 117, 108]), .lit (.string [108, 116]), .lit (.string [108, 100]), .lit (.string [115, 116]), .lit (.string [98, 122]), .lit (.string [106, 109, 112]), .lit (.string [104, 108, 116])]

/-- 'laws.FnExactReachOf': WHATEVER THE INPUT: true; the input reads as it did. -/
def fnExactReachOfSpec : ChangeSpec := { name := "fnExactReachOf", vars := ["loop.example/smallmachines/impl.wordTexts"], fn := fun _ => fun
  | [d, g1] => { results := [.lit (.bool true)], args := [d], vars := [g1] }
  | _ => none }
def fnExactReachOfRow : OpenClaim := { program := "ytbfgmmljegdbfaadoor", sum := "d8166974b8f85abe93e60711114cde5c101fc37d838de11c374e030881009331", func := "loop.example/smallmachines/laws.FnExactReachOf", spec := "fnExactReachOf", unfollowed := true, recurses := true, named := ["loop.example/smallmachines/impl.wordTexts"], apart := false, laid := [("loop.example/smallmachines/impl.wordTexts", laid_loop_example_smallmachines_impl_wordTexts)] }
def FnExactReachOfSaid : Prop := fnExactReachOfRow.holds Tryd.pinned (OpenSpec.ofChange fnExactReachOfSpec)

/-- ITS FALSE NEIGHBOUR: 'it returns false'. Refute it at one input. -/
def fnExactReachOfWrong : ChangeSpec := { name := "fnExactReachOf", vars := ["loop.example/smallmachines/impl.wordTexts"], fn := fun _ => fun
  | [d, g1] => { results := [.lit (.bool false)], args := [d], vars := [g1] }
  | _ => none }
def FnExactReachOfWrongFalsely : Prop := fnExactReachOfRow.holds Tryd.pinned (OpenSpec.ofChange fnExactReachOfWrong)

/-- 'laws.FnReachOf': WHATEVER THE INPUT: true; the input reads as it did. -/
def fnReachOfSpec : ChangeSpec := { name := "fnReachOf", vars := ["loop.example/smallmachines/impl.wordTexts"], fn := fun _ => fun
  | [d, g1] => { results := [.lit (.bool true)], args := [d], vars := [g1] }
  | _ => none }
def fnReachOfRow : OpenClaim := { program := "ytbfgmmljegdbfaadoor", sum := "d8166974b8f85abe93e60711114cde5c101fc37d838de11c374e030881009331", func := "loop.example/smallmachines/laws.FnReachOf", spec := "fnReachOf", unfollowed := true, recurses := true, named := ["loop.example/smallmachines/impl.wordTexts"], apart := false, laid := [("loop.example/smallmachines/impl.wordTexts", laid_loop_example_smallmachines_impl_wordTexts)] }
def FnReachOfSaid : Prop := fnReachOfRow.holds Tryd.pinned (OpenSpec.ofChange fnReachOfSpec)

/-- ITS FALSE NEIGHBOUR: 'it returns false'. Refute it at one input. -/
def fnReachOfWrong : ChangeSpec := { name := "fnReachOf", vars := ["loop.example/smallmachines/impl.wordTexts"], fn := fun _ => fun
  | [d, g1] => { results := [.lit (.bool false)], args := [d], vars := [g1] }
  | _ => none }
def FnReachOfWrongFalsely : Prop := fnReachOfRow.holds Tryd.pinned (OpenSpec.ofChange fnReachOfWrong)

/-- 'laws.FnExactDomsOf': WHATEVER THE INPUT: true; the input reads as it did. -/
def fnExactDomsOfSpec : ChangeSpec := { name := "fnExactDomsOf", vars := ["loop.example/smallmachines/impl.wordTexts"], fn := fun _ => fun
  | [d, g1] => { results := [.lit (.bool true)], args := [d], vars := [g1] }
  | _ => none }
def fnExactDomsOfRow : OpenClaim := { program := "ytbfgmmljegdbfaadoor", sum := "d8166974b8f85abe93e60711114cde5c101fc37d838de11c374e030881009331", func := "loop.example/smallmachines/laws.FnExactDomsOf", spec := "fnExactDomsOf", unfollowed := true, recurses := true, named := ["loop.example/smallmachines/impl.wordTexts"], apart := false, laid := [("loop.example/smallmachines/impl.wordTexts", laid_loop_example_smallmachines_impl_wordTexts)] }
def FnExactDomsOfSaid : Prop := fnExactDomsOfRow.holds Tryd.pinned (OpenSpec.ofChange fnExactDomsOfSpec)

/-- ITS FALSE NEIGHBOUR: 'it returns false'. Refute it at one input. -/
def fnExactDomsOfWrong : ChangeSpec := { name := "fnExactDomsOf", vars := ["loop.example/smallmachines/impl.wordTexts"], fn := fun _ => fun
  | [d, g1] => { results := [.lit (.bool false)], args := [d], vars := [g1] }
  | _ => none }
def FnExactDomsOfWrongFalsely : Prop := fnExactDomsOfRow.holds Tryd.pinned (OpenSpec.ofChange fnExactDomsOfWrong)

/-- 'laws.FnDomsOf': WHATEVER THE INPUT: true; the input reads as it did. -/
def fnDomsOfSpec : ChangeSpec := { name := "fnDomsOf", vars := ["loop.example/smallmachines/impl.wordTexts"], fn := fun _ => fun
  | [d, g1] => { results := [.lit (.bool true)], args := [d], vars := [g1] }
  | _ => none }
def fnDomsOfRow : OpenClaim := { program := "ytbfgmmljegdbfaadoor", sum := "d8166974b8f85abe93e60711114cde5c101fc37d838de11c374e030881009331", func := "loop.example/smallmachines/laws.FnDomsOf", spec := "fnDomsOf", unfollowed := true, recurses := true, named := ["loop.example/smallmachines/impl.wordTexts"], apart := false, laid := [("loop.example/smallmachines/impl.wordTexts", laid_loop_example_smallmachines_impl_wordTexts)] }
def FnDomsOfSaid : Prop := fnDomsOfRow.holds Tryd.pinned (OpenSpec.ofChange fnDomsOfSpec)

/-- ITS FALSE NEIGHBOUR: 'it returns false'. Refute it at one input. -/
def fnDomsOfWrong : ChangeSpec := { name := "fnDomsOf", vars := ["loop.example/smallmachines/impl.wordTexts"], fn := fun _ => fun
  | [d, g1] => { results := [.lit (.bool false)], args := [d], vars := [g1] }
  | _ => none }
def FnDomsOfWrongFalsely : Prop := fnDomsOfRow.holds Tryd.pinned (OpenSpec.ofChange fnDomsOfWrong)

/-- 'laws.FnExactLiveOf': WHATEVER THE INPUT: true; the input reads as it did. -/
def fnExactLiveOfSpec : ChangeSpec := { name := "fnExactLiveOf", vars := ["loop.example/smallmachines/impl.wordTexts"], fn := fun _ => fun
  | [d, g1] => { results := [.lit (.bool true)], args := [d], vars := [g1] }
  | _ => none }
def fnExactLiveOfRow : OpenClaim := { program := "ytbfgmmljegdbfaadoor", sum := "d8166974b8f85abe93e60711114cde5c101fc37d838de11c374e030881009331", func := "loop.example/smallmachines/laws.FnExactLiveOf", spec := "fnExactLiveOf", unfollowed := true, recurses := true, named := ["loop.example/smallmachines/impl.wordTexts"], apart := false, laid := [("loop.example/smallmachines/impl.wordTexts", laid_loop_example_smallmachines_impl_wordTexts)] }
def FnExactLiveOfSaid : Prop := fnExactLiveOfRow.holds Tryd.pinned (OpenSpec.ofChange fnExactLiveOfSpec)

/-- ITS FALSE NEIGHBOUR: 'it returns false'. Refute it at one input. -/
def fnExactLiveOfWrong : ChangeSpec := { name := "fnExactLiveOf", vars := ["loop.example/smallmachines/impl.wordTexts"], fn := fun _ => fun
  | [d, g1] => { results := [.lit (.bool false)], args := [d], vars := [g1] }
  | _ => none }
def FnExactLiveOfWrongFalsely : Prop := fnExactLiveOfRow.holds Tryd.pinned (OpenSpec.ofChange fnExactLiveOfWrong)

/-- 'laws.FnLiveOf': WHATEVER THE INPUT: true; the input reads as it did. -/
def fnLiveOfSpec : ChangeSpec := { name := "fnLiveOf", vars := ["loop.example/smallmachines/impl.wordTexts"], fn := fun _ => fun
  | [d, g1] => { results := [.lit (.bool true)], args := [d], vars := [g1] }
  | _ => none }
def fnLiveOfRow : OpenClaim := { program := "ytbfgmmljegdbfaadoor", sum := "d8166974b8f85abe93e60711114cde5c101fc37d838de11c374e030881009331", func := "loop.example/smallmachines/laws.FnLiveOf", spec := "fnLiveOf", unfollowed := true, recurses := true, named := ["loop.example/smallmachines/impl.wordTexts"], apart := false, laid := [("loop.example/smallmachines/impl.wordTexts", laid_loop_example_smallmachines_impl_wordTexts)] }
def FnLiveOfSaid : Prop := fnLiveOfRow.holds Tryd.pinned (OpenSpec.ofChange fnLiveOfSpec)

/-- ITS FALSE NEIGHBOUR: 'it returns false'. Refute it at one input. -/
def fnLiveOfWrong : ChangeSpec := { name := "fnLiveOf", vars := ["loop.example/smallmachines/impl.wordTexts"], fn := fun _ => fun
  | [d, g1] => { results := [.lit (.bool false)], args := [d], vars := [g1] }
  | _ => none }
def FnLiveOfWrongFalsely : Prop := fnLiveOfRow.holds Tryd.pinned (OpenSpec.ofChange fnLiveOfWrong)

/-- 'laws.FnExactDropDead': WHATEVER THE INPUT: true; the input reads as it did. -/
def fnExactDropDeadSpec : ChangeSpec := { name := "fnExactDropDead", vars := ["loop.example/smallmachines/impl.wordTexts"], fn := fun _ => fun
  | [d, g1] => { results := [.lit (.bool true)], args := [d], vars := [g1] }
  | _ => none }
def fnExactDropDeadRow : OpenClaim := { program := "ytbfgmmljegdbfaadoor", sum := "d8166974b8f85abe93e60711114cde5c101fc37d838de11c374e030881009331", func := "loop.example/smallmachines/laws.FnExactDropDead", spec := "fnExactDropDead", unfollowed := true, recurses := true, named := ["loop.example/smallmachines/impl.wordTexts"], apart := false, laid := [("loop.example/smallmachines/impl.wordTexts", laid_loop_example_smallmachines_impl_wordTexts)] }
def FnExactDropDeadSaid : Prop := fnExactDropDeadRow.holds Tryd.pinned (OpenSpec.ofChange fnExactDropDeadSpec)

/-- ITS FALSE NEIGHBOUR: 'it returns false'. Refute it at one input. -/
def fnExactDropDeadWrong : ChangeSpec := { name := "fnExactDropDead", vars := ["loop.example/smallmachines/impl.wordTexts"], fn := fun _ => fun
  | [d, g1] => { results := [.lit (.bool false)], args := [d], vars := [g1] }
  | _ => none }
def FnExactDropDeadWrongFalsely : Prop := fnExactDropDeadRow.holds Tryd.pinned (OpenSpec.ofChange fnExactDropDeadWrong)

/-- 'laws.FnDropDead': WHATEVER THE INPUT: true; the input reads as it did. -/
def fnDropDeadSpec : ChangeSpec := { name := "fnDropDead", vars := ["loop.example/smallmachines/impl.wordTexts"], fn := fun _ => fun
  | [d, g1] => { results := [.lit (.bool true)], args := [d], vars := [g1] }
  | _ => none }
def fnDropDeadRow : OpenClaim := { program := "ytbfgmmljegdbfaadoor", sum := "d8166974b8f85abe93e60711114cde5c101fc37d838de11c374e030881009331", func := "loop.example/smallmachines/laws.FnDropDead", spec := "fnDropDead", unfollowed := true, recurses := true, named := ["loop.example/smallmachines/impl.wordTexts"], apart := false, laid := [("loop.example/smallmachines/impl.wordTexts", laid_loop_example_smallmachines_impl_wordTexts)] }
def FnDropDeadSaid : Prop := fnDropDeadRow.holds Tryd.pinned (OpenSpec.ofChange fnDropDeadSpec)

/-- ITS FALSE NEIGHBOUR: 'it returns false'. Refute it at one input. -/
def fnDropDeadWrong : ChangeSpec := { name := "fnDropDead", vars := ["loop.example/smallmachines/impl.wordTexts"], fn := fun _ => fun
  | [d, g1] => { results := [.lit (.bool false)], args := [d], vars := [g1] }
  | _ => none }
def FnDropDeadWrongFalsely : Prop := fnDropDeadRow.holds Tryd.pinned (OpenSpec.ofChange fnDropDeadWrong)

/-- 'laws.FnExactShrinkCode': WHATEVER THE INPUT: true; the input reads as it did. -/
def fnExactShrinkCodeSpec : ChangeSpec := { name := "fnExactShrinkCode", vars := ["loop.example/smallmachines/impl.wordTexts"], fn := fun _ => fun
  | [d, g1] => { results := [.lit (.bool true)], args := [d], vars := [g1] }
  | _ => none }
def fnExactShrinkCodeRow : OpenClaim := { program := "ytbfgmmljegdbfaadoor", sum := "d8166974b8f85abe93e60711114cde5c101fc37d838de11c374e030881009331", func := "loop.example/smallmachines/laws.FnExactShrinkCode", spec := "fnExactShrinkCode", unfollowed := true, recurses := true, named := ["loop.example/smallmachines/impl.wordTexts"], apart := false, laid := [("loop.example/smallmachines/impl.wordTexts", laid_loop_example_smallmachines_impl_wordTexts)] }
def FnExactShrinkCodeSaid : Prop := fnExactShrinkCodeRow.holds Tryd.pinned (OpenSpec.ofChange fnExactShrinkCodeSpec)

/-- ITS FALSE NEIGHBOUR: 'it returns false'. Refute it at one input. -/
def fnExactShrinkCodeWrong : ChangeSpec := { name := "fnExactShrinkCode", vars := ["loop.example/smallmachines/impl.wordTexts"], fn := fun _ => fun
  | [d, g1] => { results := [.lit (.bool false)], args := [d], vars := [g1] }
  | _ => none }
def FnExactShrinkCodeWrongFalsely : Prop := fnExactShrinkCodeRow.holds Tryd.pinned (OpenSpec.ofChange fnExactShrinkCodeWrong)

/-- 'laws.FnShrinkCode': WHATEVER THE INPUT: true; the input reads as it did. -/
def fnShrinkCodeSpec : ChangeSpec := { name := "fnShrinkCode", vars := ["loop.example/smallmachines/impl.wordTexts"], fn := fun _ => fun
  | [d, g1] => { results := [.lit (.bool true)], args := [d], vars := [g1] }
  | _ => none }
def fnShrinkCodeRow : OpenClaim := { program := "ytbfgmmljegdbfaadoor", sum := "d8166974b8f85abe93e60711114cde5c101fc37d838de11c374e030881009331", func := "loop.example/smallmachines/laws.FnShrinkCode", spec := "fnShrinkCode", unfollowed := true, recurses := true, named := ["loop.example/smallmachines/impl.wordTexts"], apart := false, laid := [("loop.example/smallmachines/impl.wordTexts", laid_loop_example_smallmachines_impl_wordTexts)] }
def FnShrinkCodeSaid : Prop := fnShrinkCodeRow.holds Tryd.pinned (OpenSpec.ofChange fnShrinkCodeSpec)

/-- ITS FALSE NEIGHBOUR: 'it returns false'. Refute it at one input. -/
def fnShrinkCodeWrong : ChangeSpec := { name := "fnShrinkCode", vars := ["loop.example/smallmachines/impl.wordTexts"], fn := fun _ => fun
  | [d, g1] => { results := [.lit (.bool false)], args := [d], vars := [g1] }
  | _ => none }
def FnShrinkCodeWrongFalsely : Prop := fnShrinkCodeRow.holds Tryd.pinned (OpenSpec.ofChange fnShrinkCodeWrong)

/- THE SECOND FORM. 'bulk': how many values and letters a reading holds, each counted each time it is reached (what is shared counts as often as it is met; a slice's spare places count too). A statement '..UptoSaid' is the law's where the arguments, and the package variables that the reading takes, are together of bulk at most 1048576: NARROWER than '..Said'. Prove '..Said' where nothing that the law and all that it calls make is longer than what came in: it says more and counts as full. Else prove '..UptoSaid'. A law counts once. -/
mutual
def uptoBulk {H : Type} : DataW H → Nat
  | .lit (.string bytes) => bytes.length + 1
  | .lit _ => 1
  | .nil => 1
  | .ptr d => uptoBulk d + 1
  | .slice elems spare => uptoBulkAll elems + uptoBulkAll spare + 1
  | .agg parts => uptoBulkAll parts + 1
  | .iface _ d => uptoBulk d + 1
  | .map entries => uptoBulkEntries entries + 1
  | .held _ => 1
def uptoBulkAll {H : Type} : List (DataW H) → Nat
  | [] => 0
  | d :: r => uptoBulk d + uptoBulkAll r
def uptoBulkEntries {H : Type} : List (Lit × DataW H) → Nat
  | [] => 0
  | x :: r => uptoBulkEntry x + uptoBulkEntries r
def uptoBulkEntry {H : Type} : Lit × DataW H → Nat
  | (.string bytes, d) => bytes.length + uptoBulk d + 1
  | (_, d) => uptoBulk d + 1
 end
def uptoSmall : (H : Type) → List (DataW H) → Bool := fun _ ds => decide (uptoBulkAll ds ≤ 1048576)
def OpenSpec.upto (s : _root_.Go.ChangeSpec) : _root_.Go.OpenSpec := { _root_.Go.OpenSpec.ofChange s with cond := some uptoSmall }

/-- 'laws.FnExactReachOf', WHERE WHAT IT READS IS OF BULK AT MOST 1048576: true; the input reads as it did. -/
def fnExactReachOfUptoRow : OpenClaim := { program := "ytbfgmmljegdbfaadoor", sum := "d8166974b8f85abe93e60711114cde5c101fc37d838de11c374e030881009331", func := "loop.example/smallmachines/laws.FnExactReachOf", spec := "fnExactReachOf", unfollowed := true, recurses := true, named := ["loop.example/smallmachines/impl.wordTexts"], apart := false, laid := [("loop.example/smallmachines/impl.wordTexts", laid_loop_example_smallmachines_impl_wordTexts)], narrowed := true }
def FnExactReachOfUptoSaid : Prop := fnExactReachOfUptoRow.holds Tryd.pinned (OpenSpec.upto fnExactReachOfSpec)

/-- 'laws.FnReachOf', WHERE WHAT IT READS IS OF BULK AT MOST 1048576: true; the input reads as it did. -/
def fnReachOfUptoRow : OpenClaim := { program := "ytbfgmmljegdbfaadoor", sum := "d8166974b8f85abe93e60711114cde5c101fc37d838de11c374e030881009331", func := "loop.example/smallmachines/laws.FnReachOf", spec := "fnReachOf", unfollowed := true, recurses := true, named := ["loop.example/smallmachines/impl.wordTexts"], apart := false, laid := [("loop.example/smallmachines/impl.wordTexts", laid_loop_example_smallmachines_impl_wordTexts)], narrowed := true }
def FnReachOfUptoSaid : Prop := fnReachOfUptoRow.holds Tryd.pinned (OpenSpec.upto fnReachOfSpec)

/-- 'laws.FnExactDomsOf', WHERE WHAT IT READS IS OF BULK AT MOST 1048576: true; the input reads as it did. -/
def fnExactDomsOfUptoRow : OpenClaim := { program := "ytbfgmmljegdbfaadoor", sum := "d8166974b8f85abe93e60711114cde5c101fc37d838de11c374e030881009331", func := "loop.example/smallmachines/laws.FnExactDomsOf", spec := "fnExactDomsOf", unfollowed := true, recurses := true, named := ["loop.example/smallmachines/impl.wordTexts"], apart := false, laid := [("loop.example/smallmachines/impl.wordTexts", laid_loop_example_smallmachines_impl_wordTexts)], narrowed := true }
def FnExactDomsOfUptoSaid : Prop := fnExactDomsOfUptoRow.holds Tryd.pinned (OpenSpec.upto fnExactDomsOfSpec)

/-- 'laws.FnDomsOf', WHERE WHAT IT READS IS OF BULK AT MOST 1048576: true; the input reads as it did. -/
def fnDomsOfUptoRow : OpenClaim := { program := "ytbfgmmljegdbfaadoor", sum := "d8166974b8f85abe93e60711114cde5c101fc37d838de11c374e030881009331", func := "loop.example/smallmachines/laws.FnDomsOf", spec := "fnDomsOf", unfollowed := true, recurses := true, named := ["loop.example/smallmachines/impl.wordTexts"], apart := false, laid := [("loop.example/smallmachines/impl.wordTexts", laid_loop_example_smallmachines_impl_wordTexts)], narrowed := true }
def FnDomsOfUptoSaid : Prop := fnDomsOfUptoRow.holds Tryd.pinned (OpenSpec.upto fnDomsOfSpec)

/-- 'laws.FnExactLiveOf', WHERE WHAT IT READS IS OF BULK AT MOST 1048576: true; the input reads as it did. -/
def fnExactLiveOfUptoRow : OpenClaim := { program := "ytbfgmmljegdbfaadoor", sum := "d8166974b8f85abe93e60711114cde5c101fc37d838de11c374e030881009331", func := "loop.example/smallmachines/laws.FnExactLiveOf", spec := "fnExactLiveOf", unfollowed := true, recurses := true, named := ["loop.example/smallmachines/impl.wordTexts"], apart := false, laid := [("loop.example/smallmachines/impl.wordTexts", laid_loop_example_smallmachines_impl_wordTexts)], narrowed := true }
def FnExactLiveOfUptoSaid : Prop := fnExactLiveOfUptoRow.holds Tryd.pinned (OpenSpec.upto fnExactLiveOfSpec)

/-- 'laws.FnLiveOf', WHERE WHAT IT READS IS OF BULK AT MOST 1048576: true; the input reads as it did. -/
def fnLiveOfUptoRow : OpenClaim := { program := "ytbfgmmljegdbfaadoor", sum := "d8166974b8f85abe93e60711114cde5c101fc37d838de11c374e030881009331", func := "loop.example/smallmachines/laws.FnLiveOf", spec := "fnLiveOf", unfollowed := true, recurses := true, named := ["loop.example/smallmachines/impl.wordTexts"], apart := false, laid := [("loop.example/smallmachines/impl.wordTexts", laid_loop_example_smallmachines_impl_wordTexts)], narrowed := true }
def FnLiveOfUptoSaid : Prop := fnLiveOfUptoRow.holds Tryd.pinned (OpenSpec.upto fnLiveOfSpec)

/-- 'laws.FnExactDropDead', WHERE WHAT IT READS IS OF BULK AT MOST 1048576: true; the input reads as it did. -/
def fnExactDropDeadUptoRow : OpenClaim := { program := "ytbfgmmljegdbfaadoor", sum := "d8166974b8f85abe93e60711114cde5c101fc37d838de11c374e030881009331", func := "loop.example/smallmachines/laws.FnExactDropDead", spec := "fnExactDropDead", unfollowed := true, recurses := true, named := ["loop.example/smallmachines/impl.wordTexts"], apart := false, laid := [("loop.example/smallmachines/impl.wordTexts", laid_loop_example_smallmachines_impl_wordTexts)], narrowed := true }
def FnExactDropDeadUptoSaid : Prop := fnExactDropDeadUptoRow.holds Tryd.pinned (OpenSpec.upto fnExactDropDeadSpec)

/-- 'laws.FnDropDead', WHERE WHAT IT READS IS OF BULK AT MOST 1048576: true; the input reads as it did. -/
def fnDropDeadUptoRow : OpenClaim := { program := "ytbfgmmljegdbfaadoor", sum := "d8166974b8f85abe93e60711114cde5c101fc37d838de11c374e030881009331", func := "loop.example/smallmachines/laws.FnDropDead", spec := "fnDropDead", unfollowed := true, recurses := true, named := ["loop.example/smallmachines/impl.wordTexts"], apart := false, laid := [("loop.example/smallmachines/impl.wordTexts", laid_loop_example_smallmachines_impl_wordTexts)], narrowed := true }
def FnDropDeadUptoSaid : Prop := fnDropDeadUptoRow.holds Tryd.pinned (OpenSpec.upto fnDropDeadSpec)

/-- 'laws.FnExactShrinkCode', WHERE WHAT IT READS IS OF BULK AT MOST 1048576: true; the input reads as it did. -/
def fnExactShrinkCodeUptoRow : OpenClaim := { program := "ytbfgmmljegdbfaadoor", sum := "d8166974b8f85abe93e60711114cde5c101fc37d838de11c374e030881009331", func := "loop.example/smallmachines/laws.FnExactShrinkCode", spec := "fnExactShrinkCode", unfollowed := true, recurses := true, named := ["loop.example/smallmachines/impl.wordTexts"], apart := false, laid := [("loop.example/smallmachines/impl.wordTexts", laid_loop_example_smallmachines_impl_wordTexts)], narrowed := true }
def FnExactShrinkCodeUptoSaid : Prop := fnExactShrinkCodeUptoRow.holds Tryd.pinned (OpenSpec.upto fnExactShrinkCodeSpec)

/-- 'laws.FnShrinkCode', WHERE WHAT IT READS IS OF BULK AT MOST 1048576: true; the input reads as it did. -/
def fnShrinkCodeUptoRow : OpenClaim := { program := "ytbfgmmljegdbfaadoor", sum := "d8166974b8f85abe93e60711114cde5c101fc37d838de11c374e030881009331", func := "loop.example/smallmachines/laws.FnShrinkCode", spec := "fnShrinkCode", unfollowed := true, recurses := true, named := ["loop.example/smallmachines/impl.wordTexts"], apart := false, laid := [("loop.example/smallmachines/impl.wordTexts", laid_loop_example_smallmachines_impl_wordTexts)], narrowed := true }
def FnShrinkCodeUptoSaid : Prop := fnShrinkCodeUptoRow.holds Tryd.pinned (OpenSpec.upto fnShrinkCodeSpec)

end Rows
end Go.Proofs.YtbfgmmljegdbfaaDoor
