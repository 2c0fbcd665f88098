/-
  NARROWER THAN 'FOR EVERY INPUT', by the rows' own cells (each row's printed sentence says how): FnLiveOf: laid · FnDropDead: laid · FnShrinkCode: laid · FnSkipCode: laid · FnKnownAt: laid · FnFoldCode: laid · FnBetterCode: laid.
  DERIVED. THE GIVEN ROWS OF THIS SEAT. 7 by the template 'for every input the law returns true; each argument reads behind the call as it read before'; 0 by the template 'total and deterministic' (their statements: YtjeflaodeafhbaaDoorTotals.lean).
  GIVEN WITH THE SEED: the statements are not yours to turn. If you find one false, say at which input.
  Laid BY PROGRAM, IN A SANDBOX (cutbox-rows.mjs): the forced cells as the released guide's own fill.sh prints them over the translation 1e7af7b7298f379c… (all of the seat's roots in one cut). By AI agents, Wed Nov 11 2026. No macro, syntax, notation, axiom, sorry.
-/
import Derived.Test.YtjeflaodeafhbaaDoorChecked
import GoSem.Claim
import GoSem.ClaimJoined
import GoSem.ClaimMapViews
import Derived.JoinedTies
import Derived.KernelRfl
namespace Go.Proofs.YtjeflaodeafhbaaDoor
/- THE CELL 'sum', in the pinned program and in every row, IS THE sha256 OF THE DUMP (.gsa) THAT YtjeflaodeafhbaaDoorProg.lean LOADS. Nothing in Lean hashes anything: it is a label: what it is worth is what the hold of that sum in a sandbox is worth. -/
noncomputable def Tryd.pinned : Pinned := { name := "ytjeflaodeafhbaadoor", sum := "1e7af7b7298f379c9561b9e2309cf74df769695ce04626c67f793b84d6c6c73f", checked := Tryd.checked }
namespace Rows
def none {H : Type} : Left H := { results := [], args := [] }

/- WHAT THE LISTED PACKAGE-LEVEL VARIABLES READ AS WHEN THE CALL BEGINS. Each datum BY PROGRAM (the guide's laid-datum.mjs) off the statement by which the dump's own 'gosem.cut.vars' lays the variable. In a bare row this is a premise. The card (YtjeflaodeafhbaaDoorCards.lean) ties it to the program's text. -/
def laid_loop_example_smallmachines_impl_wordTexts {H : Type} : DataW H := .agg [.lit (.string [115, 101, 116]), .lit (.string [97, 100, 100]), .lit (.string [115, 117, 98]), .lit (.string [109, 117, 108]), .lit (.string [108, 116]), .lit (.string [108, 100]), .lit (.string [115, 116]), .lit (.string [98, 122]), .lit (.string [106, 109, 112]), .lit (.string [104, 108, 116])]

/-- 'laws.FnLiveOf': WHATEVER THE INPUT: true; the input reads as it did. -/
def fnLiveOfSpec : ChangeSpec := { name := "fnLiveOf", vars := ["loop.example/smallmachines/impl.wordTexts"], fn := fun _ => fun
  | [d, g1] => { results := [.lit (.bool true)], args := [d], vars := [g1] }
  | _ => none }
def fnLiveOfRow : OpenClaim := { program := "ytjeflaodeafhbaadoor", sum := "1e7af7b7298f379c9561b9e2309cf74df769695ce04626c67f793b84d6c6c73f", func := "loop.example/smallmachines/laws.FnLiveOf", spec := "fnLiveOf", unfollowed := true, recurses := true, named := ["loop.example/smallmachines/impl.wordTexts"], apart := false, laid := [("loop.example/smallmachines/impl.wordTexts", laid_loop_example_smallmachines_impl_wordTexts)] }
def FnLiveOfSaid : Prop := fnLiveOfRow.holds Tryd.pinned (OpenSpec.ofChange fnLiveOfSpec)

/-- ITS FALSE NEIGHBOUR: 'it returns false'. Refute it at one input. -/
def fnLiveOfWrong : ChangeSpec := { name := "fnLiveOf", vars := ["loop.example/smallmachines/impl.wordTexts"], fn := fun _ => fun
  | [d, g1] => { results := [.lit (.bool false)], args := [d], vars := [g1] }
  | _ => none }
def FnLiveOfWrongFalsely : Prop := fnLiveOfRow.holds Tryd.pinned (OpenSpec.ofChange fnLiveOfWrong)

/-- 'laws.FnDropDead': WHATEVER THE INPUT: true; the input reads as it did. -/
def fnDropDeadSpec : ChangeSpec := { name := "fnDropDead", vars := ["loop.example/smallmachines/impl.wordTexts"], fn := fun _ => fun
  | [d, g1] => { results := [.lit (.bool true)], args := [d], vars := [g1] }
  | _ => none }
def fnDropDeadRow : OpenClaim := { program := "ytjeflaodeafhbaadoor", sum := "1e7af7b7298f379c9561b9e2309cf74df769695ce04626c67f793b84d6c6c73f", func := "loop.example/smallmachines/laws.FnDropDead", spec := "fnDropDead", unfollowed := true, recurses := true, named := ["loop.example/smallmachines/impl.wordTexts"], apart := false, laid := [("loop.example/smallmachines/impl.wordTexts", laid_loop_example_smallmachines_impl_wordTexts)] }
def FnDropDeadSaid : Prop := fnDropDeadRow.holds Tryd.pinned (OpenSpec.ofChange fnDropDeadSpec)

/-- ITS FALSE NEIGHBOUR: 'it returns false'. Refute it at one input. -/
def fnDropDeadWrong : ChangeSpec := { name := "fnDropDead", vars := ["loop.example/smallmachines/impl.wordTexts"], fn := fun _ => fun
  | [d, g1] => { results := [.lit (.bool false)], args := [d], vars := [g1] }
  | _ => none }
def FnDropDeadWrongFalsely : Prop := fnDropDeadRow.holds Tryd.pinned (OpenSpec.ofChange fnDropDeadWrong)

/-- 'laws.FnShrinkCode': WHATEVER THE INPUT: true; the input reads as it did. -/
def fnShrinkCodeSpec : ChangeSpec := { name := "fnShrinkCode", vars := ["loop.example/smallmachines/impl.wordTexts"], fn := fun _ => fun
  | [d, g1] => { results := [.lit (.bool true)], args := [d], vars := [g1] }
  | _ => none }
def fnShrinkCodeRow : OpenClaim := { program := "ytjeflaodeafhbaadoor", sum := "1e7af7b7298f379c9561b9e2309cf74df769695ce04626c67f793b84d6c6c73f", func := "loop.example/smallmachines/laws.FnShrinkCode", spec := "fnShrinkCode", unfollowed := true, recurses := true, named := ["loop.example/smallmachines/impl.wordTexts"], apart := false, laid := [("loop.example/smallmachines/impl.wordTexts", laid_loop_example_smallmachines_impl_wordTexts)] }
def FnShrinkCodeSaid : Prop := fnShrinkCodeRow.holds Tryd.pinned (OpenSpec.ofChange fnShrinkCodeSpec)

/-- ITS FALSE NEIGHBOUR: 'it returns false'. Refute it at one input. -/
def fnShrinkCodeWrong : ChangeSpec := { name := "fnShrinkCode", vars := ["loop.example/smallmachines/impl.wordTexts"], fn := fun _ => fun
  | [d, g1] => { results := [.lit (.bool false)], args := [d], vars := [g1] }
  | _ => none }
def FnShrinkCodeWrongFalsely : Prop := fnShrinkCodeRow.holds Tryd.pinned (OpenSpec.ofChange fnShrinkCodeWrong)

/-- 'laws.FnSkipCode': WHATEVER THE INPUT: true; the input reads as it did. -/
def fnSkipCodeSpec : ChangeSpec := { name := "fnSkipCode", vars := ["loop.example/smallmachines/impl.wordTexts"], fn := fun _ => fun
  | [d, g1] => { results := [.lit (.bool true)], args := [d], vars := [g1] }
  | _ => none }
def fnSkipCodeRow : OpenClaim := { program := "ytjeflaodeafhbaadoor", sum := "1e7af7b7298f379c9561b9e2309cf74df769695ce04626c67f793b84d6c6c73f", func := "loop.example/smallmachines/laws.FnSkipCode", spec := "fnSkipCode", unfollowed := true, recurses := true, named := ["loop.example/smallmachines/impl.wordTexts"], apart := false, laid := [("loop.example/smallmachines/impl.wordTexts", laid_loop_example_smallmachines_impl_wordTexts)] }
def FnSkipCodeSaid : Prop := fnSkipCodeRow.holds Tryd.pinned (OpenSpec.ofChange fnSkipCodeSpec)

/-- ITS FALSE NEIGHBOUR: 'it returns false'. Refute it at one input. -/
def fnSkipCodeWrong : ChangeSpec := { name := "fnSkipCode", vars := ["loop.example/smallmachines/impl.wordTexts"], fn := fun _ => fun
  | [d, g1] => { results := [.lit (.bool false)], args := [d], vars := [g1] }
  | _ => none }
def FnSkipCodeWrongFalsely : Prop := fnSkipCodeRow.holds Tryd.pinned (OpenSpec.ofChange fnSkipCodeWrong)

/-- 'laws.FnKnownAt': WHATEVER THE INPUT: true; the input reads as it did. -/
def fnKnownAtSpec : ChangeSpec := { name := "fnKnownAt", vars := ["loop.example/smallmachines/impl.wordTexts"], fn := fun _ => fun
  | [d, g1] => { results := [.lit (.bool true)], args := [d], vars := [g1] }
  | _ => none }
def fnKnownAtRow : OpenClaim := { program := "ytjeflaodeafhbaadoor", sum := "1e7af7b7298f379c9561b9e2309cf74df769695ce04626c67f793b84d6c6c73f", func := "loop.example/smallmachines/laws.FnKnownAt", spec := "fnKnownAt", inPlace := ["maps.clone"], unfollowed := true, recurses := true, named := ["loop.example/smallmachines/impl.wordTexts"], apart := false, laid := [("loop.example/smallmachines/impl.wordTexts", laid_loop_example_smallmachines_impl_wordTexts)] }
def FnKnownAtSaid : Prop := fnKnownAtRow.holds Tryd.pinned (OpenSpec.ofChange fnKnownAtSpec)

/-- ITS FALSE NEIGHBOUR: 'it returns false'. Refute it at one input. -/
def fnKnownAtWrong : ChangeSpec := { name := "fnKnownAt", vars := ["loop.example/smallmachines/impl.wordTexts"], fn := fun _ => fun
  | [d, g1] => { results := [.lit (.bool false)], args := [d], vars := [g1] }
  | _ => none }
def FnKnownAtWrongFalsely : Prop := fnKnownAtRow.holds Tryd.pinned (OpenSpec.ofChange fnKnownAtWrong)

/-- 'laws.FnFoldCode': WHATEVER THE INPUT: true; the input reads as it did. -/
def fnFoldCodeSpec : ChangeSpec := { name := "fnFoldCode", vars := ["loop.example/smallmachines/impl.wordTexts"], fn := fun _ => fun
  | [d, g1] => { results := [.lit (.bool true)], args := [d], vars := [g1] }
  | _ => none }
def fnFoldCodeRow : OpenClaim := { program := "ytjeflaodeafhbaadoor", sum := "1e7af7b7298f379c9561b9e2309cf74df769695ce04626c67f793b84d6c6c73f", func := "loop.example/smallmachines/laws.FnFoldCode", spec := "fnFoldCode", inPlace := ["maps.clone"], unfollowed := true, recurses := true, named := ["loop.example/smallmachines/impl.wordTexts"], apart := false, laid := [("loop.example/smallmachines/impl.wordTexts", laid_loop_example_smallmachines_impl_wordTexts)] }
def FnFoldCodeSaid : Prop := fnFoldCodeRow.holds Tryd.pinned (OpenSpec.ofChange fnFoldCodeSpec)

/-- ITS FALSE NEIGHBOUR: 'it returns false'. Refute it at one input. -/
def fnFoldCodeWrong : ChangeSpec := { name := "fnFoldCode", vars := ["loop.example/smallmachines/impl.wordTexts"], fn := fun _ => fun
  | [d, g1] => { results := [.lit (.bool false)], args := [d], vars := [g1] }
  | _ => none }
def FnFoldCodeWrongFalsely : Prop := fnFoldCodeRow.holds Tryd.pinned (OpenSpec.ofChange fnFoldCodeWrong)

/-- 'laws.FnBetterCode': WHATEVER THE INPUT: true; the input reads as it did. -/
def fnBetterCodeSpec : ChangeSpec := { name := "fnBetterCode", vars := ["loop.example/smallmachines/impl.wordTexts"], fn := fun _ => fun
  | [d, g1] => { results := [.lit (.bool true)], args := [d], vars := [g1] }
  | _ => none }
def fnBetterCodeRow : OpenClaim := { program := "ytjeflaodeafhbaadoor", sum := "1e7af7b7298f379c9561b9e2309cf74df769695ce04626c67f793b84d6c6c73f", func := "loop.example/smallmachines/laws.FnBetterCode", spec := "fnBetterCode", inPlace := ["maps.clone"], unfollowed := true, recurses := true, named := ["loop.example/smallmachines/impl.wordTexts"], apart := false, laid := [("loop.example/smallmachines/impl.wordTexts", laid_loop_example_smallmachines_impl_wordTexts)] }
def FnBetterCodeSaid : Prop := fnBetterCodeRow.holds Tryd.pinned (OpenSpec.ofChange fnBetterCodeSpec)

/-- ITS FALSE NEIGHBOUR: 'it returns false'. Refute it at one input. -/
def fnBetterCodeWrong : ChangeSpec := { name := "fnBetterCode", vars := ["loop.example/smallmachines/impl.wordTexts"], fn := fun _ => fun
  | [d, g1] => { results := [.lit (.bool false)], args := [d], vars := [g1] }
  | _ => none }
def FnBetterCodeWrongFalsely : Prop := fnBetterCodeRow.holds Tryd.pinned (OpenSpec.ofChange fnBetterCodeWrong)

/- THE SECOND FORM. 'bulk': how many values and letters a reading holds, each counted each time it is reached (what is shared counts as often as it is met; a slice's spare places count too). A statement '..UptoSaid' is the law's where the arguments, and the package variables that the reading takes, are together of bulk at most 1048576: NARROWER than '..Said'. Prove '..Said' where nothing that the law and all that it calls make is longer than what came in: it says more and counts as full. Else prove '..UptoSaid'. A law counts once. -/
mutual
def uptoBulk {H : Type} : DataW H → Nat
  | .lit (.string bytes) => bytes.length + 1
  | .lit _ => 1
  | .nil => 1
  | .ptr d => uptoBulk d + 1
  | .slice elems spare => uptoBulkAll elems + uptoBulkAll spare + 1
  | .agg parts => uptoBulkAll parts + 1
  | .iface _ d => uptoBulk d + 1
  | .map entries => uptoBulkEntries entries + 1
  | .held _ => 1
def uptoBulkAll {H : Type} : List (DataW H) → Nat
  | [] => 0
  | d :: r => uptoBulk d + uptoBulkAll r
def uptoBulkEntries {H : Type} : List (Lit × DataW H) → Nat
  | [] => 0
  | x :: r => uptoBulkEntry x + uptoBulkEntries r
def uptoBulkEntry {H : Type} : Lit × DataW H → Nat
  | (.string bytes, d) => bytes.length + uptoBulk d + 1
  | (_, d) => uptoBulk d + 1
 end
def uptoSmall : (H : Type) → List (DataW H) → Bool := fun _ ds => decide (uptoBulkAll ds ≤ 1048576)
def OpenSpec.upto (s : _root_.Go.ChangeSpec) : _root_.Go.OpenSpec := { _root_.Go.OpenSpec.ofChange s with cond := some uptoSmall }

/-- 'laws.FnLiveOf', WHERE WHAT IT READS IS OF BULK AT MOST 1048576: true; the input reads as it did. -/
def fnLiveOfUptoRow : OpenClaim := { program := "ytjeflaodeafhbaadoor", sum := "1e7af7b7298f379c9561b9e2309cf74df769695ce04626c67f793b84d6c6c73f", func := "loop.example/smallmachines/laws.FnLiveOf", spec := "fnLiveOf", unfollowed := true, recurses := true, named := ["loop.example/smallmachines/impl.wordTexts"], apart := false, laid := [("loop.example/smallmachines/impl.wordTexts", laid_loop_example_smallmachines_impl_wordTexts)], narrowed := true }
def FnLiveOfUptoSaid : Prop := fnLiveOfUptoRow.holds Tryd.pinned (OpenSpec.upto fnLiveOfSpec)

/-- 'laws.FnDropDead', WHERE WHAT IT READS IS OF BULK AT MOST 1048576: true; the input reads as it did. -/
def fnDropDeadUptoRow : OpenClaim := { program := "ytjeflaodeafhbaadoor", sum := "1e7af7b7298f379c9561b9e2309cf74df769695ce04626c67f793b84d6c6c73f", func := "loop.example/smallmachines/laws.FnDropDead", spec := "fnDropDead", unfollowed := true, recurses := true, named := ["loop.example/smallmachines/impl.wordTexts"], apart := false, laid := [("loop.example/smallmachines/impl.wordTexts", laid_loop_example_smallmachines_impl_wordTexts)], narrowed := true }
def FnDropDeadUptoSaid : Prop := fnDropDeadUptoRow.holds Tryd.pinned (OpenSpec.upto fnDropDeadSpec)

/-- 'laws.FnShrinkCode', WHERE WHAT IT READS IS OF BULK AT MOST 1048576: true; the input reads as it did. -/
def fnShrinkCodeUptoRow : OpenClaim := { program := "ytjeflaodeafhbaadoor", sum := "1e7af7b7298f379c9561b9e2309cf74df769695ce04626c67f793b84d6c6c73f", func := "loop.example/smallmachines/laws.FnShrinkCode", spec := "fnShrinkCode", unfollowed := true, recurses := true, named := ["loop.example/smallmachines/impl.wordTexts"], apart := false, laid := [("loop.example/smallmachines/impl.wordTexts", laid_loop_example_smallmachines_impl_wordTexts)], narrowed := true }
def FnShrinkCodeUptoSaid : Prop := fnShrinkCodeUptoRow.holds Tryd.pinned (OpenSpec.upto fnShrinkCodeSpec)

/-- 'laws.FnSkipCode', WHERE WHAT IT READS IS OF BULK AT MOST 1048576: true; the input reads as it did. -/
def fnSkipCodeUptoRow : OpenClaim := { program := "ytjeflaodeafhbaadoor", sum := "1e7af7b7298f379c9561b9e2309cf74df769695ce04626c67f793b84d6c6c73f", func := "loop.example/smallmachines/laws.FnSkipCode", spec := "fnSkipCode", unfollowed := true, recurses := true, named := ["loop.example/smallmachines/impl.wordTexts"], apart := false, laid := [("loop.example/smallmachines/impl.wordTexts", laid_loop_example_smallmachines_impl_wordTexts)], narrowed := true }
def FnSkipCodeUptoSaid : Prop := fnSkipCodeUptoRow.holds Tryd.pinned (OpenSpec.upto fnSkipCodeSpec)

/-- 'laws.FnKnownAt', WHERE WHAT IT READS IS OF BULK AT MOST 1048576: true; the input reads as it did. -/
def fnKnownAtUptoRow : OpenClaim := { program := "ytjeflaodeafhbaadoor", sum := "1e7af7b7298f379c9561b9e2309cf74df769695ce04626c67f793b84d6c6c73f", func := "loop.example/smallmachines/laws.FnKnownAt", spec := "fnKnownAt", inPlace := ["maps.clone"], unfollowed := true, recurses := true, named := ["loop.example/smallmachines/impl.wordTexts"], apart := false, laid := [("loop.example/smallmachines/impl.wordTexts", laid_loop_example_smallmachines_impl_wordTexts)], narrowed := true }
def FnKnownAtUptoSaid : Prop := fnKnownAtUptoRow.holds Tryd.pinned (OpenSpec.upto fnKnownAtSpec)

/-- 'laws.FnFoldCode', WHERE WHAT IT READS IS OF BULK AT MOST 1048576: true; the input reads as it did. -/
def fnFoldCodeUptoRow : OpenClaim := { program := "ytjeflaodeafhbaadoor", sum := "1e7af7b7298f379c9561b9e2309cf74df769695ce04626c67f793b84d6c6c73f", func := "loop.example/smallmachines/laws.FnFoldCode", spec := "fnFoldCode", inPlace := ["maps.clone"], unfollowed := true, recurses := true, named := ["loop.example/smallmachines/impl.wordTexts"], apart := false, laid := [("loop.example/smallmachines/impl.wordTexts", laid_loop_example_smallmachines_impl_wordTexts)], narrowed := true }
def FnFoldCodeUptoSaid : Prop := fnFoldCodeUptoRow.holds Tryd.pinned (OpenSpec.upto fnFoldCodeSpec)

/-- 'laws.FnBetterCode', WHERE WHAT IT READS IS OF BULK AT MOST 1048576: true; the input reads as it did. -/
def fnBetterCodeUptoRow : OpenClaim := { program := "ytjeflaodeafhbaadoor", sum := "1e7af7b7298f379c9561b9e2309cf74df769695ce04626c67f793b84d6c6c73f", func := "loop.example/smallmachines/laws.FnBetterCode", spec := "fnBetterCode", inPlace := ["maps.clone"], unfollowed := true, recurses := true, named := ["loop.example/smallmachines/impl.wordTexts"], apart := false, laid := [("loop.example/smallmachines/impl.wordTexts", laid_loop_example_smallmachines_impl_wordTexts)], narrowed := true }
def FnBetterCodeUptoSaid : Prop := fnBetterCodeUptoRow.holds Tryd.pinned (OpenSpec.upto fnBetterCodeSpec)

end Rows
end Go.Proofs.YtjeflaodeafhbaaDoor
