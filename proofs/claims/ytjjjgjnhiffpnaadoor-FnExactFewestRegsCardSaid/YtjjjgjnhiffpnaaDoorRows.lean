/-
  NARROWER THAN 'FOR EVERY INPUT', by the rows' own cells (each row's printed sentence says how): FnExactValidWide: laid · FnExactRunWide: laid · FnExactLiveWide: laid · FnExactWidthOf: laid · FnExactPlacesFor: laid · FnExactFewestRegs: laid · FnExactNarrowCode: laid · FnExactShareWide: laid · FnValidWide: laid · FnRunWide: laid · FnLiveWide: laid · FnShareWide: laid.
  DERIVED. THE GIVEN ROWS OF THIS SEAT. 12 by the template 'for every input the law returns true; each argument reads behind the call as it read before'; 0 by the template 'total and deterministic' (their statements: YtjjjgjnhiffpnaaDoorTotals.lean).
  GIVEN WITH THE SEED: the statements are not yours to turn. If you find one false, say at which input.
  Laid BY PROGRAM, IN A SANDBOX (cutbox-rows.mjs): the forced cells as the released guide's own fill.sh prints them over the translation 14870db726070079… (all of the seat's roots in one cut). By AI agents, Wed Nov 11 2026. No macro, syntax, notation, axiom, sorry.
-/
import Derived.Test.YtjjjgjnhiffpnaaDoorChecked
import GoSem.Claim
import GoSem.ClaimJoined
import GoSem.ClaimMapViews
import Derived.JoinedTies
import Derived.KernelRfl
namespace Go.Proofs.YtjjjgjnhiffpnaaDoor
/- THE CELL 'sum', in the pinned program and in every row, IS THE sha256 OF THE DUMP (.gsa) THAT YtjjjgjnhiffpnaaDoorProg.lean LOADS. Nothing in Lean hashes anything: it is a label: what it is worth is what the hold of that sum in a sandbox is worth. -/
noncomputable def Tryd.pinned : Pinned := { name := "ytjjjgjnhiffpnaadoor", sum := "14870db726070079c8787329442c5e9515a4cd15eeb69e14e62f88cab120b9ff", checked := Tryd.checked }
namespace Rows
def none {H : Type} : Left H := { results := [], args := [] }

/- WHAT THE LISTED PACKAGE-LEVEL VARIABLES READ AS WHEN THE CALL BEGINS. Each datum BY PROGRAM (the guide's laid-datum.mjs) off the statement by which the dump's own 'gosem.cut.vars' lays the variable. In a bare row this is a premise. The card (YtjjjgjnhiffpnaaDoorCards.lean) ties it to the program's text. -/
def laid_loop_example_smallmachines_impl_wordTexts {H : Type} : DataW H := .agg [.lit (.string [115, 101, 116]), .lit (.string [97, 100, 100]), .lit (.string [115, 117, 98]), .lit (.string [109, 117, 108]), .lit (.string [108, 116]), .lit (.string [108, 100]), .lit (.string [115, 116]), .lit (.string [98, 122]), .lit (.string [106, 109, 112]), .lit (.string [104, 108, 116])]

/-- 'laws.FnExactValidWide': WHATEVER THE INPUT: true; the input reads as it did. -/
def fnExactValidWideSpec : ChangeSpec := { name := "fnExactValidWide", vars := ["loop.example/smallmachines/impl.wordTexts"], fn := fun _ => fun
  | [d, g1] => { results := [.lit (.bool true)], args := [d], vars := [g1] }
  | _ => none }
def fnExactValidWideRow : OpenClaim := { program := "ytjjjgjnhiffpnaadoor", sum := "14870db726070079c8787329442c5e9515a4cd15eeb69e14e62f88cab120b9ff", func := "loop.example/smallmachines/laws.FnExactValidWide", spec := "fnExactValidWide", named := ["loop.example/smallmachines/impl.wordTexts"], apart := false, laid := [("loop.example/smallmachines/impl.wordTexts", laid_loop_example_smallmachines_impl_wordTexts)] }
def FnExactValidWideSaid : Prop := fnExactValidWideRow.holds Tryd.pinned (OpenSpec.ofChange fnExactValidWideSpec)

/-- ITS FALSE NEIGHBOUR: 'it returns false'. Refute it at one input. -/
def fnExactValidWideWrong : ChangeSpec := { name := "fnExactValidWide", vars := ["loop.example/smallmachines/impl.wordTexts"], fn := fun _ => fun
  | [d, g1] => { results := [.lit (.bool false)], args := [d], vars := [g1] }
  | _ => none }
def FnExactValidWideWrongFalsely : Prop := fnExactValidWideRow.holds Tryd.pinned (OpenSpec.ofChange fnExactValidWideWrong)

/-- 'laws.FnExactRunWide': WHATEVER THE INPUT: true; the input reads as it did. -/
def fnExactRunWideSpec : ChangeSpec := { name := "fnExactRunWide", vars := ["loop.example/smallmachines/impl.wordTexts"], fn := fun _ => fun
  | [d, g1] => { results := [.lit (.bool true)], args := [d], vars := [g1] }
  | _ => none }
def fnExactRunWideRow : OpenClaim := { program := "ytjjjgjnhiffpnaadoor", sum := "14870db726070079c8787329442c5e9515a4cd15eeb69e14e62f88cab120b9ff", func := "loop.example/smallmachines/laws.FnExactRunWide", spec := "fnExactRunWide", named := ["loop.example/smallmachines/impl.wordTexts"], apart := false, laid := [("loop.example/smallmachines/impl.wordTexts", laid_loop_example_smallmachines_impl_wordTexts)] }
def FnExactRunWideSaid : Prop := fnExactRunWideRow.holds Tryd.pinned (OpenSpec.ofChange fnExactRunWideSpec)

/-- ITS FALSE NEIGHBOUR: 'it returns false'. Refute it at one input. -/
def fnExactRunWideWrong : ChangeSpec := { name := "fnExactRunWide", vars := ["loop.example/smallmachines/impl.wordTexts"], fn := fun _ => fun
  | [d, g1] => { results := [.lit (.bool false)], args := [d], vars := [g1] }
  | _ => none }
def FnExactRunWideWrongFalsely : Prop := fnExactRunWideRow.holds Tryd.pinned (OpenSpec.ofChange fnExactRunWideWrong)

/-- 'laws.FnExactLiveWide': WHATEVER THE INPUT: true; the input reads as it did. -/
def fnExactLiveWideSpec : ChangeSpec := { name := "fnExactLiveWide", vars := ["loop.example/smallmachines/impl.wordTexts"], fn := fun _ => fun
  | [d1, d2, g1] => { results := [.lit (.bool true)], args := [d1, d2], vars := [g1] }
  | _ => none }
def fnExactLiveWideRow : OpenClaim := { program := "ytjjjgjnhiffpnaadoor", sum := "14870db726070079c8787329442c5e9515a4cd15eeb69e14e62f88cab120b9ff", func := "loop.example/smallmachines/laws.FnExactLiveWide", spec := "fnExactLiveWide", unfollowed := true, recurses := true, named := ["loop.example/smallmachines/impl.wordTexts"], apart := false, laid := [("loop.example/smallmachines/impl.wordTexts", laid_loop_example_smallmachines_impl_wordTexts)] }
def FnExactLiveWideSaid : Prop := fnExactLiveWideRow.holds Tryd.pinned (OpenSpec.ofChange fnExactLiveWideSpec)

/-- ITS FALSE NEIGHBOUR: 'it returns false'. Refute it at one input. -/
def fnExactLiveWideWrong : ChangeSpec := { name := "fnExactLiveWide", vars := ["loop.example/smallmachines/impl.wordTexts"], fn := fun _ => fun
  | [d1, d2, g1] => { results := [.lit (.bool false)], args := [d1, d2], vars := [g1] }
  | _ => none }
def FnExactLiveWideWrongFalsely : Prop := fnExactLiveWideRow.holds Tryd.pinned (OpenSpec.ofChange fnExactLiveWideWrong)

/-- 'laws.FnExactWidthOf': WHATEVER THE INPUT: true; the input reads as it did. -/
def fnExactWidthOfSpec : ChangeSpec := { name := "fnExactWidthOf", vars := ["loop.example/smallmachines/impl.wordTexts"], fn := fun _ => fun
  | [d1, d2, g1] => { results := [.lit (.bool true)], args := [d1, d2], vars := [g1] }
  | _ => none }
def fnExactWidthOfRow : OpenClaim := { program := "ytjjjgjnhiffpnaadoor", sum := "14870db726070079c8787329442c5e9515a4cd15eeb69e14e62f88cab120b9ff", func := "loop.example/smallmachines/laws.FnExactWidthOf", spec := "fnExactWidthOf", unfollowed := true, recurses := true, named := ["loop.example/smallmachines/impl.wordTexts"], apart := false, laid := [("loop.example/smallmachines/impl.wordTexts", laid_loop_example_smallmachines_impl_wordTexts)] }
def FnExactWidthOfSaid : Prop := fnExactWidthOfRow.holds Tryd.pinned (OpenSpec.ofChange fnExactWidthOfSpec)

/-- ITS FALSE NEIGHBOUR: 'it returns false'. Refute it at one input. -/
def fnExactWidthOfWrong : ChangeSpec := { name := "fnExactWidthOf", vars := ["loop.example/smallmachines/impl.wordTexts"], fn := fun _ => fun
  | [d1, d2, g1] => { results := [.lit (.bool false)], args := [d1, d2], vars := [g1] }
  | _ => none }
def FnExactWidthOfWrongFalsely : Prop := fnExactWidthOfRow.holds Tryd.pinned (OpenSpec.ofChange fnExactWidthOfWrong)

/-- 'laws.FnExactPlacesFor': WHATEVER THE INPUT: true; the input reads as it did. -/
def fnExactPlacesForSpec : ChangeSpec := { name := "fnExactPlacesFor", vars := ["loop.example/smallmachines/impl.wordTexts"], fn := fun _ => fun
  | [d1, d2, g1] => { results := [.lit (.bool true)], args := [d1, d2], vars := [g1] }
  | _ => none }
def fnExactPlacesForRow : OpenClaim := { program := "ytjjjgjnhiffpnaadoor", sum := "14870db726070079c8787329442c5e9515a4cd15eeb69e14e62f88cab120b9ff", func := "loop.example/smallmachines/laws.FnExactPlacesFor", spec := "fnExactPlacesFor", unfollowed := true, recurses := true, named := ["loop.example/smallmachines/impl.wordTexts"], apart := false, laid := [("loop.example/smallmachines/impl.wordTexts", laid_loop_example_smallmachines_impl_wordTexts)] }
def FnExactPlacesForSaid : Prop := fnExactPlacesForRow.holds Tryd.pinned (OpenSpec.ofChange fnExactPlacesForSpec)

/-- ITS FALSE NEIGHBOUR: 'it returns false'. Refute it at one input. -/
def fnExactPlacesForWrong : ChangeSpec := { name := "fnExactPlacesFor", vars := ["loop.example/smallmachines/impl.wordTexts"], fn := fun _ => fun
  | [d1, d2, g1] => { results := [.lit (.bool false)], args := [d1, d2], vars := [g1] }
  | _ => none }
def FnExactPlacesForWrongFalsely : Prop := fnExactPlacesForRow.holds Tryd.pinned (OpenSpec.ofChange fnExactPlacesForWrong)

/-- 'laws.FnExactFewestRegs': WHATEVER THE INPUT: true; the input reads as it did. -/
def fnExactFewestRegsSpec : ChangeSpec := { name := "fnExactFewestRegs", vars := ["loop.example/smallmachines/impl.wordTexts"], fn := fun _ => fun
  | [d1, d2, g1] => { results := [.lit (.bool true)], args := [d1, d2], vars := [g1] }
  | _ => none }
def fnExactFewestRegsRow : OpenClaim := { program := "ytjjjgjnhiffpnaadoor", sum := "14870db726070079c8787329442c5e9515a4cd15eeb69e14e62f88cab120b9ff", func := "loop.example/smallmachines/laws.FnExactFewestRegs", spec := "fnExactFewestRegs", unfollowed := true, recurses := true, named := ["loop.example/smallmachines/impl.wordTexts"], apart := false, laid := [("loop.example/smallmachines/impl.wordTexts", laid_loop_example_smallmachines_impl_wordTexts)] }
def FnExactFewestRegsSaid : Prop := fnExactFewestRegsRow.holds Tryd.pinned (OpenSpec.ofChange fnExactFewestRegsSpec)

/-- ITS FALSE NEIGHBOUR: 'it returns false'. Refute it at one input. -/
def fnExactFewestRegsWrong : ChangeSpec := { name := "fnExactFewestRegs", vars := ["loop.example/smallmachines/impl.wordTexts"], fn := fun _ => fun
  | [d1, d2, g1] => { results := [.lit (.bool false)], args := [d1, d2], vars := [g1] }
  | _ => none }
def FnExactFewestRegsWrongFalsely : Prop := fnExactFewestRegsRow.holds Tryd.pinned (OpenSpec.ofChange fnExactFewestRegsWrong)

/-- 'laws.FnExactNarrowCode': WHATEVER THE INPUT: true; the input reads as it did. -/
def fnExactNarrowCodeSpec : ChangeSpec := { name := "fnExactNarrowCode", vars := ["loop.example/smallmachines/impl.wordTexts"], fn := fun _ => fun
  | [d1, d2, g1] => { results := [.lit (.bool true)], args := [d1, d2], vars := [g1] }
  | _ => none }
def fnExactNarrowCodeRow : OpenClaim := { program := "ytjjjgjnhiffpnaadoor", sum := "14870db726070079c8787329442c5e9515a4cd15eeb69e14e62f88cab120b9ff", func := "loop.example/smallmachines/laws.FnExactNarrowCode", spec := "fnExactNarrowCode", unfollowed := true, recurses := true, named := ["loop.example/smallmachines/impl.wordTexts"], apart := false, laid := [("loop.example/smallmachines/impl.wordTexts", laid_loop_example_smallmachines_impl_wordTexts)] }
def FnExactNarrowCodeSaid : Prop := fnExactNarrowCodeRow.holds Tryd.pinned (OpenSpec.ofChange fnExactNarrowCodeSpec)

/-- ITS FALSE NEIGHBOUR: 'it returns false'. Refute it at one input. -/
def fnExactNarrowCodeWrong : ChangeSpec := { name := "fnExactNarrowCode", vars := ["loop.example/smallmachines/impl.wordTexts"], fn := fun _ => fun
  | [d1, d2, g1] => { results := [.lit (.bool false)], args := [d1, d2], vars := [g1] }
  | _ => none }
def FnExactNarrowCodeWrongFalsely : Prop := fnExactNarrowCodeRow.holds Tryd.pinned (OpenSpec.ofChange fnExactNarrowCodeWrong)

/-- 'laws.FnExactShareWide': WHATEVER THE INPUT: true; the input reads as it did. -/
def fnExactShareWideSpec : ChangeSpec := { name := "fnExactShareWide", vars := ["loop.example/smallmachines/impl.wordTexts"], fn := fun _ => fun
  | [d, g1] => { results := [.lit (.bool true)], args := [d], vars := [g1] }
  | _ => none }
def fnExactShareWideRow : OpenClaim := { program := "ytjjjgjnhiffpnaadoor", sum := "14870db726070079c8787329442c5e9515a4cd15eeb69e14e62f88cab120b9ff", func := "loop.example/smallmachines/laws.FnExactShareWide", spec := "fnExactShareWide", named := ["loop.example/smallmachines/impl.wordTexts"], apart := false, laid := [("loop.example/smallmachines/impl.wordTexts", laid_loop_example_smallmachines_impl_wordTexts)] }
def FnExactShareWideSaid : Prop := fnExactShareWideRow.holds Tryd.pinned (OpenSpec.ofChange fnExactShareWideSpec)

/-- ITS FALSE NEIGHBOUR: 'it returns false'. Refute it at one input. -/
def fnExactShareWideWrong : ChangeSpec := { name := "fnExactShareWide", vars := ["loop.example/smallmachines/impl.wordTexts"], fn := fun _ => fun
  | [d, g1] => { results := [.lit (.bool false)], args := [d], vars := [g1] }
  | _ => none }
def FnExactShareWideWrongFalsely : Prop := fnExactShareWideRow.holds Tryd.pinned (OpenSpec.ofChange fnExactShareWideWrong)

/-- 'laws.FnValidWide': WHATEVER THE INPUT: true; the input reads as it did. -/
def fnValidWideSpec : ChangeSpec := { name := "fnValidWide", vars := ["loop.example/smallmachines/impl.wordTexts"], fn := fun _ => fun
  | [d, g1] => { results := [.lit (.bool true)], args := [d], vars := [g1] }
  | _ => none }
def fnValidWideRow : OpenClaim := { program := "ytjjjgjnhiffpnaadoor", sum := "14870db726070079c8787329442c5e9515a4cd15eeb69e14e62f88cab120b9ff", func := "loop.example/smallmachines/laws.FnValidWide", spec := "fnValidWide", named := ["loop.example/smallmachines/impl.wordTexts"], apart := false, laid := [("loop.example/smallmachines/impl.wordTexts", laid_loop_example_smallmachines_impl_wordTexts)] }
def FnValidWideSaid : Prop := fnValidWideRow.holds Tryd.pinned (OpenSpec.ofChange fnValidWideSpec)

/-- ITS FALSE NEIGHBOUR: 'it returns false'. Refute it at one input. -/
def fnValidWideWrong : ChangeSpec := { name := "fnValidWide", vars := ["loop.example/smallmachines/impl.wordTexts"], fn := fun _ => fun
  | [d, g1] => { results := [.lit (.bool false)], args := [d], vars := [g1] }
  | _ => none }
def FnValidWideWrongFalsely : Prop := fnValidWideRow.holds Tryd.pinned (OpenSpec.ofChange fnValidWideWrong)

/-- 'laws.FnRunWide': WHATEVER THE INPUT: true; the input reads as it did. -/
def fnRunWideSpec : ChangeSpec := { name := "fnRunWide", vars := ["loop.example/smallmachines/impl.wordTexts"], fn := fun _ => fun
  | [d, g1] => { results := [.lit (.bool true)], args := [d], vars := [g1] }
  | _ => none }
def fnRunWideRow : OpenClaim := { program := "ytjjjgjnhiffpnaadoor", sum := "14870db726070079c8787329442c5e9515a4cd15eeb69e14e62f88cab120b9ff", func := "loop.example/smallmachines/laws.FnRunWide", spec := "fnRunWide", named := ["loop.example/smallmachines/impl.wordTexts"], apart := false, laid := [("loop.example/smallmachines/impl.wordTexts", laid_loop_example_smallmachines_impl_wordTexts)] }
def FnRunWideSaid : Prop := fnRunWideRow.holds Tryd.pinned (OpenSpec.ofChange fnRunWideSpec)

/-- ITS FALSE NEIGHBOUR: 'it returns false'. Refute it at one input. -/
def fnRunWideWrong : ChangeSpec := { name := "fnRunWide", vars := ["loop.example/smallmachines/impl.wordTexts"], fn := fun _ => fun
  | [d, g1] => { results := [.lit (.bool false)], args := [d], vars := [g1] }
  | _ => none }
def FnRunWideWrongFalsely : Prop := fnRunWideRow.holds Tryd.pinned (OpenSpec.ofChange fnRunWideWrong)

/-- 'laws.FnLiveWide': WHATEVER THE INPUT: true; the input reads as it did. -/
def fnLiveWideSpec : ChangeSpec := { name := "fnLiveWide", vars := ["loop.example/smallmachines/impl.wordTexts"], fn := fun _ => fun
  | [d, g1] => { results := [.lit (.bool true)], args := [d], vars := [g1] }
  | _ => none }
def fnLiveWideRow : OpenClaim := { program := "ytjjjgjnhiffpnaadoor", sum := "14870db726070079c8787329442c5e9515a4cd15eeb69e14e62f88cab120b9ff", func := "loop.example/smallmachines/laws.FnLiveWide", spec := "fnLiveWide", unfollowed := true, recurses := true, named := ["loop.example/smallmachines/impl.wordTexts"], apart := false, laid := [("loop.example/smallmachines/impl.wordTexts", laid_loop_example_smallmachines_impl_wordTexts)] }
def FnLiveWideSaid : Prop := fnLiveWideRow.holds Tryd.pinned (OpenSpec.ofChange fnLiveWideSpec)

/-- ITS FALSE NEIGHBOUR: 'it returns false'. Refute it at one input. -/
def fnLiveWideWrong : ChangeSpec := { name := "fnLiveWide", vars := ["loop.example/smallmachines/impl.wordTexts"], fn := fun _ => fun
  | [d, g1] => { results := [.lit (.bool false)], args := [d], vars := [g1] }
  | _ => none }
def FnLiveWideWrongFalsely : Prop := fnLiveWideRow.holds Tryd.pinned (OpenSpec.ofChange fnLiveWideWrong)

/-- 'laws.FnShareWide': WHATEVER THE INPUT: true; the input reads as it did. -/
def fnShareWideSpec : ChangeSpec := { name := "fnShareWide", vars := ["loop.example/smallmachines/impl.wordTexts"], fn := fun _ => fun
  | [d, g1] => { results := [.lit (.bool true)], args := [d], vars := [g1] }
  | _ => none }
def fnShareWideRow : OpenClaim := { program := "ytjjjgjnhiffpnaadoor", sum := "14870db726070079c8787329442c5e9515a4cd15eeb69e14e62f88cab120b9ff", func := "loop.example/smallmachines/laws.FnShareWide", spec := "fnShareWide", named := ["loop.example/smallmachines/impl.wordTexts"], apart := false, laid := [("loop.example/smallmachines/impl.wordTexts", laid_loop_example_smallmachines_impl_wordTexts)] }
def FnShareWideSaid : Prop := fnShareWideRow.holds Tryd.pinned (OpenSpec.ofChange fnShareWideSpec)

/-- ITS FALSE NEIGHBOUR: 'it returns false'. Refute it at one input. -/
def fnShareWideWrong : ChangeSpec := { name := "fnShareWide", vars := ["loop.example/smallmachines/impl.wordTexts"], fn := fun _ => fun
  | [d, g1] => { results := [.lit (.bool false)], args := [d], vars := [g1] }
  | _ => none }
def FnShareWideWrongFalsely : Prop := fnShareWideRow.holds Tryd.pinned (OpenSpec.ofChange fnShareWideWrong)

/- THE SECOND FORM. 'bulk': how many values and letters a reading holds, each counted each time it is reached (what is shared counts as often as it is met; a slice's spare places count too). A statement '..UptoSaid' is the law's where the arguments, and the package variables that the reading takes, are together of bulk at most 1048576: NARROWER than '..Said'. Prove '..Said' where nothing that the law and all that it calls make is longer than what came in: it says more and counts as full. Else prove '..UptoSaid'. A law counts once. -/
mutual
def uptoBulk {H : Type} : DataW H → Nat
  | .lit (.string bytes) => bytes.length + 1
  | .lit _ => 1
  | .nil => 1
  | .ptr d => uptoBulk d + 1
  | .slice elems spare => uptoBulkAll elems + uptoBulkAll spare + 1
  | .agg parts => uptoBulkAll parts + 1
  | .iface _ d => uptoBulk d + 1
  | .map entries => uptoBulkEntries entries + 1
  | .held _ => 1
def uptoBulkAll {H : Type} : List (DataW H) → Nat
  | [] => 0
  | d :: r => uptoBulk d + uptoBulkAll r
def uptoBulkEntries {H : Type} : List (Lit × DataW H) → Nat
  | [] => 0
  | x :: r => uptoBulkEntry x + uptoBulkEntries r
def uptoBulkEntry {H : Type} : Lit × DataW H → Nat
  | (.string bytes, d) => bytes.length + uptoBulk d + 1
  | (_, d) => uptoBulk d + 1
 end
def uptoSmall : (H : Type) → List (DataW H) → Bool := fun _ ds => decide (uptoBulkAll ds ≤ 1048576)
def OpenSpec.upto (s : _root_.Go.ChangeSpec) : _root_.Go.OpenSpec := { _root_.Go.OpenSpec.ofChange s with cond := some uptoSmall }

/-- 'laws.FnExactValidWide', WHERE WHAT IT READS IS OF BULK AT MOST 1048576: true; the input reads as it did. -/
def fnExactValidWideUptoRow : OpenClaim := { program := "ytjjjgjnhiffpnaadoor", sum := "14870db726070079c8787329442c5e9515a4cd15eeb69e14e62f88cab120b9ff", func := "loop.example/smallmachines/laws.FnExactValidWide", spec := "fnExactValidWide", named := ["loop.example/smallmachines/impl.wordTexts"], apart := false, laid := [("loop.example/smallmachines/impl.wordTexts", laid_loop_example_smallmachines_impl_wordTexts)], narrowed := true }
def FnExactValidWideUptoSaid : Prop := fnExactValidWideUptoRow.holds Tryd.pinned (OpenSpec.upto fnExactValidWideSpec)

/-- 'laws.FnExactRunWide', WHERE WHAT IT READS IS OF BULK AT MOST 1048576: true; the input reads as it did. -/
def fnExactRunWideUptoRow : OpenClaim := { program := "ytjjjgjnhiffpnaadoor", sum := "14870db726070079c8787329442c5e9515a4cd15eeb69e14e62f88cab120b9ff", func := "loop.example/smallmachines/laws.FnExactRunWide", spec := "fnExactRunWide", named := ["loop.example/smallmachines/impl.wordTexts"], apart := false, laid := [("loop.example/smallmachines/impl.wordTexts", laid_loop_example_smallmachines_impl_wordTexts)], narrowed := true }
def FnExactRunWideUptoSaid : Prop := fnExactRunWideUptoRow.holds Tryd.pinned (OpenSpec.upto fnExactRunWideSpec)

/-- 'laws.FnExactLiveWide', WHERE WHAT IT READS IS OF BULK AT MOST 1048576: true; the input reads as it did. -/
def fnExactLiveWideUptoRow : OpenClaim := { program := "ytjjjgjnhiffpnaadoor", sum := "14870db726070079c8787329442c5e9515a4cd15eeb69e14e62f88cab120b9ff", func := "loop.example/smallmachines/laws.FnExactLiveWide", spec := "fnExactLiveWide", unfollowed := true, recurses := true, named := ["loop.example/smallmachines/impl.wordTexts"], apart := false, laid := [("loop.example/smallmachines/impl.wordTexts", laid_loop_example_smallmachines_impl_wordTexts)], narrowed := true }
def FnExactLiveWideUptoSaid : Prop := fnExactLiveWideUptoRow.holds Tryd.pinned (OpenSpec.upto fnExactLiveWideSpec)

/-- 'laws.FnExactWidthOf', WHERE WHAT IT READS IS OF BULK AT MOST 1048576: true; the input reads as it did. -/
def fnExactWidthOfUptoRow : OpenClaim := { program := "ytjjjgjnhiffpnaadoor", sum := "14870db726070079c8787329442c5e9515a4cd15eeb69e14e62f88cab120b9ff", func := "loop.example/smallmachines/laws.FnExactWidthOf", spec := "fnExactWidthOf", unfollowed := true, recurses := true, named := ["loop.example/smallmachines/impl.wordTexts"], apart := false, laid := [("loop.example/smallmachines/impl.wordTexts", laid_loop_example_smallmachines_impl_wordTexts)], narrowed := true }
def FnExactWidthOfUptoSaid : Prop := fnExactWidthOfUptoRow.holds Tryd.pinned (OpenSpec.upto fnExactWidthOfSpec)

/-- 'laws.FnExactPlacesFor', WHERE WHAT IT READS IS OF BULK AT MOST 1048576: true; the input reads as it did. -/
def fnExactPlacesForUptoRow : OpenClaim := { program := "ytjjjgjnhiffpnaadoor", sum := "14870db726070079c8787329442c5e9515a4cd15eeb69e14e62f88cab120b9ff", func := "loop.example/smallmachines/laws.FnExactPlacesFor", spec := "fnExactPlacesFor", unfollowed := true, recurses := true, named := ["loop.example/smallmachines/impl.wordTexts"], apart := false, laid := [("loop.example/smallmachines/impl.wordTexts", laid_loop_example_smallmachines_impl_wordTexts)], narrowed := true }
def FnExactPlacesForUptoSaid : Prop := fnExactPlacesForUptoRow.holds Tryd.pinned (OpenSpec.upto fnExactPlacesForSpec)

/-- 'laws.FnExactFewestRegs', WHERE WHAT IT READS IS OF BULK AT MOST 1048576: true; the input reads as it did. -/
def fnExactFewestRegsUptoRow : OpenClaim := { program := "ytjjjgjnhiffpnaadoor", sum := "14870db726070079c8787329442c5e9515a4cd15eeb69e14e62f88cab120b9ff", func := "loop.example/smallmachines/laws.FnExactFewestRegs", spec := "fnExactFewestRegs", unfollowed := true, recurses := true, named := ["loop.example/smallmachines/impl.wordTexts"], apart := false, laid := [("loop.example/smallmachines/impl.wordTexts", laid_loop_example_smallmachines_impl_wordTexts)], narrowed := true }
def FnExactFewestRegsUptoSaid : Prop := fnExactFewestRegsUptoRow.holds Tryd.pinned (OpenSpec.upto fnExactFewestRegsSpec)

/-- 'laws.FnExactNarrowCode', WHERE WHAT IT READS IS OF BULK AT MOST 1048576: true; the input reads as it did. -/
def fnExactNarrowCodeUptoRow : OpenClaim := { program := "ytjjjgjnhiffpnaadoor", sum := "14870db726070079c8787329442c5e9515a4cd15eeb69e14e62f88cab120b9ff", func := "loop.example/smallmachines/laws.FnExactNarrowCode", spec := "fnExactNarrowCode", unfollowed := true, recurses := true, named := ["loop.example/smallmachines/impl.wordTexts"], apart := false, laid := [("loop.example/smallmachines/impl.wordTexts", laid_loop_example_smallmachines_impl_wordTexts)], narrowed := true }
def FnExactNarrowCodeUptoSaid : Prop := fnExactNarrowCodeUptoRow.holds Tryd.pinned (OpenSpec.upto fnExactNarrowCodeSpec)

/-- 'laws.FnExactShareWide', WHERE WHAT IT READS IS OF BULK AT MOST 1048576: true; the input reads as it did. -/
def fnExactShareWideUptoRow : OpenClaim := { program := "ytjjjgjnhiffpnaadoor", sum := "14870db726070079c8787329442c5e9515a4cd15eeb69e14e62f88cab120b9ff", func := "loop.example/smallmachines/laws.FnExactShareWide", spec := "fnExactShareWide", named := ["loop.example/smallmachines/impl.wordTexts"], apart := false, laid := [("loop.example/smallmachines/impl.wordTexts", laid_loop_example_smallmachines_impl_wordTexts)], narrowed := true }
def FnExactShareWideUptoSaid : Prop := fnExactShareWideUptoRow.holds Tryd.pinned (OpenSpec.upto fnExactShareWideSpec)

/-- 'laws.FnValidWide', WHERE WHAT IT READS IS OF BULK AT MOST 1048576: true; the input reads as it did. -/
def fnValidWideUptoRow : OpenClaim := { program := "ytjjjgjnhiffpnaadoor", sum := "14870db726070079c8787329442c5e9515a4cd15eeb69e14e62f88cab120b9ff", func := "loop.example/smallmachines/laws.FnValidWide", spec := "fnValidWide", named := ["loop.example/smallmachines/impl.wordTexts"], apart := false, laid := [("loop.example/smallmachines/impl.wordTexts", laid_loop_example_smallmachines_impl_wordTexts)], narrowed := true }
def FnValidWideUptoSaid : Prop := fnValidWideUptoRow.holds Tryd.pinned (OpenSpec.upto fnValidWideSpec)

/-- 'laws.FnRunWide', WHERE WHAT IT READS IS OF BULK AT MOST 1048576: true; the input reads as it did. -/
def fnRunWideUptoRow : OpenClaim := { program := "ytjjjgjnhiffpnaadoor", sum := "14870db726070079c8787329442c5e9515a4cd15eeb69e14e62f88cab120b9ff", func := "loop.example/smallmachines/laws.FnRunWide", spec := "fnRunWide", named := ["loop.example/smallmachines/impl.wordTexts"], apart := false, laid := [("loop.example/smallmachines/impl.wordTexts", laid_loop_example_smallmachines_impl_wordTexts)], narrowed := true }
def FnRunWideUptoSaid : Prop := fnRunWideUptoRow.holds Tryd.pinned (OpenSpec.upto fnRunWideSpec)

/-- 'laws.FnLiveWide', WHERE WHAT IT READS IS OF BULK AT MOST 1048576: true; the input reads as it did. -/
def fnLiveWideUptoRow : OpenClaim := { program := "ytjjjgjnhiffpnaadoor", sum := "14870db726070079c8787329442c5e9515a4cd15eeb69e14e62f88cab120b9ff", func := "loop.example/smallmachines/laws.FnLiveWide", spec := "fnLiveWide", unfollowed := true, recurses := true, named := ["loop.example/smallmachines/impl.wordTexts"], apart := false, laid := [("loop.example/smallmachines/impl.wordTexts", laid_loop_example_smallmachines_impl_wordTexts)], narrowed := true }
def FnLiveWideUptoSaid : Prop := fnLiveWideUptoRow.holds Tryd.pinned (OpenSpec.upto fnLiveWideSpec)

/-- 'laws.FnShareWide', WHERE WHAT IT READS IS OF BULK AT MOST 1048576: true; the input reads as it did. -/
def fnShareWideUptoRow : OpenClaim := { program := "ytjjjgjnhiffpnaadoor", sum := "14870db726070079c8787329442c5e9515a4cd15eeb69e14e62f88cab120b9ff", func := "loop.example/smallmachines/laws.FnShareWide", spec := "fnShareWide", named := ["loop.example/smallmachines/impl.wordTexts"], apart := false, laid := [("loop.example/smallmachines/impl.wordTexts", laid_loop_example_smallmachines_impl_wordTexts)], narrowed := true }
def FnShareWideUptoSaid : Prop := fnShareWideUptoRow.holds Tryd.pinned (OpenSpec.upto fnShareWideSpec)

end Rows
end Go.Proofs.YtjjjgjnhiffpnaaDoor
