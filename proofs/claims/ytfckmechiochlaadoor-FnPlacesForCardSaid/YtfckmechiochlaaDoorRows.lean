/-
  NARROWER THAN 'FOR EVERY INPUT', by the rows' own cells (each row's printed sentence says how): FnWidthOf: laid · FnPlacesFor: laid · FnFewestRegs: laid · FnNarrowCode: laid · FnShareWide: laid · FnExactShareWide: laid.
  DERIVED. THE GIVEN ROWS OF THIS SEAT. 6 by the template 'for every input the law returns true; each argument reads behind the call as it read before'; 0 by the template 'total and deterministic' (their statements: YtfckmechiochlaaDoorTotals.lean).
  GIVEN WITH THE SEED: the statements are not yours to turn. If you find one false, say at which input.
  Laid BY PROGRAM, IN A SANDBOX (cutbox-rows.mjs): the forced cells as the released guide's own fill.sh prints them over the translation baab3307c8719960… (all of the seat's roots in one cut). By AI agents, Wed Nov 11 2026. No macro, syntax, notation, axiom, sorry.
-/
import Derived.Test.YtfckmechiochlaaDoorChecked
import GoSem.Claim
import GoSem.ClaimJoined
import GoSem.ClaimMapViews
import Derived.JoinedTies
import Derived.KernelRfl
namespace Go.Proofs.YtfckmechiochlaaDoor
/- THE CELL 'sum', in the pinned program and in every row, IS THE sha256 OF THE DUMP (.gsa) THAT YtfckmechiochlaaDoorProg.lean LOADS. Nothing in Lean hashes anything: it is a label: what it is worth is what the hold of that sum in a sandbox is worth. -/
noncomputable def Tryd.pinned : Pinned := { name := "ytfckmechiochlaadoor", sum := "baab3307c87199602d29f463e1cdcc21c96354355de2bd9e7777d1e179ba1db2", checked := Tryd.checked }
namespace Rows
def none {H : Type} : Left H := { results := [], args := [] }

/- WHAT THE LISTED PACKAGE-LEVEL VARIABLES READ AS WHEN THE CALL BEGINS. Each datum BY PROGRAM (the guide's laid-datum.mjs) off the statement by which the dump's own 'gosem.cut.vars' lays the variable. In a bare row this is a premise. The card (YtfckmechiochlaaDoorCards.lean) ties it to the program's text. -/
def laid_loop_example_smallmachines_impl_wordTexts {H : Type} : DataW H := .agg [.lit (.string [115, 101, 116]), .lit (.string [97, 100, 100]), .lit (.string [115, 117, 98]), .lit (.string [109, 117, 108]), .lit (.string [108, 116]), .lit (.string [108, 100]), .lit (.string [115, 116]), .lit (.string [98, 122]), .lit (.string [106, 109, 112]), .lit (.string [104, 108, 116])]

/-- 'laws.FnWidthOf': WHATEVER THE INPUT: true; the input reads as it did. -/
def fnWidthOfSpec : ChangeSpec := { name := "fnWidthOf", vars := ["loop.example/smallmachines/impl.wordTexts"], fn := fun _ => fun
  | [d, g1] => { results := [.lit (.bool true)], args := [d], vars := [g1] }
  | _ => none }
def fnWidthOfRow : OpenClaim := { program := "ytfckmechiochlaadoor", sum := "baab3307c87199602d29f463e1cdcc21c96354355de2bd9e7777d1e179ba1db2", func := "loop.example/smallmachines/laws.FnWidthOf", spec := "fnWidthOf", unfollowed := true, recurses := true, named := ["loop.example/smallmachines/impl.wordTexts"], apart := false, laid := [("loop.example/smallmachines/impl.wordTexts", laid_loop_example_smallmachines_impl_wordTexts)] }
def FnWidthOfSaid : Prop := fnWidthOfRow.holds Tryd.pinned (OpenSpec.ofChange fnWidthOfSpec)

/-- ITS FALSE NEIGHBOUR: 'it returns false'. Refute it at one input. -/
def fnWidthOfWrong : ChangeSpec := { name := "fnWidthOf", vars := ["loop.example/smallmachines/impl.wordTexts"], fn := fun _ => fun
  | [d, g1] => { results := [.lit (.bool false)], args := [d], vars := [g1] }
  | _ => none }
def FnWidthOfWrongFalsely : Prop := fnWidthOfRow.holds Tryd.pinned (OpenSpec.ofChange fnWidthOfWrong)

/-- 'laws.FnPlacesFor': WHATEVER THE INPUT: true; the input reads as it did. -/
def fnPlacesForSpec : ChangeSpec := { name := "fnPlacesFor", vars := ["loop.example/smallmachines/impl.wordTexts"], fn := fun _ => fun
  | [d, g1] => { results := [.lit (.bool true)], args := [d], vars := [g1] }
  | _ => none }
def fnPlacesForRow : OpenClaim := { program := "ytfckmechiochlaadoor", sum := "baab3307c87199602d29f463e1cdcc21c96354355de2bd9e7777d1e179ba1db2", func := "loop.example/smallmachines/laws.FnPlacesFor", spec := "fnPlacesFor", unfollowed := true, recurses := true, named := ["loop.example/smallmachines/impl.wordTexts"], apart := false, laid := [("loop.example/smallmachines/impl.wordTexts", laid_loop_example_smallmachines_impl_wordTexts)] }
def FnPlacesForSaid : Prop := fnPlacesForRow.holds Tryd.pinned (OpenSpec.ofChange fnPlacesForSpec)

/-- ITS FALSE NEIGHBOUR: 'it returns false'. Refute it at one input. -/
def fnPlacesForWrong : ChangeSpec := { name := "fnPlacesFor", vars := ["loop.example/smallmachines/impl.wordTexts"], fn := fun _ => fun
  | [d, g1] => { results := [.lit (.bool false)], args := [d], vars := [g1] }
  | _ => none }
def FnPlacesForWrongFalsely : Prop := fnPlacesForRow.holds Tryd.pinned (OpenSpec.ofChange fnPlacesForWrong)

/-- 'laws.FnFewestRegs': WHATEVER THE INPUT: true; the input reads as it did. -/
def fnFewestRegsSpec : ChangeSpec := { name := "fnFewestRegs", vars := ["loop.example/smallmachines/impl.wordTexts"], fn := fun _ => fun
  | [d, g1] => { results := [.lit (.bool true)], args := [d], vars := [g1] }
  | _ => none }
def fnFewestRegsRow : OpenClaim := { program := "ytfckmechiochlaadoor", sum := "baab3307c87199602d29f463e1cdcc21c96354355de2bd9e7777d1e179ba1db2", func := "loop.example/smallmachines/laws.FnFewestRegs", spec := "fnFewestRegs", unfollowed := true, recurses := true, named := ["loop.example/smallmachines/impl.wordTexts"], apart := false, laid := [("loop.example/smallmachines/impl.wordTexts", laid_loop_example_smallmachines_impl_wordTexts)] }
def FnFewestRegsSaid : Prop := fnFewestRegsRow.holds Tryd.pinned (OpenSpec.ofChange fnFewestRegsSpec)

/-- ITS FALSE NEIGHBOUR: 'it returns false'. Refute it at one input. -/
def fnFewestRegsWrong : ChangeSpec := { name := "fnFewestRegs", vars := ["loop.example/smallmachines/impl.wordTexts"], fn := fun _ => fun
  | [d, g1] => { results := [.lit (.bool false)], args := [d], vars := [g1] }
  | _ => none }
def FnFewestRegsWrongFalsely : Prop := fnFewestRegsRow.holds Tryd.pinned (OpenSpec.ofChange fnFewestRegsWrong)

/-- 'laws.FnNarrowCode': WHATEVER THE INPUT: true; the input reads as it did. -/
def fnNarrowCodeSpec : ChangeSpec := { name := "fnNarrowCode", vars := ["loop.example/smallmachines/impl.wordTexts"], fn := fun _ => fun
  | [d, g1] => { results := [.lit (.bool true)], args := [d], vars := [g1] }
  | _ => none }
def fnNarrowCodeRow : OpenClaim := { program := "ytfckmechiochlaadoor", sum := "baab3307c87199602d29f463e1cdcc21c96354355de2bd9e7777d1e179ba1db2", func := "loop.example/smallmachines/laws.FnNarrowCode", spec := "fnNarrowCode", unfollowed := true, recurses := true, named := ["loop.example/smallmachines/impl.wordTexts"], apart := false, laid := [("loop.example/smallmachines/impl.wordTexts", laid_loop_example_smallmachines_impl_wordTexts)] }
def FnNarrowCodeSaid : Prop := fnNarrowCodeRow.holds Tryd.pinned (OpenSpec.ofChange fnNarrowCodeSpec)

/-- ITS FALSE NEIGHBOUR: 'it returns false'. Refute it at one input. -/
def fnNarrowCodeWrong : ChangeSpec := { name := "fnNarrowCode", vars := ["loop.example/smallmachines/impl.wordTexts"], fn := fun _ => fun
  | [d, g1] => { results := [.lit (.bool false)], args := [d], vars := [g1] }
  | _ => none }
def FnNarrowCodeWrongFalsely : Prop := fnNarrowCodeRow.holds Tryd.pinned (OpenSpec.ofChange fnNarrowCodeWrong)

/-- 'laws.FnShareWide': WHATEVER THE INPUT: true; the input reads as it did. -/
def fnShareWideSpec : ChangeSpec := { name := "fnShareWide", vars := ["loop.example/smallmachines/impl.wordTexts"], fn := fun _ => fun
  | [d, g1] => { results := [.lit (.bool true)], args := [d], vars := [g1] }
  | _ => none }
def fnShareWideRow : OpenClaim := { program := "ytfckmechiochlaadoor", sum := "baab3307c87199602d29f463e1cdcc21c96354355de2bd9e7777d1e179ba1db2", func := "loop.example/smallmachines/laws.FnShareWide", spec := "fnShareWide", named := ["loop.example/smallmachines/impl.wordTexts"], apart := false, laid := [("loop.example/smallmachines/impl.wordTexts", laid_loop_example_smallmachines_impl_wordTexts)] }
def FnShareWideSaid : Prop := fnShareWideRow.holds Tryd.pinned (OpenSpec.ofChange fnShareWideSpec)

/-- ITS FALSE NEIGHBOUR: 'it returns false'. Refute it at one input. -/
def fnShareWideWrong : ChangeSpec := { name := "fnShareWide", vars := ["loop.example/smallmachines/impl.wordTexts"], fn := fun _ => fun
  | [d, g1] => { results := [.lit (.bool false)], args := [d], vars := [g1] }
  | _ => none }
def FnShareWideWrongFalsely : Prop := fnShareWideRow.holds Tryd.pinned (OpenSpec.ofChange fnShareWideWrong)

/-- 'laws.FnExactShareWide': WHATEVER THE INPUT: true; the input reads as it did. -/
def fnExactShareWideSpec : ChangeSpec := { name := "fnExactShareWide", vars := ["loop.example/smallmachines/impl.wordTexts"], fn := fun _ => fun
  | [d, g1] => { results := [.lit (.bool true)], args := [d], vars := [g1] }
  | _ => none }
def fnExactShareWideRow : OpenClaim := { program := "ytfckmechiochlaadoor", sum := "baab3307c87199602d29f463e1cdcc21c96354355de2bd9e7777d1e179ba1db2", func := "loop.example/smallmachines/laws.FnExactShareWide", spec := "fnExactShareWide", named := ["loop.example/smallmachines/impl.wordTexts"], apart := false, laid := [("loop.example/smallmachines/impl.wordTexts", laid_loop_example_smallmachines_impl_wordTexts)] }
def FnExactShareWideSaid : Prop := fnExactShareWideRow.holds Tryd.pinned (OpenSpec.ofChange fnExactShareWideSpec)

/-- ITS FALSE NEIGHBOUR: 'it returns false'. Refute it at one input. -/
def fnExactShareWideWrong : ChangeSpec := { name := "fnExactShareWide", vars := ["loop.example/smallmachines/impl.wordTexts"], fn := fun _ => fun
  | [d, g1] => { results := [.lit (.bool false)], args := [d], vars := [g1] }
  | _ => none }
def FnExactShareWideWrongFalsely : Prop := fnExactShareWideRow.holds Tryd.pinned (OpenSpec.ofChange fnExactShareWideWrong)

/- THE SECOND FORM. 'bulk': how many values and letters a reading holds, each counted each time it is reached (what is shared counts as often as it is met; a slice's spare places count too). A statement '..UptoSaid' is the law's where the arguments, and the package variables that the reading takes, are together of bulk at most 1048576: NARROWER than '..Said'. Prove '..Said' where nothing that the law and all that it calls make is longer than what came in: it says more and counts as full. Else prove '..UptoSaid'. A law counts once. -/
mutual
def uptoBulk {H : Type} : DataW H → Nat
  | .lit (.string bytes) => bytes.length + 1
  | .lit _ => 1
  | .nil => 1
  | .ptr d => uptoBulk d + 1
  | .slice elems spare => uptoBulkAll elems + uptoBulkAll spare + 1
  | .agg parts => uptoBulkAll parts + 1
  | .iface _ d => uptoBulk d + 1
  | .map entries => uptoBulkEntries entries + 1
  | .held _ => 1
def uptoBulkAll {H : Type} : List (DataW H) → Nat
  | [] => 0
  | d :: r => uptoBulk d + uptoBulkAll r
def uptoBulkEntries {H : Type} : List (Lit × DataW H) → Nat
  | [] => 0
  | x :: r => uptoBulkEntry x + uptoBulkEntries r
def uptoBulkEntry {H : Type} : Lit × DataW H → Nat
  | (.string bytes, d) => bytes.length + uptoBulk d + 1
  | (_, d) => uptoBulk d + 1
 end
def uptoSmall : (H : Type) → List (DataW H) → Bool := fun _ ds => decide (uptoBulkAll ds ≤ 1048576)
def OpenSpec.upto (s : _root_.Go.ChangeSpec) : _root_.Go.OpenSpec := { _root_.Go.OpenSpec.ofChange s with cond := some uptoSmall }

/-- 'laws.FnWidthOf', WHERE WHAT IT READS IS OF BULK AT MOST 1048576: true; the input reads as it did. -/
def fnWidthOfUptoRow : OpenClaim := { program := "ytfckmechiochlaadoor", sum := "baab3307c87199602d29f463e1cdcc21c96354355de2bd9e7777d1e179ba1db2", func := "loop.example/smallmachines/laws.FnWidthOf", spec := "fnWidthOf", unfollowed := true, recurses := true, named := ["loop.example/smallmachines/impl.wordTexts"], apart := false, laid := [("loop.example/smallmachines/impl.wordTexts", laid_loop_example_smallmachines_impl_wordTexts)], narrowed := true }
def FnWidthOfUptoSaid : Prop := fnWidthOfUptoRow.holds Tryd.pinned (OpenSpec.upto fnWidthOfSpec)

/-- 'laws.FnPlacesFor', WHERE WHAT IT READS IS OF BULK AT MOST 1048576: true; the input reads as it did. -/
def fnPlacesForUptoRow : OpenClaim := { program := "ytfckmechiochlaadoor", sum := "baab3307c87199602d29f463e1cdcc21c96354355de2bd9e7777d1e179ba1db2", func := "loop.example/smallmachines/laws.FnPlacesFor", spec := "fnPlacesFor", unfollowed := true, recurses := true, named := ["loop.example/smallmachines/impl.wordTexts"], apart := false, laid := [("loop.example/smallmachines/impl.wordTexts", laid_loop_example_smallmachines_impl_wordTexts)], narrowed := true }
def FnPlacesForUptoSaid : Prop := fnPlacesForUptoRow.holds Tryd.pinned (OpenSpec.upto fnPlacesForSpec)

/-- 'laws.FnFewestRegs', WHERE WHAT IT READS IS OF BULK AT MOST 1048576: true; the input reads as it did. -/
def fnFewestRegsUptoRow : OpenClaim := { program := "ytfckmechiochlaadoor", sum := "baab3307c87199602d29f463e1cdcc21c96354355de2bd9e7777d1e179ba1db2", func := "loop.example/smallmachines/laws.FnFewestRegs", spec := "fnFewestRegs", unfollowed := true, recurses := true, named := ["loop.example/smallmachines/impl.wordTexts"], apart := false, laid := [("loop.example/smallmachines/impl.wordTexts", laid_loop_example_smallmachines_impl_wordTexts)], narrowed := true }
def FnFewestRegsUptoSaid : Prop := fnFewestRegsUptoRow.holds Tryd.pinned (OpenSpec.upto fnFewestRegsSpec)

/-- 'laws.FnNarrowCode', WHERE WHAT IT READS IS OF BULK AT MOST 1048576: true; the input reads as it did. -/
def fnNarrowCodeUptoRow : OpenClaim := { program := "ytfckmechiochlaadoor", sum := "baab3307c87199602d29f463e1cdcc21c96354355de2bd9e7777d1e179ba1db2", func := "loop.example/smallmachines/laws.FnNarrowCode", spec := "fnNarrowCode", unfollowed := true, recurses := true, named := ["loop.example/smallmachines/impl.wordTexts"], apart := false, laid := [("loop.example/smallmachines/impl.wordTexts", laid_loop_example_smallmachines_impl_wordTexts)], narrowed := true }
def FnNarrowCodeUptoSaid : Prop := fnNarrowCodeUptoRow.holds Tryd.pinned (OpenSpec.upto fnNarrowCodeSpec)

/-- 'laws.FnShareWide', WHERE WHAT IT READS IS OF BULK AT MOST 1048576: true; the input reads as it did. -/
def fnShareWideUptoRow : OpenClaim := { program := "ytfckmechiochlaadoor", sum := "baab3307c87199602d29f463e1cdcc21c96354355de2bd9e7777d1e179ba1db2", func := "loop.example/smallmachines/laws.FnShareWide", spec := "fnShareWide", named := ["loop.example/smallmachines/impl.wordTexts"], apart := false, laid := [("loop.example/smallmachines/impl.wordTexts", laid_loop_example_smallmachines_impl_wordTexts)], narrowed := true }
def FnShareWideUptoSaid : Prop := fnShareWideUptoRow.holds Tryd.pinned (OpenSpec.upto fnShareWideSpec)

/-- 'laws.FnExactShareWide', WHERE WHAT IT READS IS OF BULK AT MOST 1048576: true; the input reads as it did. -/
def fnExactShareWideUptoRow : OpenClaim := { program := "ytfckmechiochlaadoor", sum := "baab3307c87199602d29f463e1cdcc21c96354355de2bd9e7777d1e179ba1db2", func := "loop.example/smallmachines/laws.FnExactShareWide", spec := "fnExactShareWide", named := ["loop.example/smallmachines/impl.wordTexts"], apart := false, laid := [("loop.example/smallmachines/impl.wordTexts", laid_loop_example_smallmachines_impl_wordTexts)], narrowed := true }
def FnExactShareWideUptoSaid : Prop := fnExactShareWideUptoRow.holds Tryd.pinned (OpenSpec.upto fnExactShareWideSpec)

end Rows
end Go.Proofs.YtfckmechiochlaaDoor
