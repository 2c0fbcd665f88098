/-
  No cell of these rows narrows 'for every input' (looked for: loops, veiled, ifaces, maps, wideKeys, modest, calm, conditions, laid).
  DERIVED. THE GIVEN ROWS OF THIS SEAT. 10 by the template 'for every input the law returns true; each argument reads behind the call as it read before'; 0 by the template 'total and deterministic' (their statements: YtfmcmndhghfoeaaTotals.lean).
  GIVEN WITH THE SEED: the statements are not yours to turn. If you find one false, say at which input.
  Laid BY PROGRAM, IN A SANDBOX (cutbox-rows.mjs): the forced cells as the released guide's own fill.sh prints them over the translation 1f4a9a7197494379… (all of the seat's roots in one cut). By AI agents, Wed Nov 11 2026. No macro, syntax, notation, axiom, sorry.
-/
import Derived.Test.YtfmcmndhghfoeaaChecked
import GoSem.Claim
import GoSem.ClaimJoined
import GoSem.ClaimMapViews
import Derived.JoinedTies
import Derived.KernelRfl
namespace Go.Proofs.Ytfmcmndhghfoeaa
/- THE CELL 'sum', in the pinned program and in every row, IS THE sha256 OF THE DUMP (.gsa) THAT YtfmcmndhghfoeaaProg.lean LOADS. Nothing in Lean hashes anything: it is a label: what it is worth is what the hold of that sum in a sandbox is worth. -/
noncomputable def Try.pinned : Pinned := { name := "ytfmcmndhghfoeaa", sum := "1f4a9a7197494379d9fab0fab1af682c91c98dfd7d74b6329be9cecc82e149f0", checked := Try.checked }
namespace Rows
def none {H : Type} : Left H := { results := [], args := [] }

/-- 'laws.FnStillMisses': WHATEVER THE INPUT: true; the input reads as it did. -/
def fnStillMissesSpec : ChangeSpec := { name := "fnStillMisses", fn := fun _ => fun
  | [d] => { results := [.lit (.bool true)], args := [d] }
  | _ => none }
def fnStillMissesRow : OpenClaim := { program := "ytfmcmndhghfoeaa", sum := "1f4a9a7197494379d9fab0fab1af682c91c98dfd7d74b6329be9cecc82e149f0", func := "loop.example/smallmachines/laws.FnStillMisses", spec := "fnStillMisses", unfollowed := true, recurses := true, apart := false }
def FnStillMissesSaid : Prop := fnStillMissesRow.holds Try.pinned (OpenSpec.ofChange fnStillMissesSpec)

/-- ITS FALSE NEIGHBOUR: 'it returns false'. Refute it at one input. -/
def fnStillMissesWrong : ChangeSpec := { name := "fnStillMisses", fn := fun _ => fun
  | [d] => { results := [.lit (.bool false)], args := [d] }
  | _ => none }
def FnStillMissesWrongFalsely : Prop := fnStillMissesRow.holds Try.pinned (OpenSpec.ofChange fnStillMissesWrong)

/-- 'laws.FnCountMisses': WHATEVER THE INPUT: true; the input reads as it did. -/
def fnCountMissesSpec : ChangeSpec := { name := "fnCountMisses", fn := fun _ => fun
  | [d] => { results := [.lit (.bool true)], args := [d] }
  | _ => none }
def fnCountMissesRow : OpenClaim := { program := "ytfmcmndhghfoeaa", sum := "1f4a9a7197494379d9fab0fab1af682c91c98dfd7d74b6329be9cecc82e149f0", func := "loop.example/smallmachines/laws.FnCountMisses", spec := "fnCountMisses", unfollowed := true, recurses := true, apart := false }
def FnCountMissesSaid : Prop := fnCountMissesRow.holds Try.pinned (OpenSpec.ofChange fnCountMissesSpec)

/-- ITS FALSE NEIGHBOUR: 'it returns false'. Refute it at one input. -/
def fnCountMissesWrong : ChangeSpec := { name := "fnCountMisses", fn := fun _ => fun
  | [d] => { results := [.lit (.bool false)], args := [d] }
  | _ => none }
def FnCountMissesWrongFalsely : Prop := fnCountMissesRow.holds Try.pinned (OpenSpec.ofChange fnCountMissesWrong)

/-- 'laws.FnPastMisses': WHATEVER THE INPUT: true; the input reads as it did. -/
def fnPastMissesSpec : ChangeSpec := { name := "fnPastMisses", fn := fun _ => fun
  | [d] => { results := [.lit (.bool true)], args := [d] }
  | _ => none }
def fnPastMissesRow : OpenClaim := { program := "ytfmcmndhghfoeaa", sum := "1f4a9a7197494379d9fab0fab1af682c91c98dfd7d74b6329be9cecc82e149f0", func := "loop.example/smallmachines/laws.FnPastMisses", spec := "fnPastMisses", unfollowed := true, recurses := true, apart := false }
def FnPastMissesSaid : Prop := fnPastMissesRow.holds Try.pinned (OpenSpec.ofChange fnPastMissesSpec)

/-- ITS FALSE NEIGHBOUR: 'it returns false'. Refute it at one input. -/
def fnPastMissesWrong : ChangeSpec := { name := "fnPastMisses", fn := fun _ => fun
  | [d] => { results := [.lit (.bool false)], args := [d] }
  | _ => none }
def FnPastMissesWrongFalsely : Prop := fnPastMissesRow.holds Try.pinned (OpenSpec.ofChange fnPastMissesWrong)

/-- 'laws.FnChooseMisses': WHATEVER THE INPUT: true; the input reads as it did. -/
def fnChooseMissesSpec : ChangeSpec := { name := "fnChooseMisses", fn := fun _ => fun
  | [d] => { results := [.lit (.bool true)], args := [d] }
  | _ => none }
def fnChooseMissesRow : OpenClaim := { program := "ytfmcmndhghfoeaa", sum := "1f4a9a7197494379d9fab0fab1af682c91c98dfd7d74b6329be9cecc82e149f0", func := "loop.example/smallmachines/laws.FnChooseMisses", spec := "fnChooseMisses", unfollowed := true, recurses := true, apart := false }
def FnChooseMissesSaid : Prop := fnChooseMissesRow.holds Try.pinned (OpenSpec.ofChange fnChooseMissesSpec)

/-- ITS FALSE NEIGHBOUR: 'it returns false'. Refute it at one input. -/
def fnChooseMissesWrong : ChangeSpec := { name := "fnChooseMisses", fn := fun _ => fun
  | [d] => { results := [.lit (.bool false)], args := [d] }
  | _ => none }
def FnChooseMissesWrongFalsely : Prop := fnChooseMissesRow.holds Try.pinned (OpenSpec.ofChange fnChooseMissesWrong)

/-- 'laws.FnBestTable': WHATEVER THE INPUT: true; the input reads as it did. -/
def fnBestTableSpec : ChangeSpec := { name := "fnBestTable", fn := fun _ => fun
  | [d] => { results := [.lit (.bool true)], args := [d] }
  | _ => none }
def fnBestTableRow : OpenClaim := { program := "ytfmcmndhghfoeaa", sum := "1f4a9a7197494379d9fab0fab1af682c91c98dfd7d74b6329be9cecc82e149f0", func := "loop.example/smallmachines/laws.FnBestTable", spec := "fnBestTable", unfollowed := true, recurses := true, apart := false }
def FnBestTableSaid : Prop := fnBestTableRow.holds Try.pinned (OpenSpec.ofChange fnBestTableSpec)

/-- ITS FALSE NEIGHBOUR: 'it returns false'. Refute it at one input. -/
def fnBestTableWrong : ChangeSpec := { name := "fnBestTable", fn := fun _ => fun
  | [d] => { results := [.lit (.bool false)], args := [d] }
  | _ => none }
def FnBestTableWrongFalsely : Prop := fnBestTableRow.holds Try.pinned (OpenSpec.ofChange fnBestTableWrong)

/-- 'laws.FnExactStillMisses': WHATEVER THE INPUT: true; the input reads as it did. -/
def fnExactStillMissesSpec : ChangeSpec := { name := "fnExactStillMisses", fn := fun _ => fun
  | [d1, d2] => { results := [.lit (.bool true)], args := [d1, d2] }
  | _ => none }
def fnExactStillMissesRow : OpenClaim := { program := "ytfmcmndhghfoeaa", sum := "1f4a9a7197494379d9fab0fab1af682c91c98dfd7d74b6329be9cecc82e149f0", func := "loop.example/smallmachines/laws.FnExactStillMisses", spec := "fnExactStillMisses", unfollowed := true, recurses := true, apart := false }
def FnExactStillMissesSaid : Prop := fnExactStillMissesRow.holds Try.pinned (OpenSpec.ofChange fnExactStillMissesSpec)

/-- ITS FALSE NEIGHBOUR: 'it returns false'. Refute it at one input. -/
def fnExactStillMissesWrong : ChangeSpec := { name := "fnExactStillMisses", fn := fun _ => fun
  | [d1, d2] => { results := [.lit (.bool false)], args := [d1, d2] }
  | _ => none }
def FnExactStillMissesWrongFalsely : Prop := fnExactStillMissesRow.holds Try.pinned (OpenSpec.ofChange fnExactStillMissesWrong)

/-- 'laws.FnExactCountMisses': WHATEVER THE INPUT: true; the input reads as it did. -/
def fnExactCountMissesSpec : ChangeSpec := { name := "fnExactCountMisses", fn := fun _ => fun
  | [d1, d2, d3] => { results := [.lit (.bool true)], args := [d1, d2, d3] }
  | _ => none }
def fnExactCountMissesRow : OpenClaim := { program := "ytfmcmndhghfoeaa", sum := "1f4a9a7197494379d9fab0fab1af682c91c98dfd7d74b6329be9cecc82e149f0", func := "loop.example/smallmachines/laws.FnExactCountMisses", spec := "fnExactCountMisses", unfollowed := true, recurses := true, apart := false }
def FnExactCountMissesSaid : Prop := fnExactCountMissesRow.holds Try.pinned (OpenSpec.ofChange fnExactCountMissesSpec)

/-- ITS FALSE NEIGHBOUR: 'it returns false'. Refute it at one input. -/
def fnExactCountMissesWrong : ChangeSpec := { name := "fnExactCountMisses", fn := fun _ => fun
  | [d1, d2, d3] => { results := [.lit (.bool false)], args := [d1, d2, d3] }
  | _ => none }
def FnExactCountMissesWrongFalsely : Prop := fnExactCountMissesRow.holds Try.pinned (OpenSpec.ofChange fnExactCountMissesWrong)

/-- 'laws.FnExactPastMisses': WHATEVER THE INPUT: true; the input reads as it did. -/
def fnExactPastMissesSpec : ChangeSpec := { name := "fnExactPastMisses", fn := fun _ => fun
  | [d1, d2] => { results := [.lit (.bool true)], args := [d1, d2] }
  | _ => none }
def fnExactPastMissesRow : OpenClaim := { program := "ytfmcmndhghfoeaa", sum := "1f4a9a7197494379d9fab0fab1af682c91c98dfd7d74b6329be9cecc82e149f0", func := "loop.example/smallmachines/laws.FnExactPastMisses", spec := "fnExactPastMisses", unfollowed := true, recurses := true, apart := false }
def FnExactPastMissesSaid : Prop := fnExactPastMissesRow.holds Try.pinned (OpenSpec.ofChange fnExactPastMissesSpec)

/-- ITS FALSE NEIGHBOUR: 'it returns false'. Refute it at one input. -/
def fnExactPastMissesWrong : ChangeSpec := { name := "fnExactPastMisses", fn := fun _ => fun
  | [d1, d2] => { results := [.lit (.bool false)], args := [d1, d2] }
  | _ => none }
def FnExactPastMissesWrongFalsely : Prop := fnExactPastMissesRow.holds Try.pinned (OpenSpec.ofChange fnExactPastMissesWrong)

/-- 'laws.FnExactChooseMisses': WHATEVER THE INPUT: true; the input reads as it did. -/
def fnExactChooseMissesSpec : ChangeSpec := { name := "fnExactChooseMisses", fn := fun _ => fun
  | [d1, d2] => { results := [.lit (.bool true)], args := [d1, d2] }
  | _ => none }
def fnExactChooseMissesRow : OpenClaim := { program := "ytfmcmndhghfoeaa", sum := "1f4a9a7197494379d9fab0fab1af682c91c98dfd7d74b6329be9cecc82e149f0", func := "loop.example/smallmachines/laws.FnExactChooseMisses", spec := "fnExactChooseMisses", unfollowed := true, recurses := true, apart := false }
def FnExactChooseMissesSaid : Prop := fnExactChooseMissesRow.holds Try.pinned (OpenSpec.ofChange fnExactChooseMissesSpec)

/-- ITS FALSE NEIGHBOUR: 'it returns false'. Refute it at one input. -/
def fnExactChooseMissesWrong : ChangeSpec := { name := "fnExactChooseMisses", fn := fun _ => fun
  | [d1, d2] => { results := [.lit (.bool false)], args := [d1, d2] }
  | _ => none }
def FnExactChooseMissesWrongFalsely : Prop := fnExactChooseMissesRow.holds Try.pinned (OpenSpec.ofChange fnExactChooseMissesWrong)

/-- 'laws.FnExactBestTable': WHATEVER THE INPUT: true; the input reads as it did. -/
def fnExactBestTableSpec : ChangeSpec := { name := "fnExactBestTable", fn := fun _ => fun
  | [d1, d2] => { results := [.lit (.bool true)], args := [d1, d2] }
  | _ => none }
def fnExactBestTableRow : OpenClaim := { program := "ytfmcmndhghfoeaa", sum := "1f4a9a7197494379d9fab0fab1af682c91c98dfd7d74b6329be9cecc82e149f0", func := "loop.example/smallmachines/laws.FnExactBestTable", spec := "fnExactBestTable", apart := false }
def FnExactBestTableSaid : Prop := fnExactBestTableRow.holds Try.pinned (OpenSpec.ofChange fnExactBestTableSpec)

/-- ITS FALSE NEIGHBOUR: 'it returns false'. Refute it at one input. -/
def fnExactBestTableWrong : ChangeSpec := { name := "fnExactBestTable", fn := fun _ => fun
  | [d1, d2] => { results := [.lit (.bool false)], args := [d1, d2] }
  | _ => none }
def FnExactBestTableWrongFalsely : Prop := fnExactBestTableRow.holds Try.pinned (OpenSpec.ofChange fnExactBestTableWrong)

/- THE SECOND FORM. 'bulk': how many values and letters a reading holds, each counted each time it is reached (what is shared counts as often as it is met; a slice's spare places count too). A statement '..UptoSaid' is the law's where the arguments, and the package variables that the reading takes, are together of bulk at most 1048576: NARROWER than '..Said'. Prove '..Said' where nothing that the law and all that it calls make is longer than what came in: it says more and counts as full. Else prove '..UptoSaid'. A law counts once. -/
mutual
def uptoBulk {H : Type} : DataW H → Nat
  | .lit (.string bytes) => bytes.length + 1
  | .lit _ => 1
  | .nil => 1
  | .ptr d => uptoBulk d + 1
  | .slice elems spare => uptoBulkAll elems + uptoBulkAll spare + 1
  | .agg parts => uptoBulkAll parts + 1
  | .iface _ d => uptoBulk d + 1
  | .map entries => uptoBulkEntries entries + 1
  | .held _ => 1
def uptoBulkAll {H : Type} : List (DataW H) → Nat
  | [] => 0
  | d :: r => uptoBulk d + uptoBulkAll r
def uptoBulkEntries {H : Type} : List (Lit × DataW H) → Nat
  | [] => 0
  | x :: r => uptoBulkEntry x + uptoBulkEntries r
def uptoBulkEntry {H : Type} : Lit × DataW H → Nat
  | (.string bytes, d) => bytes.length + uptoBulk d + 1
  | (_, d) => uptoBulk d + 1
 end
def uptoSmall : (H : Type) → List (DataW H) → Bool := fun _ ds => decide (uptoBulkAll ds ≤ 1048576)
def OpenSpec.upto (s : _root_.Go.ChangeSpec) : _root_.Go.OpenSpec := { _root_.Go.OpenSpec.ofChange s with cond := some uptoSmall }

/-- 'laws.FnStillMisses', WHERE WHAT IT READS IS OF BULK AT MOST 1048576: true; the input reads as it did. -/
def fnStillMissesUptoRow : OpenClaim := { program := "ytfmcmndhghfoeaa", sum := "1f4a9a7197494379d9fab0fab1af682c91c98dfd7d74b6329be9cecc82e149f0", func := "loop.example/smallmachines/laws.FnStillMisses", spec := "fnStillMisses", unfollowed := true, recurses := true, apart := false, narrowed := true }
def FnStillMissesUptoSaid : Prop := fnStillMissesUptoRow.holds Try.pinned (OpenSpec.upto fnStillMissesSpec)

/-- 'laws.FnCountMisses', WHERE WHAT IT READS IS OF BULK AT MOST 1048576: true; the input reads as it did. -/
def fnCountMissesUptoRow : OpenClaim := { program := "ytfmcmndhghfoeaa", sum := "1f4a9a7197494379d9fab0fab1af682c91c98dfd7d74b6329be9cecc82e149f0", func := "loop.example/smallmachines/laws.FnCountMisses", spec := "fnCountMisses", unfollowed := true, recurses := true, apart := false, narrowed := true }
def FnCountMissesUptoSaid : Prop := fnCountMissesUptoRow.holds Try.pinned (OpenSpec.upto fnCountMissesSpec)

/-- 'laws.FnPastMisses', WHERE WHAT IT READS IS OF BULK AT MOST 1048576: true; the input reads as it did. -/
def fnPastMissesUptoRow : OpenClaim := { program := "ytfmcmndhghfoeaa", sum := "1f4a9a7197494379d9fab0fab1af682c91c98dfd7d74b6329be9cecc82e149f0", func := "loop.example/smallmachines/laws.FnPastMisses", spec := "fnPastMisses", unfollowed := true, recurses := true, apart := false, narrowed := true }
def FnPastMissesUptoSaid : Prop := fnPastMissesUptoRow.holds Try.pinned (OpenSpec.upto fnPastMissesSpec)

/-- 'laws.FnChooseMisses', WHERE WHAT IT READS IS OF BULK AT MOST 1048576: true; the input reads as it did. -/
def fnChooseMissesUptoRow : OpenClaim := { program := "ytfmcmndhghfoeaa", sum := "1f4a9a7197494379d9fab0fab1af682c91c98dfd7d74b6329be9cecc82e149f0", func := "loop.example/smallmachines/laws.FnChooseMisses", spec := "fnChooseMisses", unfollowed := true, recurses := true, apart := false, narrowed := true }
def FnChooseMissesUptoSaid : Prop := fnChooseMissesUptoRow.holds Try.pinned (OpenSpec.upto fnChooseMissesSpec)

/-- 'laws.FnBestTable', WHERE WHAT IT READS IS OF BULK AT MOST 1048576: true; the input reads as it did. -/
def fnBestTableUptoRow : OpenClaim := { program := "ytfmcmndhghfoeaa", sum := "1f4a9a7197494379d9fab0fab1af682c91c98dfd7d74b6329be9cecc82e149f0", func := "loop.example/smallmachines/laws.FnBestTable", spec := "fnBestTable", unfollowed := true, recurses := true, apart := false, narrowed := true }
def FnBestTableUptoSaid : Prop := fnBestTableUptoRow.holds Try.pinned (OpenSpec.upto fnBestTableSpec)

/-- 'laws.FnExactStillMisses', WHERE WHAT IT READS IS OF BULK AT MOST 1048576: true; the input reads as it did. -/
def fnExactStillMissesUptoRow : OpenClaim := { program := "ytfmcmndhghfoeaa", sum := "1f4a9a7197494379d9fab0fab1af682c91c98dfd7d74b6329be9cecc82e149f0", func := "loop.example/smallmachines/laws.FnExactStillMisses", spec := "fnExactStillMisses", unfollowed := true, recurses := true, apart := false, narrowed := true }
def FnExactStillMissesUptoSaid : Prop := fnExactStillMissesUptoRow.holds Try.pinned (OpenSpec.upto fnExactStillMissesSpec)

/-- 'laws.FnExactCountMisses', WHERE WHAT IT READS IS OF BULK AT MOST 1048576: true; the input reads as it did. -/
def fnExactCountMissesUptoRow : OpenClaim := { program := "ytfmcmndhghfoeaa", sum := "1f4a9a7197494379d9fab0fab1af682c91c98dfd7d74b6329be9cecc82e149f0", func := "loop.example/smallmachines/laws.FnExactCountMisses", spec := "fnExactCountMisses", unfollowed := true, recurses := true, apart := false, narrowed := true }
def FnExactCountMissesUptoSaid : Prop := fnExactCountMissesUptoRow.holds Try.pinned (OpenSpec.upto fnExactCountMissesSpec)

/-- 'laws.FnExactPastMisses', WHERE WHAT IT READS IS OF BULK AT MOST 1048576: true; the input reads as it did. -/
def fnExactPastMissesUptoRow : OpenClaim := { program := "ytfmcmndhghfoeaa", sum := "1f4a9a7197494379d9fab0fab1af682c91c98dfd7d74b6329be9cecc82e149f0", func := "loop.example/smallmachines/laws.FnExactPastMisses", spec := "fnExactPastMisses", unfollowed := true, recurses := true, apart := false, narrowed := true }
def FnExactPastMissesUptoSaid : Prop := fnExactPastMissesUptoRow.holds Try.pinned (OpenSpec.upto fnExactPastMissesSpec)

/-- 'laws.FnExactChooseMisses', WHERE WHAT IT READS IS OF BULK AT MOST 1048576: true; the input reads as it did. -/
def fnExactChooseMissesUptoRow : OpenClaim := { program := "ytfmcmndhghfoeaa", sum := "1f4a9a7197494379d9fab0fab1af682c91c98dfd7d74b6329be9cecc82e149f0", func := "loop.example/smallmachines/laws.FnExactChooseMisses", spec := "fnExactChooseMisses", unfollowed := true, recurses := true, apart := false, narrowed := true }
def FnExactChooseMissesUptoSaid : Prop := fnExactChooseMissesUptoRow.holds Try.pinned (OpenSpec.upto fnExactChooseMissesSpec)

/-- 'laws.FnExactBestTable', WHERE WHAT IT READS IS OF BULK AT MOST 1048576: true; the input reads as it did. -/
def fnExactBestTableUptoRow : OpenClaim := { program := "ytfmcmndhghfoeaa", sum := "1f4a9a7197494379d9fab0fab1af682c91c98dfd7d74b6329be9cecc82e149f0", func := "loop.example/smallmachines/laws.FnExactBestTable", spec := "fnExactBestTable", apart := false, narrowed := true }
def FnExactBestTableUptoSaid : Prop := fnExactBestTableUptoRow.holds Try.pinned (OpenSpec.upto fnExactBestTableSpec)

end Rows
end Go.Proofs.Ytfmcmndhghfoeaa
