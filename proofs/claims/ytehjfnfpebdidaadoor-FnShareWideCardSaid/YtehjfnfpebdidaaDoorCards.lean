/-
  DERIVED. GIVEN WITH THE SEED: THE CARDS: each row of YtehjfnfpebdidaaDoorRows.lean that lists a variable, with what it lists TIED to the program's text (the seventh form; the later family's looks); each row that meets fmt, with fmt's text TOLD by the authors' own Lean function (tested against real Go, not proved from fmt's source: count such statements apart). THE CARD IS WHAT COUNTS. Prove the row's statement (the work); the ties are given (YtehjfnfpebdidaaDoorTie.lean); close each card by the builder's one call (the guide's Derived/Test/ToyasCard.lean, 'card_holds'). Laid BY PROGRAM, IN A SANDBOX (cutbox-door.mjs). By AI agents, Wed Nov 11 2026. No macro, syntax, notation, axiom, sorry.
-/
import Derived.Test.YtehjfnfpebdidaaDoorRows
import GoSem.ClaimSeven
namespace Go.Proofs.YtehjfnfpebdidaaDoor
namespace Rows

/-- THE TIED CARD OF 'laws.FnShareWide'. -/
def fnShareWideCard : Claim7 := { stood := { row := fnShareWideRow, standIns := [], harness := (true, "751f97bb6d5a8e56c232ad8bbe815634f74bd65fcca27d22a7118c65494f8040"), looks := false }, kinds := [], alts := [], laidByText := true, laidKinds := [.data], laidTests := true, laidLooks := .later }
def FnShareWideCardSaid : Prop := Claim7.holds Tryd.pinned (.plain (OpenSpec.ofChange fnShareWideSpec)) fnShareWideCard

/-- THE TIED CARD OF 'laws.FnExactShareWide'. -/
def fnExactShareWideCard : Claim7 := { stood := { row := fnExactShareWideRow, standIns := [], harness := (true, "751f97bb6d5a8e56c232ad8bbe815634f74bd65fcca27d22a7118c65494f8040"), looks := false }, kinds := [], alts := [], laidByText := true, laidKinds := [.data], laidTests := true, laidLooks := .later }
def FnExactShareWideCardSaid : Prop := Claim7.holds Tryd.pinned (.plain (OpenSpec.ofChange fnExactShareWideSpec)) fnExactShareWideCard

/-- THE SECOND FORM's CARD OF 'laws.FnShareWide'. -/
def fnShareWideUptoCard : Claim7 := { stood := { row := fnShareWideUptoRow, standIns := [], harness := (true, "751f97bb6d5a8e56c232ad8bbe815634f74bd65fcca27d22a7118c65494f8040"), looks := false }, kinds := [], alts := [], laidByText := true, laidKinds := [.data], laidTests := true, laidLooks := .later }
def FnShareWideUptoCardSaid : Prop := Claim7.holds Tryd.pinned (.plain (OpenSpec.upto fnShareWideSpec)) fnShareWideUptoCard

/-- THE SECOND FORM's CARD OF 'laws.FnExactShareWide'. -/
def fnExactShareWideUptoCard : Claim7 := { stood := { row := fnExactShareWideUptoRow, standIns := [], harness := (true, "751f97bb6d5a8e56c232ad8bbe815634f74bd65fcca27d22a7118c65494f8040"), looks := false }, kinds := [], alts := [], laidByText := true, laidKinds := [.data], laidTests := true, laidLooks := .later }
def FnExactShareWideUptoCardSaid : Prop := Claim7.holds Tryd.pinned (.plain (OpenSpec.upto fnExactShareWideSpec)) fnExactShareWideUptoCard
end Rows
end Go.Proofs.YtehjfnfpebdidaaDoor
