/-
  DERIVED. GIVEN WITH THE SEED: THE CARDS: each row of YtbdlbooooiinkaaDoorRows.lean that lists a variable, with what it lists TIED to the program's text (the seventh form; the later family's looks); each row that meets fmt, with fmt's text TOLD by the authors' own Lean function (tested against real Go, not proved from fmt's source: count such statements apart). THE CARD IS WHAT COUNTS. Prove the row's statement (the work); the ties are given (YtbdlbooooiinkaaDoorTie.lean); close each card by the builder's one call (the guide's Derived/Test/ToyasCard.lean, 'card_holds'). Laid BY PROGRAM, IN A SANDBOX (cutbox-door.mjs). By AI agents, Wed Nov 11 2026. No macro, syntax, notation, axiom, sorry.
-/
import Derived.Test.YtbdlbooooiinkaaDoorRows
import GoSem.ClaimSeven
namespace Go.Proofs.YtbdlbooooiinkaaDoor
namespace Rows

/-- THE TIED CARD OF 'laws.FnStepMachine'. -/
def fnStepMachineCard : Claim7 := { stood := { row := fnStepMachineRow, standIns := [], harness := (true, "67c422b3053c817861087609ccba399d1b94113f977e4f75e5167f8cfc7ca9ba"), looks := false }, kinds := [], alts := [], laidByText := true, laidKinds := [.data], laidTests := true, laidLooks := .later }
def FnStepMachineCardSaid : Prop := Claim7.holds Tryd.pinned (.plain (OpenSpec.ofChange fnStepMachineSpec)) fnStepMachineCard

/-- THE TIED CARD OF 'laws.FnTraceOf'. -/
def fnTraceOfCard : Claim7 := { stood := { row := fnTraceOfRow, standIns := [], harness := (true, "67c422b3053c817861087609ccba399d1b94113f977e4f75e5167f8cfc7ca9ba"), looks := false }, kinds := [], alts := [], laidByText := true, laidKinds := [.data], laidTests := true, laidLooks := .later }
def FnTraceOfCardSaid : Prop := Claim7.holds Tryd.pinned (.plain (OpenSpec.ofChange fnTraceOfSpec)) fnTraceOfCard

/-- THE TIED CARD OF 'laws.FnNextOf'. -/
def fnNextOfCard : Claim7 := { stood := { row := fnNextOfRow, standIns := [], harness := (true, "67c422b3053c817861087609ccba399d1b94113f977e4f75e5167f8cfc7ca9ba"), looks := false }, kinds := [], alts := [], laidByText := true, laidKinds := [.data], laidTests := true, laidLooks := .later }
def FnNextOfCardSaid : Prop := Claim7.holds Tryd.pinned (.plain (OpenSpec.ofChange fnNextOfSpec)) fnNextOfCard

/-- THE TIED CARD OF 'laws.FnLeadersOf'. -/
def fnLeadersOfCard : Claim7 := { stood := { row := fnLeadersOfRow, standIns := [], harness := (true, "67c422b3053c817861087609ccba399d1b94113f977e4f75e5167f8cfc7ca9ba"), looks := false }, kinds := [], alts := [], laidByText := true, laidKinds := [.data], laidTests := true, laidLooks := .later }
def FnLeadersOfCardSaid : Prop := Claim7.holds Tryd.pinned (.plain (OpenSpec.ofChange fnLeadersOfSpec)) fnLeadersOfCard

/-- THE TIED CARD OF 'laws.FnExactNextOf'. -/
def fnExactNextOfCard : Claim7 := { stood := { row := fnExactNextOfRow, standIns := [], harness := (true, "67c422b3053c817861087609ccba399d1b94113f977e4f75e5167f8cfc7ca9ba"), looks := false }, kinds := [], alts := [], laidByText := true, laidKinds := [.data], laidTests := true, laidLooks := .later }
def FnExactNextOfCardSaid : Prop := Claim7.holds Tryd.pinned (.plain (OpenSpec.ofChange fnExactNextOfSpec)) fnExactNextOfCard

/-- THE TIED CARD OF 'laws.FnExactLeadersOf'. -/
def fnExactLeadersOfCard : Claim7 := { stood := { row := fnExactLeadersOfRow, standIns := [], harness := (true, "67c422b3053c817861087609ccba399d1b94113f977e4f75e5167f8cfc7ca9ba"), looks := false }, kinds := [], alts := [], laidByText := true, laidKinds := [.data], laidTests := true, laidLooks := .later }
def FnExactLeadersOfCardSaid : Prop := Claim7.holds Tryd.pinned (.plain (OpenSpec.ofChange fnExactLeadersOfSpec)) fnExactLeadersOfCard

/-- THE SECOND FORM's CARD OF 'laws.FnStepMachine'. -/
def fnStepMachineUptoCard : Claim7 := { stood := { row := fnStepMachineUptoRow, standIns := [], harness := (true, "67c422b3053c817861087609ccba399d1b94113f977e4f75e5167f8cfc7ca9ba"), looks := false }, kinds := [], alts := [], laidByText := true, laidKinds := [.data], laidTests := true, laidLooks := .later }
def FnStepMachineUptoCardSaid : Prop := Claim7.holds Tryd.pinned (.plain (OpenSpec.upto fnStepMachineSpec)) fnStepMachineUptoCard

/-- THE SECOND FORM's CARD OF 'laws.FnTraceOf'. -/
def fnTraceOfUptoCard : Claim7 := { stood := { row := fnTraceOfUptoRow, standIns := [], harness := (true, "67c422b3053c817861087609ccba399d1b94113f977e4f75e5167f8cfc7ca9ba"), looks := false }, kinds := [], alts := [], laidByText := true, laidKinds := [.data], laidTests := true, laidLooks := .later }
def FnTraceOfUptoCardSaid : Prop := Claim7.holds Tryd.pinned (.plain (OpenSpec.upto fnTraceOfSpec)) fnTraceOfUptoCard

/-- THE SECOND FORM's CARD OF 'laws.FnNextOf'. -/
def fnNextOfUptoCard : Claim7 := { stood := { row := fnNextOfUptoRow, standIns := [], harness := (true, "67c422b3053c817861087609ccba399d1b94113f977e4f75e5167f8cfc7ca9ba"), looks := false }, kinds := [], alts := [], laidByText := true, laidKinds := [.data], laidTests := true, laidLooks := .later }
def FnNextOfUptoCardSaid : Prop := Claim7.holds Tryd.pinned (.plain (OpenSpec.upto fnNextOfSpec)) fnNextOfUptoCard

/-- THE SECOND FORM's CARD OF 'laws.FnLeadersOf'. -/
def fnLeadersOfUptoCard : Claim7 := { stood := { row := fnLeadersOfUptoRow, standIns := [], harness := (true, "67c422b3053c817861087609ccba399d1b94113f977e4f75e5167f8cfc7ca9ba"), looks := false }, kinds := [], alts := [], laidByText := true, laidKinds := [.data], laidTests := true, laidLooks := .later }
def FnLeadersOfUptoCardSaid : Prop := Claim7.holds Tryd.pinned (.plain (OpenSpec.upto fnLeadersOfSpec)) fnLeadersOfUptoCard

/-- THE SECOND FORM's CARD OF 'laws.FnExactNextOf'. -/
def fnExactNextOfUptoCard : Claim7 := { stood := { row := fnExactNextOfUptoRow, standIns := [], harness := (true, "67c422b3053c817861087609ccba399d1b94113f977e4f75e5167f8cfc7ca9ba"), looks := false }, kinds := [], alts := [], laidByText := true, laidKinds := [.data], laidTests := true, laidLooks := .later }
def FnExactNextOfUptoCardSaid : Prop := Claim7.holds Tryd.pinned (.plain (OpenSpec.upto fnExactNextOfSpec)) fnExactNextOfUptoCard

/-- THE SECOND FORM's CARD OF 'laws.FnExactLeadersOf'. -/
def fnExactLeadersOfUptoCard : Claim7 := { stood := { row := fnExactLeadersOfUptoRow, standIns := [], harness := (true, "67c422b3053c817861087609ccba399d1b94113f977e4f75e5167f8cfc7ca9ba"), looks := false }, kinds := [], alts := [], laidByText := true, laidKinds := [.data], laidTests := true, laidLooks := .later }
def FnExactLeadersOfUptoCardSaid : Prop := Claim7.holds Tryd.pinned (.plain (OpenSpec.upto fnExactLeadersOfSpec)) fnExactLeadersOfUptoCard
end Rows
end Go.Proofs.YtbdlbooooiinkaaDoor
