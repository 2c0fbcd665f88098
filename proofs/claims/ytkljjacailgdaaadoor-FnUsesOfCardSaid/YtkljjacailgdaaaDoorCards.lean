/-
  DERIVED. GIVEN WITH THE SEED: THE CARDS: each row of YtkljjacailgdaaaDoorRows.lean that lists a variable, with what it lists TIED to the program's text (the seventh form; the later family's looks); each row that meets fmt, with fmt's text TOLD by the authors' own Lean function (tested against real Go, not proved from fmt's source: count such statements apart). THE CARD IS WHAT COUNTS. Prove the row's statement (the work); the ties are given (YtkljjacailgdaaaDoorTie.lean); close each card by the builder's one call (the guide's Derived/Test/ToyasCard.lean, 'card_holds'). Laid BY PROGRAM, IN A SANDBOX (cutbox-door.mjs). By AI agents, Wed Nov 11 2026. No macro, syntax, notation, axiom, sorry.
-/
import Derived.Test.YtkljjacailgdaaaDoorRows
import GoSem.ClaimSeven
namespace Go.Proofs.YtkljjacailgdaaaDoor
namespace Rows

/-- THE TIED CARD OF 'laws.FnUsesOf'. -/
def fnUsesOfCard : Claim7 := { stood := { row := fnUsesOfRow, standIns := [], harness := (true, "37e3b3c429d10dcb15559b54c8431e503658b73c52df346d5b59169315e02b3c"), looks := false }, kinds := [], alts := [], laidByText := true, laidKinds := [.data], laidTests := true, laidLooks := .later }
def FnUsesOfCardSaid : Prop := Claim7.holds Tryd.pinned (.plain (OpenSpec.ofChange fnUsesOfSpec)) fnUsesOfCard

/-- THE TIED CARD OF 'laws.FnRunMachine'. -/
def fnRunMachineCard : Claim7 := { stood := { row := fnRunMachineRow, standIns := [], harness := (true, "37e3b3c429d10dcb15559b54c8431e503658b73c52df346d5b59169315e02b3c"), looks := false }, kinds := [], alts := [], laidByText := true, laidKinds := [.data], laidTests := true, laidLooks := .later }
def FnRunMachineCardSaid : Prop := Claim7.holds Tryd.pinned (.plain (OpenSpec.ofChange fnRunMachineSpec)) fnRunMachineCard

/-- THE TIED CARD OF 'laws.FnJumpsOf'. -/
def fnJumpsOfCard : Claim7 := { stood := { row := fnJumpsOfRow, standIns := [], harness := (true, "37e3b3c429d10dcb15559b54c8431e503658b73c52df346d5b59169315e02b3c"), looks := false }, kinds := [], alts := [], laidByText := true, laidKinds := [.data], laidTests := true, laidLooks := .later }
def FnJumpsOfCardSaid : Prop := Claim7.holds Tryd.pinned (.plain (OpenSpec.ofChange fnJumpsOfSpec)) fnJumpsOfCard

/-- THE TIED CARD OF 'laws.FnPlacesOf'. -/
def fnPlacesOfCard : Claim7 := { stood := { row := fnPlacesOfRow, standIns := [], harness := (true, "37e3b3c429d10dcb15559b54c8431e503658b73c52df346d5b59169315e02b3c"), looks := false }, kinds := [], alts := [], laidByText := true, laidKinds := [.data], laidTests := true, laidLooks := .later }
def FnPlacesOfCardSaid : Prop := Claim7.holds Tryd.pinned (.plain (OpenSpec.ofChange fnPlacesOfSpec)) fnPlacesOfCard

/-- THE TIED CARD OF 'laws.FnExactStepMachine'. -/
def fnExactStepMachineCard : Claim7 := { stood := { row := fnExactStepMachineRow, standIns := [], harness := (true, "37e3b3c429d10dcb15559b54c8431e503658b73c52df346d5b59169315e02b3c"), looks := false }, kinds := [], alts := [], laidByText := true, laidKinds := [.data], laidTests := true, laidLooks := .later }
def FnExactStepMachineCardSaid : Prop := Claim7.holds Tryd.pinned (.plain (OpenSpec.ofChange fnExactStepMachineSpec)) fnExactStepMachineCard

/-- THE TIED CARD OF 'laws.FnExactRunMachine'. -/
def fnExactRunMachineCard : Claim7 := { stood := { row := fnExactRunMachineRow, standIns := [], harness := (true, "37e3b3c429d10dcb15559b54c8431e503658b73c52df346d5b59169315e02b3c"), looks := false }, kinds := [], alts := [], laidByText := true, laidKinds := [.data], laidTests := true, laidLooks := .later }
def FnExactRunMachineCardSaid : Prop := Claim7.holds Tryd.pinned (.plain (OpenSpec.ofChange fnExactRunMachineSpec)) fnExactRunMachineCard

/-- THE TIED CARD OF 'laws.FnExactTraceOf'. -/
def fnExactTraceOfCard : Claim7 := { stood := { row := fnExactTraceOfRow, standIns := [], harness := (true, "37e3b3c429d10dcb15559b54c8431e503658b73c52df346d5b59169315e02b3c"), looks := false }, kinds := [], alts := [], laidByText := true, laidKinds := [.data], laidTests := true, laidLooks := .later }
def FnExactTraceOfCardSaid : Prop := Claim7.holds Tryd.pinned (.plain (OpenSpec.ofChange fnExactTraceOfSpec)) fnExactTraceOfCard

/-- THE TIED CARD OF 'laws.FnExactJumpsOf'. -/
def fnExactJumpsOfCard : Claim7 := { stood := { row := fnExactJumpsOfRow, standIns := [], harness := (true, "37e3b3c429d10dcb15559b54c8431e503658b73c52df346d5b59169315e02b3c"), looks := false }, kinds := [], alts := [], laidByText := true, laidKinds := [.data], laidTests := true, laidLooks := .later }
def FnExactJumpsOfCardSaid : Prop := Claim7.holds Tryd.pinned (.plain (OpenSpec.ofChange fnExactJumpsOfSpec)) fnExactJumpsOfCard

/-- THE TIED CARD OF 'laws.FnExactPlacesOf'. -/
def fnExactPlacesOfCard : Claim7 := { stood := { row := fnExactPlacesOfRow, standIns := [], harness := (true, "37e3b3c429d10dcb15559b54c8431e503658b73c52df346d5b59169315e02b3c"), looks := false }, kinds := [], alts := [], laidByText := true, laidKinds := [.data], laidTests := true, laidLooks := .later }
def FnExactPlacesOfCardSaid : Prop := Claim7.holds Tryd.pinned (.plain (OpenSpec.ofChange fnExactPlacesOfSpec)) fnExactPlacesOfCard

/-- THE SECOND FORM's CARD OF 'laws.FnUsesOf'. -/
def fnUsesOfUptoCard : Claim7 := { stood := { row := fnUsesOfUptoRow, standIns := [], harness := (true, "37e3b3c429d10dcb15559b54c8431e503658b73c52df346d5b59169315e02b3c"), looks := false }, kinds := [], alts := [], laidByText := true, laidKinds := [.data], laidTests := true, laidLooks := .later }
def FnUsesOfUptoCardSaid : Prop := Claim7.holds Tryd.pinned (.plain (OpenSpec.upto fnUsesOfSpec)) fnUsesOfUptoCard

/-- THE SECOND FORM's CARD OF 'laws.FnRunMachine'. -/
def fnRunMachineUptoCard : Claim7 := { stood := { row := fnRunMachineUptoRow, standIns := [], harness := (true, "37e3b3c429d10dcb15559b54c8431e503658b73c52df346d5b59169315e02b3c"), looks := false }, kinds := [], alts := [], laidByText := true, laidKinds := [.data], laidTests := true, laidLooks := .later }
def FnRunMachineUptoCardSaid : Prop := Claim7.holds Tryd.pinned (.plain (OpenSpec.upto fnRunMachineSpec)) fnRunMachineUptoCard

/-- THE SECOND FORM's CARD OF 'laws.FnJumpsOf'. -/
def fnJumpsOfUptoCard : Claim7 := { stood := { row := fnJumpsOfUptoRow, standIns := [], harness := (true, "37e3b3c429d10dcb15559b54c8431e503658b73c52df346d5b59169315e02b3c"), looks := false }, kinds := [], alts := [], laidByText := true, laidKinds := [.data], laidTests := true, laidLooks := .later }
def FnJumpsOfUptoCardSaid : Prop := Claim7.holds Tryd.pinned (.plain (OpenSpec.upto fnJumpsOfSpec)) fnJumpsOfUptoCard

/-- THE SECOND FORM's CARD OF 'laws.FnPlacesOf'. -/
def fnPlacesOfUptoCard : Claim7 := { stood := { row := fnPlacesOfUptoRow, standIns := [], harness := (true, "37e3b3c429d10dcb15559b54c8431e503658b73c52df346d5b59169315e02b3c"), looks := false }, kinds := [], alts := [], laidByText := true, laidKinds := [.data], laidTests := true, laidLooks := .later }
def FnPlacesOfUptoCardSaid : Prop := Claim7.holds Tryd.pinned (.plain (OpenSpec.upto fnPlacesOfSpec)) fnPlacesOfUptoCard

/-- THE SECOND FORM's CARD OF 'laws.FnExactStepMachine'. -/
def fnExactStepMachineUptoCard : Claim7 := { stood := { row := fnExactStepMachineUptoRow, standIns := [], harness := (true, "37e3b3c429d10dcb15559b54c8431e503658b73c52df346d5b59169315e02b3c"), looks := false }, kinds := [], alts := [], laidByText := true, laidKinds := [.data], laidTests := true, laidLooks := .later }
def FnExactStepMachineUptoCardSaid : Prop := Claim7.holds Tryd.pinned (.plain (OpenSpec.upto fnExactStepMachineSpec)) fnExactStepMachineUptoCard

/-- THE SECOND FORM's CARD OF 'laws.FnExactRunMachine'. -/
def fnExactRunMachineUptoCard : Claim7 := { stood := { row := fnExactRunMachineUptoRow, standIns := [], harness := (true, "37e3b3c429d10dcb15559b54c8431e503658b73c52df346d5b59169315e02b3c"), looks := false }, kinds := [], alts := [], laidByText := true, laidKinds := [.data], laidTests := true, laidLooks := .later }
def FnExactRunMachineUptoCardSaid : Prop := Claim7.holds Tryd.pinned (.plain (OpenSpec.upto fnExactRunMachineSpec)) fnExactRunMachineUptoCard

/-- THE SECOND FORM's CARD OF 'laws.FnExactTraceOf'. -/
def fnExactTraceOfUptoCard : Claim7 := { stood := { row := fnExactTraceOfUptoRow, standIns := [], harness := (true, "37e3b3c429d10dcb15559b54c8431e503658b73c52df346d5b59169315e02b3c"), looks := false }, kinds := [], alts := [], laidByText := true, laidKinds := [.data], laidTests := true, laidLooks := .later }
def FnExactTraceOfUptoCardSaid : Prop := Claim7.holds Tryd.pinned (.plain (OpenSpec.upto fnExactTraceOfSpec)) fnExactTraceOfUptoCard

/-- THE SECOND FORM's CARD OF 'laws.FnExactJumpsOf'. -/
def fnExactJumpsOfUptoCard : Claim7 := { stood := { row := fnExactJumpsOfUptoRow, standIns := [], harness := (true, "37e3b3c429d10dcb15559b54c8431e503658b73c52df346d5b59169315e02b3c"), looks := false }, kinds := [], alts := [], laidByText := true, laidKinds := [.data], laidTests := true, laidLooks := .later }
def FnExactJumpsOfUptoCardSaid : Prop := Claim7.holds Tryd.pinned (.plain (OpenSpec.upto fnExactJumpsOfSpec)) fnExactJumpsOfUptoCard

/-- THE SECOND FORM's CARD OF 'laws.FnExactPlacesOf'. -/
def fnExactPlacesOfUptoCard : Claim7 := { stood := { row := fnExactPlacesOfUptoRow, standIns := [], harness := (true, "37e3b3c429d10dcb15559b54c8431e503658b73c52df346d5b59169315e02b3c"), looks := false }, kinds := [], alts := [], laidByText := true, laidKinds := [.data], laidTests := true, laidLooks := .later }
def FnExactPlacesOfUptoCardSaid : Prop := Claim7.holds Tryd.pinned (.plain (OpenSpec.upto fnExactPlacesOfSpec)) fnExactPlacesOfUptoCard
end Rows
end Go.Proofs.YtkljjacailgdaaaDoor
