/-
  DERIVED. GIVEN WITH THE SEED: THE CARDS: each row of YthdpicdgogpecaaDoorRows.lean that lists a variable, with what it lists TIED to the program's text (the seventh form; the later family's looks); each row that meets fmt, with fmt's text TOLD by the authors' own Lean function (tested against real Go, not proved from fmt's source: count such statements apart). THE CARD IS WHAT COUNTS. Prove the row's statement (the work); the ties are given (YthdpicdgogpecaaDoorTie.lean); close each card by the builder's one call (the guide's Derived/Test/ToyasCard.lean, 'card_holds'). Laid BY PROGRAM, IN A SANDBOX (cutbox-door.mjs). By AI agents, Wed Nov 11 2026. No macro, syntax, notation, axiom, sorry.
-/
import Derived.Test.YthdpicdgogpecaaDoorRows
import GoSem.ClaimSeven
namespace Go.Proofs.YthdpicdgogpecaaDoor
namespace Rows

/-- THE TIED CARD OF 'laws.FnExactShowInstr'. -/
def fnExactShowInstrCard : Claim7 := { stood := { row := fnExactShowInstrRow, standIns := [], harness := (true, "6ee8001fa84e48f913d50ed4b9a76b92d889c0b62c28ccebcc57061737dddda2"), looks := false }, kinds := [], alts := [], laidByText := true, laidKinds := [.data, .data, .data, .data], laidTests := true, laidLooks := .later }
def FnExactShowInstrCardSaid : Prop := Claim7.holds Tryd.pinned (.plain (OpenSpec.ofChange fnExactShowInstrSpec)) fnExactShowInstrCard

/-- THE TIED CARD OF 'laws.FnExactShowCode'. -/
def fnExactShowCodeCard : Claim7 := { stood := { row := fnExactShowCodeRow, standIns := [], harness := (true, "6ee8001fa84e48f913d50ed4b9a76b92d889c0b62c28ccebcc57061737dddda2"), looks := false }, kinds := [], alts := [], laidByText := true, laidKinds := [.data, .data, .data, .data], laidTests := true, laidLooks := .later }
def FnExactShowCodeCardSaid : Prop := Claim7.holds Tryd.pinned (.plain (OpenSpec.ofChange fnExactShowCodeSpec)) fnExactShowCodeCard

/-- THE SECOND FORM's CARD OF 'laws.FnExactShowInstr'. -/
def fnExactShowInstrUptoCard : Claim7 := { stood := { row := fnExactShowInstrUptoRow, standIns := [], harness := (true, "6ee8001fa84e48f913d50ed4b9a76b92d889c0b62c28ccebcc57061737dddda2"), looks := false }, kinds := [], alts := [], laidByText := true, laidKinds := [.data, .data, .data, .data], laidTests := true, laidLooks := .later }
def FnExactShowInstrUptoCardSaid : Prop := Claim7.holds Tryd.pinned (.plain (OpenSpec.upto fnExactShowInstrSpec)) fnExactShowInstrUptoCard

/-- THE SECOND FORM's CARD OF 'laws.FnExactShowCode'. -/
def fnExactShowCodeUptoCard : Claim7 := { stood := { row := fnExactShowCodeUptoRow, standIns := [], harness := (true, "6ee8001fa84e48f913d50ed4b9a76b92d889c0b62c28ccebcc57061737dddda2"), looks := false }, kinds := [], alts := [], laidByText := true, laidKinds := [.data, .data, .data, .data], laidTests := true, laidLooks := .later }
def FnExactShowCodeUptoCardSaid : Prop := Claim7.holds Tryd.pinned (.plain (OpenSpec.upto fnExactShowCodeSpec)) fnExactShowCodeUptoCard
end Rows
end Go.Proofs.YthdpicdgogpecaaDoor
