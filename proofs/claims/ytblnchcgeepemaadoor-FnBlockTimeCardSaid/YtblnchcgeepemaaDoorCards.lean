/-
  DERIVED. GIVEN WITH THE SEED: THE CARDS: each row of YtblnchcgeepemaaDoorRows.lean that lists a variable, with what it lists TIED to the program's text (the seventh form; the later family's looks); each row that meets fmt, with fmt's text TOLD by the authors' own Lean function (tested against real Go, not proved from fmt's source: count such statements apart). THE CARD IS WHAT COUNTS. Prove the row's statement (the work); the ties are given (YtblnchcgeepemaaDoorTie.lean); close each card by the builder's one call (the guide's Derived/Test/ToyasCard.lean, 'card_holds'). Laid BY PROGRAM, IN A SANDBOX (cutbox-door.mjs). By AI agents, Wed Nov 11 2026. No macro, syntax, notation, axiom, sorry.
-/
import Derived.Test.YtblnchcgeepemaaDoorRows
import GoSem.ClaimSeven
namespace Go.Proofs.YtblnchcgeepemaaDoor
namespace Rows

/-- THE TIED CARD OF 'laws.FnHeightsOf'. -/
def fnHeightsOfCard : Claim7 := { stood := { row := fnHeightsOfRow, standIns := [], harness := (true, "485858ae8377cbd3f6d696d329bf1c87b0835e499653a7b51e3991f4b33295a2"), looks := false }, kinds := [], alts := [], laidByText := true, laidKinds := [.data], laidTests := true, laidLooks := .later }
def FnHeightsOfCardSaid : Prop := Claim7.holds Tryd.pinned (.plain (OpenSpec.ofChange fnHeightsOfSpec)) fnHeightsOfCard

/-- THE TIED CARD OF 'laws.FnBlockTime'. -/
def fnBlockTimeCard : Claim7 := { stood := { row := fnBlockTimeRow, standIns := [], harness := (true, "485858ae8377cbd3f6d696d329bf1c87b0835e499653a7b51e3991f4b33295a2"), looks := false }, kinds := [], alts := [], laidByText := true, laidKinds := [.data], laidTests := true, laidLooks := .later }
def FnBlockTimeCardSaid : Prop := Claim7.holds Tryd.pinned (.plain (OpenSpec.ofChange fnBlockTimeSpec)) fnBlockTimeCard

/-- THE SECOND FORM's CARD OF 'laws.FnHeightsOf'. -/
def fnHeightsOfUptoCard : Claim7 := { stood := { row := fnHeightsOfUptoRow, standIns := [], harness := (true, "485858ae8377cbd3f6d696d329bf1c87b0835e499653a7b51e3991f4b33295a2"), looks := false }, kinds := [], alts := [], laidByText := true, laidKinds := [.data], laidTests := true, laidLooks := .later }
def FnHeightsOfUptoCardSaid : Prop := Claim7.holds Tryd.pinned (.plain (OpenSpec.upto fnHeightsOfSpec)) fnHeightsOfUptoCard

/-- THE SECOND FORM's CARD OF 'laws.FnBlockTime'. -/
def fnBlockTimeUptoCard : Claim7 := { stood := { row := fnBlockTimeUptoRow, standIns := [], harness := (true, "485858ae8377cbd3f6d696d329bf1c87b0835e499653a7b51e3991f4b33295a2"), looks := false }, kinds := [], alts := [], laidByText := true, laidKinds := [.data], laidTests := true, laidLooks := .later }
def FnBlockTimeUptoCardSaid : Prop := Claim7.holds Tryd.pinned (.plain (OpenSpec.upto fnBlockTimeSpec)) fnBlockTimeUptoCard
end Rows
end Go.Proofs.YtblnchcgeepemaaDoor
