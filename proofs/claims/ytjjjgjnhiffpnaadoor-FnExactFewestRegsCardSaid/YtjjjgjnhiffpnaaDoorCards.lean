/-
  DERIVED. GIVEN WITH THE SEED: THE CARDS: each row of YtjjjgjnhiffpnaaDoorRows.lean that lists a variable, with what it lists TIED to the program's text (the seventh form; the later family's looks); each row that meets fmt, with fmt's text TOLD by the authors' own Lean function (tested against real Go, not proved from fmt's source: count such statements apart). THE CARD IS WHAT COUNTS. Prove the row's statement (the work); the ties are given (YtjjjgjnhiffpnaaDoorTie.lean); close each card by the builder's one call (the guide's Derived/Test/ToyasCard.lean, 'card_holds'). Laid BY PROGRAM, IN A SANDBOX (cutbox-door.mjs). By AI agents, Wed Nov 11 2026. No macro, syntax, notation, axiom, sorry.
-/
import Derived.Test.YtjjjgjnhiffpnaaDoorRows
import GoSem.ClaimSeven
namespace Go.Proofs.YtjjjgjnhiffpnaaDoor
namespace Rows

/-- THE TIED CARD OF 'laws.FnExactValidWide'. -/
def fnExactValidWideCard : Claim7 := { stood := { row := fnExactValidWideRow, standIns := [], harness := (true, "fb346c3e165936e62021bd893a868c50afaa94845a4edb64077eb1ed7e3ce536"), looks := false }, kinds := [], alts := [], laidByText := true, laidKinds := [.data], laidTests := true, laidLooks := .later }
def FnExactValidWideCardSaid : Prop := Claim7.holds Tryd.pinned (.plain (OpenSpec.ofChange fnExactValidWideSpec)) fnExactValidWideCard

/-- THE TIED CARD OF 'laws.FnExactRunWide'. -/
def fnExactRunWideCard : Claim7 := { stood := { row := fnExactRunWideRow, standIns := [], harness := (true, "fb346c3e165936e62021bd893a868c50afaa94845a4edb64077eb1ed7e3ce536"), looks := false }, kinds := [], alts := [], laidByText := true, laidKinds := [.data], laidTests := true, laidLooks := .later }
def FnExactRunWideCardSaid : Prop := Claim7.holds Tryd.pinned (.plain (OpenSpec.ofChange fnExactRunWideSpec)) fnExactRunWideCard

/-- THE TIED CARD OF 'laws.FnExactLiveWide'. -/
def fnExactLiveWideCard : Claim7 := { stood := { row := fnExactLiveWideRow, standIns := [], harness := (true, "fb346c3e165936e62021bd893a868c50afaa94845a4edb64077eb1ed7e3ce536"), looks := false }, kinds := [], alts := [], laidByText := true, laidKinds := [.data], laidTests := true, laidLooks := .later }
def FnExactLiveWideCardSaid : Prop := Claim7.holds Tryd.pinned (.plain (OpenSpec.ofChange fnExactLiveWideSpec)) fnExactLiveWideCard

/-- THE TIED CARD OF 'laws.FnExactWidthOf'. -/
def fnExactWidthOfCard : Claim7 := { stood := { row := fnExactWidthOfRow, standIns := [], harness := (true, "fb346c3e165936e62021bd893a868c50afaa94845a4edb64077eb1ed7e3ce536"), looks := false }, kinds := [], alts := [], laidByText := true, laidKinds := [.data], laidTests := true, laidLooks := .later }
def FnExactWidthOfCardSaid : Prop := Claim7.holds Tryd.pinned (.plain (OpenSpec.ofChange fnExactWidthOfSpec)) fnExactWidthOfCard

/-- THE TIED CARD OF 'laws.FnExactPlacesFor'. -/
def fnExactPlacesForCard : Claim7 := { stood := { row := fnExactPlacesForRow, standIns := [], harness := (true, "fb346c3e165936e62021bd893a868c50afaa94845a4edb64077eb1ed7e3ce536"), looks := false }, kinds := [], alts := [], laidByText := true, laidKinds := [.data], laidTests := true, laidLooks := .later }
def FnExactPlacesForCardSaid : Prop := Claim7.holds Tryd.pinned (.plain (OpenSpec.ofChange fnExactPlacesForSpec)) fnExactPlacesForCard

/-- THE TIED CARD OF 'laws.FnExactFewestRegs'. -/
def fnExactFewestRegsCard : Claim7 := { stood := { row := fnExactFewestRegsRow, standIns := [], harness := (true, "fb346c3e165936e62021bd893a868c50afaa94845a4edb64077eb1ed7e3ce536"), looks := false }, kinds := [], alts := [], laidByText := true, laidKinds := [.data], laidTests := true, laidLooks := .later }
def FnExactFewestRegsCardSaid : Prop := Claim7.holds Tryd.pinned (.plain (OpenSpec.ofChange fnExactFewestRegsSpec)) fnExactFewestRegsCard

/-- THE TIED CARD OF 'laws.FnExactNarrowCode'. -/
def fnExactNarrowCodeCard : Claim7 := { stood := { row := fnExactNarrowCodeRow, standIns := [], harness := (true, "fb346c3e165936e62021bd893a868c50afaa94845a4edb64077eb1ed7e3ce536"), looks := false }, kinds := [], alts := [], laidByText := true, laidKinds := [.data], laidTests := true, laidLooks := .later }
def FnExactNarrowCodeCardSaid : Prop := Claim7.holds Tryd.pinned (.plain (OpenSpec.ofChange fnExactNarrowCodeSpec)) fnExactNarrowCodeCard

/-- THE TIED CARD OF 'laws.FnExactShareWide'. -/
def fnExactShareWideCard : Claim7 := { stood := { row := fnExactShareWideRow, standIns := [], harness := (true, "fb346c3e165936e62021bd893a868c50afaa94845a4edb64077eb1ed7e3ce536"), looks := false }, kinds := [], alts := [], laidByText := true, laidKinds := [.data], laidTests := true, laidLooks := .later }
def FnExactShareWideCardSaid : Prop := Claim7.holds Tryd.pinned (.plain (OpenSpec.ofChange fnExactShareWideSpec)) fnExactShareWideCard

/-- THE TIED CARD OF 'laws.FnValidWide'. -/
def fnValidWideCard : Claim7 := { stood := { row := fnValidWideRow, standIns := [], harness := (true, "fb346c3e165936e62021bd893a868c50afaa94845a4edb64077eb1ed7e3ce536"), looks := false }, kinds := [], alts := [], laidByText := true, laidKinds := [.data], laidTests := true, laidLooks := .later }
def FnValidWideCardSaid : Prop := Claim7.holds Tryd.pinned (.plain (OpenSpec.ofChange fnValidWideSpec)) fnValidWideCard

/-- THE TIED CARD OF 'laws.FnRunWide'. -/
def fnRunWideCard : Claim7 := { stood := { row := fnRunWideRow, standIns := [], harness := (true, "fb346c3e165936e62021bd893a868c50afaa94845a4edb64077eb1ed7e3ce536"), looks := false }, kinds := [], alts := [], laidByText := true, laidKinds := [.data], laidTests := true, laidLooks := .later }
def FnRunWideCardSaid : Prop := Claim7.holds Tryd.pinned (.plain (OpenSpec.ofChange fnRunWideSpec)) fnRunWideCard

/-- THE TIED CARD OF 'laws.FnLiveWide'. -/
def fnLiveWideCard : Claim7 := { stood := { row := fnLiveWideRow, standIns := [], harness := (true, "fb346c3e165936e62021bd893a868c50afaa94845a4edb64077eb1ed7e3ce536"), looks := false }, kinds := [], alts := [], laidByText := true, laidKinds := [.data], laidTests := true, laidLooks := .later }
def FnLiveWideCardSaid : Prop := Claim7.holds Tryd.pinned (.plain (OpenSpec.ofChange fnLiveWideSpec)) fnLiveWideCard

/-- THE TIED CARD OF 'laws.FnShareWide'. -/
def fnShareWideCard : Claim7 := { stood := { row := fnShareWideRow, standIns := [], harness := (true, "fb346c3e165936e62021bd893a868c50afaa94845a4edb64077eb1ed7e3ce536"), looks := false }, kinds := [], alts := [], laidByText := true, laidKinds := [.data], laidTests := true, laidLooks := .later }
def FnShareWideCardSaid : Prop := Claim7.holds Tryd.pinned (.plain (OpenSpec.ofChange fnShareWideSpec)) fnShareWideCard

/-- THE SECOND FORM's CARD OF 'laws.FnExactValidWide'. -/
def fnExactValidWideUptoCard : Claim7 := { stood := { row := fnExactValidWideUptoRow, standIns := [], harness := (true, "fb346c3e165936e62021bd893a868c50afaa94845a4edb64077eb1ed7e3ce536"), looks := false }, kinds := [], alts := [], laidByText := true, laidKinds := [.data], laidTests := true, laidLooks := .later }
def FnExactValidWideUptoCardSaid : Prop := Claim7.holds Tryd.pinned (.plain (OpenSpec.upto fnExactValidWideSpec)) fnExactValidWideUptoCard

/-- THE SECOND FORM's CARD OF 'laws.FnExactRunWide'. -/
def fnExactRunWideUptoCard : Claim7 := { stood := { row := fnExactRunWideUptoRow, standIns := [], harness := (true, "fb346c3e165936e62021bd893a868c50afaa94845a4edb64077eb1ed7e3ce536"), looks := false }, kinds := [], alts := [], laidByText := true, laidKinds := [.data], laidTests := true, laidLooks := .later }
def FnExactRunWideUptoCardSaid : Prop := Claim7.holds Tryd.pinned (.plain (OpenSpec.upto fnExactRunWideSpec)) fnExactRunWideUptoCard

/-- THE SECOND FORM's CARD OF 'laws.FnExactLiveWide'. -/
def fnExactLiveWideUptoCard : Claim7 := { stood := { row := fnExactLiveWideUptoRow, standIns := [], harness := (true, "fb346c3e165936e62021bd893a868c50afaa94845a4edb64077eb1ed7e3ce536"), looks := false }, kinds := [], alts := [], laidByText := true, laidKinds := [.data], laidTests := true, laidLooks := .later }
def FnExactLiveWideUptoCardSaid : Prop := Claim7.holds Tryd.pinned (.plain (OpenSpec.upto fnExactLiveWideSpec)) fnExactLiveWideUptoCard

/-- THE SECOND FORM's CARD OF 'laws.FnExactWidthOf'. -/
def fnExactWidthOfUptoCard : Claim7 := { stood := { row := fnExactWidthOfUptoRow, standIns := [], harness := (true, "fb346c3e165936e62021bd893a868c50afaa94845a4edb64077eb1ed7e3ce536"), looks := false }, kinds := [], alts := [], laidByText := true, laidKinds := [.data], laidTests := true, laidLooks := .later }
def FnExactWidthOfUptoCardSaid : Prop := Claim7.holds Tryd.pinned (.plain (OpenSpec.upto fnExactWidthOfSpec)) fnExactWidthOfUptoCard

/-- THE SECOND FORM's CARD OF 'laws.FnExactPlacesFor'. -/
def fnExactPlacesForUptoCard : Claim7 := { stood := { row := fnExactPlacesForUptoRow, standIns := [], harness := (true, "fb346c3e165936e62021bd893a868c50afaa94845a4edb64077eb1ed7e3ce536"), looks := false }, kinds := [], alts := [], laidByText := true, laidKinds := [.data], laidTests := true, laidLooks := .later }
def FnExactPlacesForUptoCardSaid : Prop := Claim7.holds Tryd.pinned (.plain (OpenSpec.upto fnExactPlacesForSpec)) fnExactPlacesForUptoCard

/-- THE SECOND FORM's CARD OF 'laws.FnExactFewestRegs'. -/
def fnExactFewestRegsUptoCard : Claim7 := { stood := { row := fnExactFewestRegsUptoRow, standIns := [], harness := (true, "fb346c3e165936e62021bd893a868c50afaa94845a4edb64077eb1ed7e3ce536"), looks := false }, kinds := [], alts := [], laidByText := true, laidKinds := [.data], laidTests := true, laidLooks := .later }
def FnExactFewestRegsUptoCardSaid : Prop := Claim7.holds Tryd.pinned (.plain (OpenSpec.upto fnExactFewestRegsSpec)) fnExactFewestRegsUptoCard

/-- THE SECOND FORM's CARD OF 'laws.FnExactNarrowCode'. -/
def fnExactNarrowCodeUptoCard : Claim7 := { stood := { row := fnExactNarrowCodeUptoRow, standIns := [], harness := (true, "fb346c3e165936e62021bd893a868c50afaa94845a4edb64077eb1ed7e3ce536"), looks := false }, kinds := [], alts := [], laidByText := true, laidKinds := [.data], laidTests := true, laidLooks := .later }
def FnExactNarrowCodeUptoCardSaid : Prop := Claim7.holds Tryd.pinned (.plain (OpenSpec.upto fnExactNarrowCodeSpec)) fnExactNarrowCodeUptoCard

/-- THE SECOND FORM's CARD OF 'laws.FnExactShareWide'. -/
def fnExactShareWideUptoCard : Claim7 := { stood := { row := fnExactShareWideUptoRow, standIns := [], harness := (true, "fb346c3e165936e62021bd893a868c50afaa94845a4edb64077eb1ed7e3ce536"), looks := false }, kinds := [], alts := [], laidByText := true, laidKinds := [.data], laidTests := true, laidLooks := .later }
def FnExactShareWideUptoCardSaid : Prop := Claim7.holds Tryd.pinned (.plain (OpenSpec.upto fnExactShareWideSpec)) fnExactShareWideUptoCard

/-- THE SECOND FORM's CARD OF 'laws.FnValidWide'. -/
def fnValidWideUptoCard : Claim7 := { stood := { row := fnValidWideUptoRow, standIns := [], harness := (true, "fb346c3e165936e62021bd893a868c50afaa94845a4edb64077eb1ed7e3ce536"), looks := false }, kinds := [], alts := [], laidByText := true, laidKinds := [.data], laidTests := true, laidLooks := .later }
def FnValidWideUptoCardSaid : Prop := Claim7.holds Tryd.pinned (.plain (OpenSpec.upto fnValidWideSpec)) fnValidWideUptoCard

/-- THE SECOND FORM's CARD OF 'laws.FnRunWide'. -/
def fnRunWideUptoCard : Claim7 := { stood := { row := fnRunWideUptoRow, standIns := [], harness := (true, "fb346c3e165936e62021bd893a868c50afaa94845a4edb64077eb1ed7e3ce536"), looks := false }, kinds := [], alts := [], laidByText := true, laidKinds := [.data], laidTests := true, laidLooks := .later }
def FnRunWideUptoCardSaid : Prop := Claim7.holds Tryd.pinned (.plain (OpenSpec.upto fnRunWideSpec)) fnRunWideUptoCard

/-- THE SECOND FORM's CARD OF 'laws.FnLiveWide'. -/
def fnLiveWideUptoCard : Claim7 := { stood := { row := fnLiveWideUptoRow, standIns := [], harness := (true, "fb346c3e165936e62021bd893a868c50afaa94845a4edb64077eb1ed7e3ce536"), looks := false }, kinds := [], alts := [], laidByText := true, laidKinds := [.data], laidTests := true, laidLooks := .later }
def FnLiveWideUptoCardSaid : Prop := Claim7.holds Tryd.pinned (.plain (OpenSpec.upto fnLiveWideSpec)) fnLiveWideUptoCard

/-- THE SECOND FORM's CARD OF 'laws.FnShareWide'. -/
def fnShareWideUptoCard : Claim7 := { stood := { row := fnShareWideUptoRow, standIns := [], harness := (true, "fb346c3e165936e62021bd893a868c50afaa94845a4edb64077eb1ed7e3ce536"), looks := false }, kinds := [], alts := [], laidByText := true, laidKinds := [.data], laidTests := true, laidLooks := .later }
def FnShareWideUptoCardSaid : Prop := Claim7.holds Tryd.pinned (.plain (OpenSpec.upto fnShareWideSpec)) fnShareWideUptoCard
end Rows
end Go.Proofs.YtjjjgjnhiffpnaaDoor
