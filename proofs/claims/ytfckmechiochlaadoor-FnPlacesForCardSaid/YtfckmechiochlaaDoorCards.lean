/-
  DERIVED. GIVEN WITH THE SEED: THE CARDS: each row of YtfckmechiochlaaDoorRows.lean that lists a variable, with what it lists TIED to the program's text (the seventh form; the later family's looks); each row that meets fmt, with fmt's text TOLD by the authors' own Lean function (tested against real Go, not proved from fmt's source: count such statements apart). THE CARD IS WHAT COUNTS. Prove the row's statement (the work); the ties are given (YtfckmechiochlaaDoorTie.lean); close each card by the builder's one call (the guide's Derived/Test/ToyasCard.lean, 'card_holds'). Laid BY PROGRAM, IN A SANDBOX (cutbox-door.mjs). By AI agents, Wed Nov 11 2026. No macro, syntax, notation, axiom, sorry.
-/
import Derived.Test.YtfckmechiochlaaDoorRows
import GoSem.ClaimSeven
namespace Go.Proofs.YtfckmechiochlaaDoor
namespace Rows

/-- THE TIED CARD OF 'laws.FnWidthOf'. -/
def fnWidthOfCard : Claim7 := { stood := { row := fnWidthOfRow, standIns := [], harness := (true, "e5833a764db907873bfe2202924058f796805c53a56be97bbc1599874009fc1d"), looks := false }, kinds := [], alts := [], laidByText := true, laidKinds := [.data], laidTests := true, laidLooks := .later }
def FnWidthOfCardSaid : Prop := Claim7.holds Tryd.pinned (.plain (OpenSpec.ofChange fnWidthOfSpec)) fnWidthOfCard

/-- THE TIED CARD OF 'laws.FnPlacesFor'. -/
def fnPlacesForCard : Claim7 := { stood := { row := fnPlacesForRow, standIns := [], harness := (true, "e5833a764db907873bfe2202924058f796805c53a56be97bbc1599874009fc1d"), looks := false }, kinds := [], alts := [], laidByText := true, laidKinds := [.data], laidTests := true, laidLooks := .later }
def FnPlacesForCardSaid : Prop := Claim7.holds Tryd.pinned (.plain (OpenSpec.ofChange fnPlacesForSpec)) fnPlacesForCard

/-- THE TIED CARD OF 'laws.FnFewestRegs'. -/
def fnFewestRegsCard : Claim7 := { stood := { row := fnFewestRegsRow, standIns := [], harness := (true, "e5833a764db907873bfe2202924058f796805c53a56be97bbc1599874009fc1d"), looks := false }, kinds := [], alts := [], laidByText := true, laidKinds := [.data], laidTests := true, laidLooks := .later }
def FnFewestRegsCardSaid : Prop := Claim7.holds Tryd.pinned (.plain (OpenSpec.ofChange fnFewestRegsSpec)) fnFewestRegsCard

/-- THE TIED CARD OF 'laws.FnNarrowCode'. -/
def fnNarrowCodeCard : Claim7 := { stood := { row := fnNarrowCodeRow, standIns := [], harness := (true, "e5833a764db907873bfe2202924058f796805c53a56be97bbc1599874009fc1d"), looks := false }, kinds := [], alts := [], laidByText := true, laidKinds := [.data], laidTests := true, laidLooks := .later }
def FnNarrowCodeCardSaid : Prop := Claim7.holds Tryd.pinned (.plain (OpenSpec.ofChange fnNarrowCodeSpec)) fnNarrowCodeCard

/-- THE TIED CARD OF 'laws.FnShareWide'. -/
def fnShareWideCard : Claim7 := { stood := { row := fnShareWideRow, standIns := [], harness := (true, "e5833a764db907873bfe2202924058f796805c53a56be97bbc1599874009fc1d"), looks := false }, kinds := [], alts := [], laidByText := true, laidKinds := [.data], laidTests := true, laidLooks := .later }
def FnShareWideCardSaid : Prop := Claim7.holds Tryd.pinned (.plain (OpenSpec.ofChange fnShareWideSpec)) fnShareWideCard

/-- THE TIED CARD OF 'laws.FnExactShareWide'. -/
def fnExactShareWideCard : Claim7 := { stood := { row := fnExactShareWideRow, standIns := [], harness := (true, "e5833a764db907873bfe2202924058f796805c53a56be97bbc1599874009fc1d"), looks := false }, kinds := [], alts := [], laidByText := true, laidKinds := [.data], laidTests := true, laidLooks := .later }
def FnExactShareWideCardSaid : Prop := Claim7.holds Tryd.pinned (.plain (OpenSpec.ofChange fnExactShareWideSpec)) fnExactShareWideCard

/-- THE SECOND FORM's CARD OF 'laws.FnWidthOf'. -/
def fnWidthOfUptoCard : Claim7 := { stood := { row := fnWidthOfUptoRow, standIns := [], harness := (true, "e5833a764db907873bfe2202924058f796805c53a56be97bbc1599874009fc1d"), looks := false }, kinds := [], alts := [], laidByText := true, laidKinds := [.data], laidTests := true, laidLooks := .later }
def FnWidthOfUptoCardSaid : Prop := Claim7.holds Tryd.pinned (.plain (OpenSpec.upto fnWidthOfSpec)) fnWidthOfUptoCard

/-- THE SECOND FORM's CARD OF 'laws.FnPlacesFor'. -/
def fnPlacesForUptoCard : Claim7 := { stood := { row := fnPlacesForUptoRow, standIns := [], harness := (true, "e5833a764db907873bfe2202924058f796805c53a56be97bbc1599874009fc1d"), looks := false }, kinds := [], alts := [], laidByText := true, laidKinds := [.data], laidTests := true, laidLooks := .later }
def FnPlacesForUptoCardSaid : Prop := Claim7.holds Tryd.pinned (.plain (OpenSpec.upto fnPlacesForSpec)) fnPlacesForUptoCard

/-- THE SECOND FORM's CARD OF 'laws.FnFewestRegs'. -/
def fnFewestRegsUptoCard : Claim7 := { stood := { row := fnFewestRegsUptoRow, standIns := [], harness := (true, "e5833a764db907873bfe2202924058f796805c53a56be97bbc1599874009fc1d"), looks := false }, kinds := [], alts := [], laidByText := true, laidKinds := [.data], laidTests := true, laidLooks := .later }
def FnFewestRegsUptoCardSaid : Prop := Claim7.holds Tryd.pinned (.plain (OpenSpec.upto fnFewestRegsSpec)) fnFewestRegsUptoCard

/-- THE SECOND FORM's CARD OF 'laws.FnNarrowCode'. -/
def fnNarrowCodeUptoCard : Claim7 := { stood := { row := fnNarrowCodeUptoRow, standIns := [], harness := (true, "e5833a764db907873bfe2202924058f796805c53a56be97bbc1599874009fc1d"), looks := false }, kinds := [], alts := [], laidByText := true, laidKinds := [.data], laidTests := true, laidLooks := .later }
def FnNarrowCodeUptoCardSaid : Prop := Claim7.holds Tryd.pinned (.plain (OpenSpec.upto fnNarrowCodeSpec)) fnNarrowCodeUptoCard

/-- THE SECOND FORM's CARD OF 'laws.FnShareWide'. -/
def fnShareWideUptoCard : Claim7 := { stood := { row := fnShareWideUptoRow, standIns := [], harness := (true, "e5833a764db907873bfe2202924058f796805c53a56be97bbc1599874009fc1d"), looks := false }, kinds := [], alts := [], laidByText := true, laidKinds := [.data], laidTests := true, laidLooks := .later }
def FnShareWideUptoCardSaid : Prop := Claim7.holds Tryd.pinned (.plain (OpenSpec.upto fnShareWideSpec)) fnShareWideUptoCard

/-- THE SECOND FORM's CARD OF 'laws.FnExactShareWide'. -/
def fnExactShareWideUptoCard : Claim7 := { stood := { row := fnExactShareWideUptoRow, standIns := [], harness := (true, "e5833a764db907873bfe2202924058f796805c53a56be97bbc1599874009fc1d"), looks := false }, kinds := [], alts := [], laidByText := true, laidKinds := [.data], laidTests := true, laidLooks := .later }
def FnExactShareWideUptoCardSaid : Prop := Claim7.holds Tryd.pinned (.plain (OpenSpec.upto fnExactShareWideSpec)) fnExactShareWideUptoCard
end Rows
end Go.Proofs.YtfckmechiochlaaDoor
