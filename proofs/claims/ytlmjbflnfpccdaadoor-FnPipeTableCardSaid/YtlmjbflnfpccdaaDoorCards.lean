/-
  DERIVED. GIVEN WITH THE SEED: THE CARDS: each row of YtlmjbflnfpccdaaDoorRows.lean that lists a variable, with what it lists TIED to the program's text (the seventh form; the later family's looks); each row that meets fmt, with fmt's text TOLD by the authors' own Lean function (tested against real Go, not proved from fmt's source: count such statements apart). THE CARD IS WHAT COUNTS. Prove the row's statement (the work); the ties are given (YtlmjbflnfpccdaaDoorTie.lean); close each card by the builder's one call (the guide's Derived/Test/ToyasCard.lean, 'card_holds'). Laid BY PROGRAM, IN A SANDBOX (cutbox-door.mjs). By AI agents, Wed Nov 11 2026. No macro, syntax, notation, axiom, sorry.
-/
import Derived.Test.YtlmjbflnfpccdaaDoorRows
import GoSem.ClaimSeven
namespace Go.Proofs.YtlmjbflnfpccdaaDoor
namespace Rows

/-- THE TIED CARD OF 'laws.FnExactPipeTicks'. -/
def fnExactPipeTicksCard : Claim7 := { stood := { row := fnExactPipeTicksRow, standIns := [], harness := (true, "74967c3d117e9114795938eb2aedea402250a0a30ffeb72f53b2e7b6e0e23e83"), looks := false }, kinds := [], alts := [], laidByText := true, laidKinds := [.data], laidTests := true, laidLooks := .later }
def FnExactPipeTicksCardSaid : Prop := Claim7.holds Tryd.pinned (.plain (OpenSpec.ofChange fnExactPipeTicksSpec)) fnExactPipeTicksCard

/-- THE TIED CARD OF 'laws.FnExactPipeTime'. -/
def fnExactPipeTimeCard : Claim7 := { stood := { row := fnExactPipeTimeRow, standIns := [], harness := (true, "74967c3d117e9114795938eb2aedea402250a0a30ffeb72f53b2e7b6e0e23e83"), looks := false }, kinds := [], alts := [], laidByText := true, laidKinds := [.data], laidTests := true, laidLooks := .later }
def FnExactPipeTimeCardSaid : Prop := Claim7.holds Tryd.pinned (.plain (OpenSpec.ofChange fnExactPipeTimeSpec)) fnExactPipeTimeCard

/-- THE TIED CARD OF 'laws.FnExactPipeTable'. -/
def fnExactPipeTableCard : Claim7 := { stood := { row := fnExactPipeTableRow, standIns := [], harness := (true, "74967c3d117e9114795938eb2aedea402250a0a30ffeb72f53b2e7b6e0e23e83"), looks := false }, kinds := [], alts := [], laidByText := true, laidKinds := [.data], laidTests := true, laidLooks := .later }
def FnExactPipeTableCardSaid : Prop := Claim7.holds Tryd.pinned (.plain (OpenSpec.ofChange fnExactPipeTableSpec)) fnExactPipeTableCard

/-- THE TIED CARD OF 'laws.FnExactStallsOf'. -/
def fnExactStallsOfCard : Claim7 := { stood := { row := fnExactStallsOfRow, standIns := [], harness := (true, "74967c3d117e9114795938eb2aedea402250a0a30ffeb72f53b2e7b6e0e23e83"), looks := false }, kinds := [], alts := [], laidByText := true, laidKinds := [.data], laidTests := true, laidLooks := .later }
def FnExactStallsOfCardSaid : Prop := Claim7.holds Tryd.pinned (.plain (OpenSpec.ofChange fnExactStallsOfSpec)) fnExactStallsOfCard

/-- THE TIED CARD OF 'laws.FnPipeTicks'. -/
def fnPipeTicksCard : Claim7 := { stood := { row := fnPipeTicksRow, standIns := [], harness := (true, "74967c3d117e9114795938eb2aedea402250a0a30ffeb72f53b2e7b6e0e23e83"), looks := false }, kinds := [], alts := [], laidByText := true, laidKinds := [.data], laidTests := true, laidLooks := .later }
def FnPipeTicksCardSaid : Prop := Claim7.holds Tryd.pinned (.plain (OpenSpec.ofChange fnPipeTicksSpec)) fnPipeTicksCard

/-- THE TIED CARD OF 'laws.FnPipeTime'. -/
def fnPipeTimeCard : Claim7 := { stood := { row := fnPipeTimeRow, standIns := [], harness := (true, "74967c3d117e9114795938eb2aedea402250a0a30ffeb72f53b2e7b6e0e23e83"), looks := false }, kinds := [], alts := [], laidByText := true, laidKinds := [.data], laidTests := true, laidLooks := .later }
def FnPipeTimeCardSaid : Prop := Claim7.holds Tryd.pinned (.plain (OpenSpec.ofChange fnPipeTimeSpec)) fnPipeTimeCard

/-- THE TIED CARD OF 'laws.FnPipeTable'. -/
def fnPipeTableCard : Claim7 := { stood := { row := fnPipeTableRow, standIns := [], harness := (true, "74967c3d117e9114795938eb2aedea402250a0a30ffeb72f53b2e7b6e0e23e83"), looks := false }, kinds := [], alts := [], laidByText := true, laidKinds := [.data], laidTests := true, laidLooks := .later }
def FnPipeTableCardSaid : Prop := Claim7.holds Tryd.pinned (.plain (OpenSpec.ofChange fnPipeTableSpec)) fnPipeTableCard

/-- THE TIED CARD OF 'laws.FnStallsOf'. -/
def fnStallsOfCard : Claim7 := { stood := { row := fnStallsOfRow, standIns := [], harness := (true, "74967c3d117e9114795938eb2aedea402250a0a30ffeb72f53b2e7b6e0e23e83"), looks := false }, kinds := [], alts := [], laidByText := true, laidKinds := [.data], laidTests := true, laidLooks := .later }
def FnStallsOfCardSaid : Prop := Claim7.holds Tryd.pinned (.plain (OpenSpec.ofChange fnStallsOfSpec)) fnStallsOfCard

/-- THE SECOND FORM's CARD OF 'laws.FnExactPipeTicks'. -/
def fnExactPipeTicksUptoCard : Claim7 := { stood := { row := fnExactPipeTicksUptoRow, standIns := [], harness := (true, "74967c3d117e9114795938eb2aedea402250a0a30ffeb72f53b2e7b6e0e23e83"), looks := false }, kinds := [], alts := [], laidByText := true, laidKinds := [.data], laidTests := true, laidLooks := .later }
def FnExactPipeTicksUptoCardSaid : Prop := Claim7.holds Tryd.pinned (.plain (OpenSpec.upto fnExactPipeTicksSpec)) fnExactPipeTicksUptoCard

/-- THE SECOND FORM's CARD OF 'laws.FnExactPipeTime'. -/
def fnExactPipeTimeUptoCard : Claim7 := { stood := { row := fnExactPipeTimeUptoRow, standIns := [], harness := (true, "74967c3d117e9114795938eb2aedea402250a0a30ffeb72f53b2e7b6e0e23e83"), looks := false }, kinds := [], alts := [], laidByText := true, laidKinds := [.data], laidTests := true, laidLooks := .later }
def FnExactPipeTimeUptoCardSaid : Prop := Claim7.holds Tryd.pinned (.plain (OpenSpec.upto fnExactPipeTimeSpec)) fnExactPipeTimeUptoCard

/-- THE SECOND FORM's CARD OF 'laws.FnExactPipeTable'. -/
def fnExactPipeTableUptoCard : Claim7 := { stood := { row := fnExactPipeTableUptoRow, standIns := [], harness := (true, "74967c3d117e9114795938eb2aedea402250a0a30ffeb72f53b2e7b6e0e23e83"), looks := false }, kinds := [], alts := [], laidByText := true, laidKinds := [.data], laidTests := true, laidLooks := .later }
def FnExactPipeTableUptoCardSaid : Prop := Claim7.holds Tryd.pinned (.plain (OpenSpec.upto fnExactPipeTableSpec)) fnExactPipeTableUptoCard

/-- THE SECOND FORM's CARD OF 'laws.FnExactStallsOf'. -/
def fnExactStallsOfUptoCard : Claim7 := { stood := { row := fnExactStallsOfUptoRow, standIns := [], harness := (true, "74967c3d117e9114795938eb2aedea402250a0a30ffeb72f53b2e7b6e0e23e83"), looks := false }, kinds := [], alts := [], laidByText := true, laidKinds := [.data], laidTests := true, laidLooks := .later }
def FnExactStallsOfUptoCardSaid : Prop := Claim7.holds Tryd.pinned (.plain (OpenSpec.upto fnExactStallsOfSpec)) fnExactStallsOfUptoCard

/-- THE SECOND FORM's CARD OF 'laws.FnPipeTicks'. -/
def fnPipeTicksUptoCard : Claim7 := { stood := { row := fnPipeTicksUptoRow, standIns := [], harness := (true, "74967c3d117e9114795938eb2aedea402250a0a30ffeb72f53b2e7b6e0e23e83"), looks := false }, kinds := [], alts := [], laidByText := true, laidKinds := [.data], laidTests := true, laidLooks := .later }
def FnPipeTicksUptoCardSaid : Prop := Claim7.holds Tryd.pinned (.plain (OpenSpec.upto fnPipeTicksSpec)) fnPipeTicksUptoCard

/-- THE SECOND FORM's CARD OF 'laws.FnPipeTime'. -/
def fnPipeTimeUptoCard : Claim7 := { stood := { row := fnPipeTimeUptoRow, standIns := [], harness := (true, "74967c3d117e9114795938eb2aedea402250a0a30ffeb72f53b2e7b6e0e23e83"), looks := false }, kinds := [], alts := [], laidByText := true, laidKinds := [.data], laidTests := true, laidLooks := .later }
def FnPipeTimeUptoCardSaid : Prop := Claim7.holds Tryd.pinned (.plain (OpenSpec.upto fnPipeTimeSpec)) fnPipeTimeUptoCard

/-- THE SECOND FORM's CARD OF 'laws.FnPipeTable'. -/
def fnPipeTableUptoCard : Claim7 := { stood := { row := fnPipeTableUptoRow, standIns := [], harness := (true, "74967c3d117e9114795938eb2aedea402250a0a30ffeb72f53b2e7b6e0e23e83"), looks := false }, kinds := [], alts := [], laidByText := true, laidKinds := [.data], laidTests := true, laidLooks := .later }
def FnPipeTableUptoCardSaid : Prop := Claim7.holds Tryd.pinned (.plain (OpenSpec.upto fnPipeTableSpec)) fnPipeTableUptoCard

/-- THE SECOND FORM's CARD OF 'laws.FnStallsOf'. -/
def fnStallsOfUptoCard : Claim7 := { stood := { row := fnStallsOfUptoRow, standIns := [], harness := (true, "74967c3d117e9114795938eb2aedea402250a0a30ffeb72f53b2e7b6e0e23e83"), looks := false }, kinds := [], alts := [], laidByText := true, laidKinds := [.data], laidTests := true, laidLooks := .later }
def FnStallsOfUptoCardSaid : Prop := Claim7.holds Tryd.pinned (.plain (OpenSpec.upto fnStallsOfSpec)) fnStallsOfUptoCard
end Rows
end Go.Proofs.YtlmjbflnfpccdaaDoor
