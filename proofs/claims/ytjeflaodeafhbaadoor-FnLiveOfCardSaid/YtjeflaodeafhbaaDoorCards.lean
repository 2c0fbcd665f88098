/-
  DERIVED. GIVEN WITH THE SEED: THE CARDS: each row of YtjeflaodeafhbaaDoorRows.lean that lists a variable, with what it lists TIED to the program's text (the seventh form; the later family's looks); each row that meets fmt, with fmt's text TOLD by the authors' own Lean function (tested against real Go, not proved from fmt's source: count such statements apart). THE CARD IS WHAT COUNTS. Prove the row's statement (the work); the ties are given (YtjeflaodeafhbaaDoorTie.lean); close each card by the builder's one call (the guide's Derived/Test/ToyasCard.lean, 'card_holds'). Laid BY PROGRAM, IN A SANDBOX (cutbox-door.mjs). By AI agents, Wed Nov 11 2026. No macro, syntax, notation, axiom, sorry.
-/
import Derived.Test.YtjeflaodeafhbaaDoorRows
import GoSem.ClaimSeven
namespace Go.Proofs.YtjeflaodeafhbaaDoor
namespace Rows

/-- THE TIED CARD OF 'laws.FnLiveOf'. -/
def fnLiveOfCard : Claim7 := { stood := { row := fnLiveOfRow, standIns := [], harness := (true, "2fec65129f6fe3b18bccae6d185e06afcc41d8fc719c707b1950412a1ded7394"), looks := true }, kinds := [], alts := [], laidByText := true, laidKinds := [.data], laidTests := true, laidLooks := .later }
def FnLiveOfCardSaid : Prop := Claim7.holds Tryd.pinned (.plain (OpenSpec.ofChange fnLiveOfSpec)) fnLiveOfCard

/-- THE TIED CARD OF 'laws.FnDropDead'. -/
def fnDropDeadCard : Claim7 := { stood := { row := fnDropDeadRow, standIns := [], harness := (true, "2fec65129f6fe3b18bccae6d185e06afcc41d8fc719c707b1950412a1ded7394"), looks := true }, kinds := [], alts := [], laidByText := true, laidKinds := [.data], laidTests := true, laidLooks := .later }
def FnDropDeadCardSaid : Prop := Claim7.holds Tryd.pinned (.plain (OpenSpec.ofChange fnDropDeadSpec)) fnDropDeadCard

/-- THE TIED CARD OF 'laws.FnShrinkCode'. -/
def fnShrinkCodeCard : Claim7 := { stood := { row := fnShrinkCodeRow, standIns := [], harness := (true, "2fec65129f6fe3b18bccae6d185e06afcc41d8fc719c707b1950412a1ded7394"), looks := true }, kinds := [], alts := [], laidByText := true, laidKinds := [.data], laidTests := true, laidLooks := .later }
def FnShrinkCodeCardSaid : Prop := Claim7.holds Tryd.pinned (.plain (OpenSpec.ofChange fnShrinkCodeSpec)) fnShrinkCodeCard

/-- THE TIED CARD OF 'laws.FnSkipCode'. -/
def fnSkipCodeCard : Claim7 := { stood := { row := fnSkipCodeRow, standIns := [], harness := (true, "2fec65129f6fe3b18bccae6d185e06afcc41d8fc719c707b1950412a1ded7394"), looks := true }, kinds := [], alts := [], laidByText := true, laidKinds := [.data], laidTests := true, laidLooks := .later }
def FnSkipCodeCardSaid : Prop := Claim7.holds Tryd.pinned (.plain (OpenSpec.ofChange fnSkipCodeSpec)) fnSkipCodeCard

/-- THE TIED CARD OF 'laws.FnKnownAt'. -/
def fnKnownAtCard : Claim7 := { stood := { row := fnKnownAtRow, standIns := [], harness := (true, "2fec65129f6fe3b18bccae6d185e06afcc41d8fc719c707b1950412a1ded7394"), looks := true }, kinds := [], alts := [], laidByText := true, laidKinds := [.data], laidTests := true, laidLooks := .later }
def FnKnownAtCardSaid : Prop := Claim7.holds Tryd.pinned (.plain (OpenSpec.ofChange fnKnownAtSpec)) fnKnownAtCard

/-- THE TIED CARD OF 'laws.FnFoldCode'. -/
def fnFoldCodeCard : Claim7 := { stood := { row := fnFoldCodeRow, standIns := [], harness := (true, "2fec65129f6fe3b18bccae6d185e06afcc41d8fc719c707b1950412a1ded7394"), looks := true }, kinds := [], alts := [], laidByText := true, laidKinds := [.data], laidTests := true, laidLooks := .later }
def FnFoldCodeCardSaid : Prop := Claim7.holds Tryd.pinned (.plain (OpenSpec.ofChange fnFoldCodeSpec)) fnFoldCodeCard

/-- THE TIED CARD OF 'laws.FnBetterCode'. -/
def fnBetterCodeCard : Claim7 := { stood := { row := fnBetterCodeRow, standIns := [], harness := (true, "2fec65129f6fe3b18bccae6d185e06afcc41d8fc719c707b1950412a1ded7394"), looks := true }, kinds := [], alts := [], laidByText := true, laidKinds := [.data], laidTests := true, laidLooks := .later }
def FnBetterCodeCardSaid : Prop := Claim7.holds Tryd.pinned (.plain (OpenSpec.ofChange fnBetterCodeSpec)) fnBetterCodeCard

/-- THE SECOND FORM's CARD OF 'laws.FnLiveOf'. -/
def fnLiveOfUptoCard : Claim7 := { stood := { row := fnLiveOfUptoRow, standIns := [], harness := (true, "2fec65129f6fe3b18bccae6d185e06afcc41d8fc719c707b1950412a1ded7394"), looks := true }, kinds := [], alts := [], laidByText := true, laidKinds := [.data], laidTests := true, laidLooks := .later }
def FnLiveOfUptoCardSaid : Prop := Claim7.holds Tryd.pinned (.plain (OpenSpec.upto fnLiveOfSpec)) fnLiveOfUptoCard

/-- THE SECOND FORM's CARD OF 'laws.FnDropDead'. -/
def fnDropDeadUptoCard : Claim7 := { stood := { row := fnDropDeadUptoRow, standIns := [], harness := (true, "2fec65129f6fe3b18bccae6d185e06afcc41d8fc719c707b1950412a1ded7394"), looks := true }, kinds := [], alts := [], laidByText := true, laidKinds := [.data], laidTests := true, laidLooks := .later }
def FnDropDeadUptoCardSaid : Prop := Claim7.holds Tryd.pinned (.plain (OpenSpec.upto fnDropDeadSpec)) fnDropDeadUptoCard

/-- THE SECOND FORM's CARD OF 'laws.FnShrinkCode'. -/
def fnShrinkCodeUptoCard : Claim7 := { stood := { row := fnShrinkCodeUptoRow, standIns := [], harness := (true, "2fec65129f6fe3b18bccae6d185e06afcc41d8fc719c707b1950412a1ded7394"), looks := true }, kinds := [], alts := [], laidByText := true, laidKinds := [.data], laidTests := true, laidLooks := .later }
def FnShrinkCodeUptoCardSaid : Prop := Claim7.holds Tryd.pinned (.plain (OpenSpec.upto fnShrinkCodeSpec)) fnShrinkCodeUptoCard

/-- THE SECOND FORM's CARD OF 'laws.FnSkipCode'. -/
def fnSkipCodeUptoCard : Claim7 := { stood := { row := fnSkipCodeUptoRow, standIns := [], harness := (true, "2fec65129f6fe3b18bccae6d185e06afcc41d8fc719c707b1950412a1ded7394"), looks := true }, kinds := [], alts := [], laidByText := true, laidKinds := [.data], laidTests := true, laidLooks := .later }
def FnSkipCodeUptoCardSaid : Prop := Claim7.holds Tryd.pinned (.plain (OpenSpec.upto fnSkipCodeSpec)) fnSkipCodeUptoCard

/-- THE SECOND FORM's CARD OF 'laws.FnKnownAt'. -/
def fnKnownAtUptoCard : Claim7 := { stood := { row := fnKnownAtUptoRow, standIns := [], harness := (true, "2fec65129f6fe3b18bccae6d185e06afcc41d8fc719c707b1950412a1ded7394"), looks := true }, kinds := [], alts := [], laidByText := true, laidKinds := [.data], laidTests := true, laidLooks := .later }
def FnKnownAtUptoCardSaid : Prop := Claim7.holds Tryd.pinned (.plain (OpenSpec.upto fnKnownAtSpec)) fnKnownAtUptoCard

/-- THE SECOND FORM's CARD OF 'laws.FnFoldCode'. -/
def fnFoldCodeUptoCard : Claim7 := { stood := { row := fnFoldCodeUptoRow, standIns := [], harness := (true, "2fec65129f6fe3b18bccae6d185e06afcc41d8fc719c707b1950412a1ded7394"), looks := true }, kinds := [], alts := [], laidByText := true, laidKinds := [.data], laidTests := true, laidLooks := .later }
def FnFoldCodeUptoCardSaid : Prop := Claim7.holds Tryd.pinned (.plain (OpenSpec.upto fnFoldCodeSpec)) fnFoldCodeUptoCard

/-- THE SECOND FORM's CARD OF 'laws.FnBetterCode'. -/
def fnBetterCodeUptoCard : Claim7 := { stood := { row := fnBetterCodeUptoRow, standIns := [], harness := (true, "2fec65129f6fe3b18bccae6d185e06afcc41d8fc719c707b1950412a1ded7394"), looks := true }, kinds := [], alts := [], laidByText := true, laidKinds := [.data], laidTests := true, laidLooks := .later }
def FnBetterCodeUptoCardSaid : Prop := Claim7.holds Tryd.pinned (.plain (OpenSpec.upto fnBetterCodeSpec)) fnBetterCodeUptoCard
end Rows
end Go.Proofs.YtjeflaodeafhbaaDoor
