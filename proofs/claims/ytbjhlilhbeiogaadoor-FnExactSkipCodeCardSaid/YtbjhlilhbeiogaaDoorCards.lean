/-
  DERIVED. GIVEN WITH THE SEED: THE CARDS: each row of YtbjhlilhbeiogaaDoorRows.lean that lists a variable, with what it lists TIED to the program's text (the seventh form; the later family's looks); each row that meets fmt, with fmt's text TOLD by the authors' own Lean function (tested against real Go, not proved from fmt's source: count such statements apart). THE CARD IS WHAT COUNTS. Prove the row's statement (the work); the ties are given (YtbjhlilhbeiogaaDoorTie.lean); close each card by the builder's one call (the guide's Derived/Test/ToyasCard.lean, 'card_holds'). Laid BY PROGRAM, IN A SANDBOX (cutbox-door.mjs). By AI agents, Wed Nov 11 2026. No macro, syntax, notation, axiom, sorry.
-/
import Derived.Test.YtbjhlilhbeiogaaDoorRows
import GoSem.ClaimSeven
namespace Go.Proofs.YtbjhlilhbeiogaaDoor
namespace Rows

/-- THE TIED CARD OF 'laws.FnExactDropDead'. -/
def fnExactDropDeadCard : Claim7 := { stood := { row := fnExactDropDeadRow, standIns := [], harness := (true, "674653035458f5c03c170d7824d48e7b991696b57accf3bdedb9dbab80b56ade"), looks := true }, kinds := [], alts := [], laidByText := true, laidKinds := [.data], laidTests := true, laidLooks := .later }
def FnExactDropDeadCardSaid : Prop := Claim7.holds Tryd.pinned (.plain (OpenSpec.ofChange fnExactDropDeadSpec)) fnExactDropDeadCard

/-- THE TIED CARD OF 'laws.FnExactShrinkCode'. -/
def fnExactShrinkCodeCard : Claim7 := { stood := { row := fnExactShrinkCodeRow, standIns := [], harness := (true, "674653035458f5c03c170d7824d48e7b991696b57accf3bdedb9dbab80b56ade"), looks := true }, kinds := [], alts := [], laidByText := true, laidKinds := [.data], laidTests := true, laidLooks := .later }
def FnExactShrinkCodeCardSaid : Prop := Claim7.holds Tryd.pinned (.plain (OpenSpec.ofChange fnExactShrinkCodeSpec)) fnExactShrinkCodeCard

/-- THE TIED CARD OF 'laws.FnExactSkipCode'. -/
def fnExactSkipCodeCard : Claim7 := { stood := { row := fnExactSkipCodeRow, standIns := [], harness := (true, "674653035458f5c03c170d7824d48e7b991696b57accf3bdedb9dbab80b56ade"), looks := true }, kinds := [], alts := [], laidByText := true, laidKinds := [.data], laidTests := true, laidLooks := .later }
def FnExactSkipCodeCardSaid : Prop := Claim7.holds Tryd.pinned (.plain (OpenSpec.ofChange fnExactSkipCodeSpec)) fnExactSkipCodeCard

/-- THE TIED CARD OF 'laws.FnExactKnownAt'. -/
def fnExactKnownAtCard : Claim7 := { stood := { row := fnExactKnownAtRow, standIns := [], harness := (true, "674653035458f5c03c170d7824d48e7b991696b57accf3bdedb9dbab80b56ade"), looks := true }, kinds := [], alts := [], laidByText := true, laidKinds := [.data], laidTests := true, laidLooks := .later }
def FnExactKnownAtCardSaid : Prop := Claim7.holds Tryd.pinned (.plain (OpenSpec.ofChange fnExactKnownAtSpec)) fnExactKnownAtCard

/-- THE TIED CARD OF 'laws.FnExactFoldCode'. -/
def fnExactFoldCodeCard : Claim7 := { stood := { row := fnExactFoldCodeRow, standIns := [], harness := (true, "674653035458f5c03c170d7824d48e7b991696b57accf3bdedb9dbab80b56ade"), looks := true }, kinds := [], alts := [], laidByText := true, laidKinds := [.data], laidTests := true, laidLooks := .later }
def FnExactFoldCodeCardSaid : Prop := Claim7.holds Tryd.pinned (.plain (OpenSpec.ofChange fnExactFoldCodeSpec)) fnExactFoldCodeCard

/-- THE TIED CARD OF 'laws.FnExactBetterCode'. -/
def fnExactBetterCodeCard : Claim7 := { stood := { row := fnExactBetterCodeRow, standIns := [], harness := (true, "674653035458f5c03c170d7824d48e7b991696b57accf3bdedb9dbab80b56ade"), looks := true }, kinds := [], alts := [], laidByText := true, laidKinds := [.data], laidTests := true, laidLooks := .later }
def FnExactBetterCodeCardSaid : Prop := Claim7.holds Tryd.pinned (.plain (OpenSpec.ofChange fnExactBetterCodeSpec)) fnExactBetterCodeCard

/-- THE SECOND FORM's CARD OF 'laws.FnExactDropDead'. -/
def fnExactDropDeadUptoCard : Claim7 := { stood := { row := fnExactDropDeadUptoRow, standIns := [], harness := (true, "674653035458f5c03c170d7824d48e7b991696b57accf3bdedb9dbab80b56ade"), looks := true }, kinds := [], alts := [], laidByText := true, laidKinds := [.data], laidTests := true, laidLooks := .later }
def FnExactDropDeadUptoCardSaid : Prop := Claim7.holds Tryd.pinned (.plain (OpenSpec.upto fnExactDropDeadSpec)) fnExactDropDeadUptoCard

/-- THE SECOND FORM's CARD OF 'laws.FnExactShrinkCode'. -/
def fnExactShrinkCodeUptoCard : Claim7 := { stood := { row := fnExactShrinkCodeUptoRow, standIns := [], harness := (true, "674653035458f5c03c170d7824d48e7b991696b57accf3bdedb9dbab80b56ade"), looks := true }, kinds := [], alts := [], laidByText := true, laidKinds := [.data], laidTests := true, laidLooks := .later }
def FnExactShrinkCodeUptoCardSaid : Prop := Claim7.holds Tryd.pinned (.plain (OpenSpec.upto fnExactShrinkCodeSpec)) fnExactShrinkCodeUptoCard

/-- THE SECOND FORM's CARD OF 'laws.FnExactSkipCode'. -/
def fnExactSkipCodeUptoCard : Claim7 := { stood := { row := fnExactSkipCodeUptoRow, standIns := [], harness := (true, "674653035458f5c03c170d7824d48e7b991696b57accf3bdedb9dbab80b56ade"), looks := true }, kinds := [], alts := [], laidByText := true, laidKinds := [.data], laidTests := true, laidLooks := .later }
def FnExactSkipCodeUptoCardSaid : Prop := Claim7.holds Tryd.pinned (.plain (OpenSpec.upto fnExactSkipCodeSpec)) fnExactSkipCodeUptoCard

/-- THE SECOND FORM's CARD OF 'laws.FnExactKnownAt'. -/
def fnExactKnownAtUptoCard : Claim7 := { stood := { row := fnExactKnownAtUptoRow, standIns := [], harness := (true, "674653035458f5c03c170d7824d48e7b991696b57accf3bdedb9dbab80b56ade"), looks := true }, kinds := [], alts := [], laidByText := true, laidKinds := [.data], laidTests := true, laidLooks := .later }
def FnExactKnownAtUptoCardSaid : Prop := Claim7.holds Tryd.pinned (.plain (OpenSpec.upto fnExactKnownAtSpec)) fnExactKnownAtUptoCard

/-- THE SECOND FORM's CARD OF 'laws.FnExactFoldCode'. -/
def fnExactFoldCodeUptoCard : Claim7 := { stood := { row := fnExactFoldCodeUptoRow, standIns := [], harness := (true, "674653035458f5c03c170d7824d48e7b991696b57accf3bdedb9dbab80b56ade"), looks := true }, kinds := [], alts := [], laidByText := true, laidKinds := [.data], laidTests := true, laidLooks := .later }
def FnExactFoldCodeUptoCardSaid : Prop := Claim7.holds Tryd.pinned (.plain (OpenSpec.upto fnExactFoldCodeSpec)) fnExactFoldCodeUptoCard

/-- THE SECOND FORM's CARD OF 'laws.FnExactBetterCode'. -/
def fnExactBetterCodeUptoCard : Claim7 := { stood := { row := fnExactBetterCodeUptoRow, standIns := [], harness := (true, "674653035458f5c03c170d7824d48e7b991696b57accf3bdedb9dbab80b56ade"), looks := true }, kinds := [], alts := [], laidByText := true, laidKinds := [.data], laidTests := true, laidLooks := .later }
def FnExactBetterCodeUptoCardSaid : Prop := Claim7.holds Tryd.pinned (.plain (OpenSpec.upto fnExactBetterCodeSpec)) fnExactBetterCodeUptoCard
end Rows
end Go.Proofs.YtbjhlilhbeiogaaDoor
