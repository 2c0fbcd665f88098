/-
  DERIVED. GIVEN WITH THE SEED: THE CARDS: each row of YtjbbmnmbcdohiaaDoorRows.lean that lists a variable, with what it lists TIED to the program's text (the seventh form; the later family's looks); each row that meets fmt, with fmt's text TOLD by the authors' own Lean function (tested against real Go, not proved from fmt's source: count such statements apart). THE CARD IS WHAT COUNTS. Prove the row's statement (the work); the ties are given (YtjbbmnmbcdohiaaDoorTie.lean); close each card by the builder's one call (the guide's Derived/Test/ToyasCard.lean, 'card_holds'). Laid BY PROGRAM, IN A SANDBOX (cutbox-door.mjs). By AI agents, Wed Nov 11 2026. No macro, syntax, notation, axiom, sorry.
-/
import Derived.Test.YtjbbmnmbcdohiaaDoorRows
import GoSem.ClaimSeven
namespace Go.Proofs.YtjbbmnmbcdohiaaDoor
namespace Rows

/-- THE TIED CARD OF 'laws.FnShowInstr'. -/
def fnShowInstrCard : Claim7 := { stood := { row := fnShowInstrRow, standIns := [], harness := (true, "99a145bcff1195729c133aa7becabe1245108a2eff6f7ab8a8e7e16b34fe939e"), looks := true }, kinds := [], alts := [], laidByText := true, laidKinds := [.data, .data, .data, .data, .sentinel, .sentinel, .data, .pinned], laidTests := true, laidLooks := .later }
def FnShowInstrCardSaid : Prop := Claim7.holds Tryd.pinned (.plain (OpenSpec.ofChange fnShowInstrSpec)) fnShowInstrCard

/-- THE TIED CARD OF 'laws.FnReadInstr'. -/
def fnReadInstrCard : Claim7 := { stood := { row := fnReadInstrRow, standIns := [], harness := (true, "99a145bcff1195729c133aa7becabe1245108a2eff6f7ab8a8e7e16b34fe939e"), looks := true }, kinds := [], alts := [], laidByText := true, laidKinds := [.data, .data, .data, .data, .sentinel, .sentinel, .data, .pinned], laidTests := true, laidLooks := .later }
def FnReadInstrCardSaid : Prop := Claim7.holds Tryd.pinned (.plain (OpenSpec.ofChange fnReadInstrSpec)) fnReadInstrCard

/-- THE TIED CARD OF 'laws.FnReadCode'. -/
def fnReadCodeCard : Claim7 := { stood := { row := fnReadCodeRow, standIns := [], harness := (true, "99a145bcff1195729c133aa7becabe1245108a2eff6f7ab8a8e7e16b34fe939e"), looks := true }, kinds := [], alts := [], laidByText := true, laidKinds := [.data, .data, .data, .data, .sentinel, .sentinel, .data, .pinned], laidTests := true, laidLooks := .later }
def FnReadCodeCardSaid : Prop := Claim7.holds Tryd.pinned (.plain (OpenSpec.ofChange fnReadCodeSpec)) fnReadCodeCard

/-- THE TIED CARD OF 'laws.FnShowCode'. -/
def fnShowCodeCard : Claim7 := { stood := { row := fnShowCodeRow, standIns := [], harness := (true, "99a145bcff1195729c133aa7becabe1245108a2eff6f7ab8a8e7e16b34fe939e"), looks := true }, kinds := [], alts := [], laidByText := true, laidKinds := [.data, .data, .data, .data, .sentinel, .sentinel, .data, .pinned], laidTests := true, laidLooks := .later }
def FnShowCodeCardSaid : Prop := Claim7.holds Tryd.pinned (.plain (OpenSpec.ofChange fnShowCodeSpec)) fnShowCodeCard

/-- THE TIED CARD OF 'laws.FnExactReadInstr'. -/
def fnExactReadInstrCard : Claim7 := { stood := { row := fnExactReadInstrRow, standIns := [], harness := (true, "99a145bcff1195729c133aa7becabe1245108a2eff6f7ab8a8e7e16b34fe939e"), looks := true }, kinds := [], alts := [], laidByText := true, laidKinds := [.data, .data, .data, .data, .sentinel, .sentinel, .data, .pinned], laidTests := true, laidLooks := .later }
def FnExactReadInstrCardSaid : Prop := Claim7.holds Tryd.pinned (.plain (OpenSpec.ofChange fnExactReadInstrSpec)) fnExactReadInstrCard

/-- THE TIED CARD OF 'laws.FnExactReadCode'. -/
def fnExactReadCodeCard : Claim7 := { stood := { row := fnExactReadCodeRow, standIns := [], harness := (true, "99a145bcff1195729c133aa7becabe1245108a2eff6f7ab8a8e7e16b34fe939e"), looks := true }, kinds := [], alts := [], laidByText := true, laidKinds := [.data, .data, .data, .data, .sentinel, .sentinel, .data, .pinned], laidTests := true, laidLooks := .later }
def FnExactReadCodeCardSaid : Prop := Claim7.holds Tryd.pinned (.plain (OpenSpec.ofChange fnExactReadCodeSpec)) fnExactReadCodeCard

/-- THE SECOND FORM's CARD OF 'laws.FnShowInstr'. -/
def fnShowInstrUptoCard : Claim7 := { stood := { row := fnShowInstrUptoRow, standIns := [], harness := (true, "99a145bcff1195729c133aa7becabe1245108a2eff6f7ab8a8e7e16b34fe939e"), looks := true }, kinds := [], alts := [], laidByText := true, laidKinds := [.data, .data, .data, .data, .sentinel, .sentinel, .data, .pinned], laidTests := true, laidLooks := .later }
def FnShowInstrUptoCardSaid : Prop := Claim7.holds Tryd.pinned (.plain (OpenSpec.upto fnShowInstrSpec)) fnShowInstrUptoCard

/-- THE SECOND FORM's CARD OF 'laws.FnReadInstr'. -/
def fnReadInstrUptoCard : Claim7 := { stood := { row := fnReadInstrUptoRow, standIns := [], harness := (true, "99a145bcff1195729c133aa7becabe1245108a2eff6f7ab8a8e7e16b34fe939e"), looks := true }, kinds := [], alts := [], laidByText := true, laidKinds := [.data, .data, .data, .data, .sentinel, .sentinel, .data, .pinned], laidTests := true, laidLooks := .later }
def FnReadInstrUptoCardSaid : Prop := Claim7.holds Tryd.pinned (.plain (OpenSpec.upto fnReadInstrSpec)) fnReadInstrUptoCard

/-- THE SECOND FORM's CARD OF 'laws.FnReadCode'. -/
def fnReadCodeUptoCard : Claim7 := { stood := { row := fnReadCodeUptoRow, standIns := [], harness := (true, "99a145bcff1195729c133aa7becabe1245108a2eff6f7ab8a8e7e16b34fe939e"), looks := true }, kinds := [], alts := [], laidByText := true, laidKinds := [.data, .data, .data, .data, .sentinel, .sentinel, .data, .pinned], laidTests := true, laidLooks := .later }
def FnReadCodeUptoCardSaid : Prop := Claim7.holds Tryd.pinned (.plain (OpenSpec.upto fnReadCodeSpec)) fnReadCodeUptoCard

/-- THE SECOND FORM's CARD OF 'laws.FnShowCode'. -/
def fnShowCodeUptoCard : Claim7 := { stood := { row := fnShowCodeUptoRow, standIns := [], harness := (true, "99a145bcff1195729c133aa7becabe1245108a2eff6f7ab8a8e7e16b34fe939e"), looks := true }, kinds := [], alts := [], laidByText := true, laidKinds := [.data, .data, .data, .data, .sentinel, .sentinel, .data, .pinned], laidTests := true, laidLooks := .later }
def FnShowCodeUptoCardSaid : Prop := Claim7.holds Tryd.pinned (.plain (OpenSpec.upto fnShowCodeSpec)) fnShowCodeUptoCard

/-- THE SECOND FORM's CARD OF 'laws.FnExactReadInstr'. -/
def fnExactReadInstrUptoCard : Claim7 := { stood := { row := fnExactReadInstrUptoRow, standIns := [], harness := (true, "99a145bcff1195729c133aa7becabe1245108a2eff6f7ab8a8e7e16b34fe939e"), looks := true }, kinds := [], alts := [], laidByText := true, laidKinds := [.data, .data, .data, .data, .sentinel, .sentinel, .data, .pinned], laidTests := true, laidLooks := .later }
def FnExactReadInstrUptoCardSaid : Prop := Claim7.holds Tryd.pinned (.plain (OpenSpec.upto fnExactReadInstrSpec)) fnExactReadInstrUptoCard

/-- THE SECOND FORM's CARD OF 'laws.FnExactReadCode'. -/
def fnExactReadCodeUptoCard : Claim7 := { stood := { row := fnExactReadCodeUptoRow, standIns := [], harness := (true, "99a145bcff1195729c133aa7becabe1245108a2eff6f7ab8a8e7e16b34fe939e"), looks := true }, kinds := [], alts := [], laidByText := true, laidKinds := [.data, .data, .data, .data, .sentinel, .sentinel, .data, .pinned], laidTests := true, laidLooks := .later }
def FnExactReadCodeUptoCardSaid : Prop := Claim7.holds Tryd.pinned (.plain (OpenSpec.upto fnExactReadCodeSpec)) fnExactReadCodeUptoCard
end Rows
end Go.Proofs.YtjbbmnmbcdohiaaDoor
