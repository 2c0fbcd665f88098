/-
  DERIVED. GIVEN WITH THE SEED: THE CARDS: each row of YtabmcnkhdedohaaDoorRows.lean that lists a variable, with what it lists TIED to the program's text (the seventh form; the later family's looks); each row that meets fmt, with fmt's text TOLD by the authors' own Lean function (tested against real Go, not proved from fmt's source: count such statements apart). THE CARD IS WHAT COUNTS. Prove the row's statement (the work); the ties are given (YtabmcnkhdedohaaDoorTie.lean); close each card by the builder's one call (the guide's Derived/Test/ToyasCard.lean, 'card_holds'). Laid BY PROGRAM, IN A SANDBOX (cutbox-door.mjs). By AI agents, Wed Nov 11 2026. No macro, syntax, notation, axiom, sorry.
-/
import Derived.Test.YtabmcnkhdedohaaDoorRows
import GoSem.ClaimSeven
namespace Go.Proofs.YtabmcnkhdedohaaDoor
namespace Rows

/-- THE TIED CARD OF 'laws.FnValidInstr'. -/
def fnValidInstrCard : Claim7 := { stood := { row := fnValidInstrRow, standIns := [], harness := (true, "95512d48ea7d4fb04f01583e367aae87cfc6b59b0d08c23382f0d3aba995d5ba"), looks := false }, kinds := [], alts := [], laidByText := true, laidKinds := [.data], laidTests := true, laidLooks := .later }
def FnValidInstrCardSaid : Prop := Claim7.holds Tryd.pinned (.plain (OpenSpec.ofChange fnValidInstrSpec)) fnValidInstrCard

/-- THE TIED CARD OF 'laws.FnEncodeInstr'. -/
def fnEncodeInstrCard : Claim7 := { stood := { row := fnEncodeInstrRow, standIns := [], harness := (true, "95512d48ea7d4fb04f01583e367aae87cfc6b59b0d08c23382f0d3aba995d5ba"), looks := false }, kinds := [], alts := [], laidByText := true, laidKinds := [.data], laidTests := true, laidLooks := .later }
def FnEncodeInstrCardSaid : Prop := Claim7.holds Tryd.pinned (.plain (OpenSpec.ofChange fnEncodeInstrSpec)) fnEncodeInstrCard

/-- THE TIED CARD OF 'laws.FnDecodeInstr'. -/
def fnDecodeInstrCard : Claim7 := { stood := { row := fnDecodeInstrRow, standIns := [], harness := (true, "95512d48ea7d4fb04f01583e367aae87cfc6b59b0d08c23382f0d3aba995d5ba"), looks := false }, kinds := [], alts := [], laidByText := true, laidKinds := [.data], laidTests := true, laidLooks := .later }
def FnDecodeInstrCardSaid : Prop := Claim7.holds Tryd.pinned (.plain (OpenSpec.ofChange fnDecodeInstrSpec)) fnDecodeInstrCard

/-- THE TIED CARD OF 'laws.FnValidCode'. -/
def fnValidCodeCard : Claim7 := { stood := { row := fnValidCodeRow, standIns := [], harness := (true, "95512d48ea7d4fb04f01583e367aae87cfc6b59b0d08c23382f0d3aba995d5ba"), looks := false }, kinds := [], alts := [], laidByText := true, laidKinds := [.data], laidTests := true, laidLooks := .later }
def FnValidCodeCardSaid : Prop := Claim7.holds Tryd.pinned (.plain (OpenSpec.ofChange fnValidCodeSpec)) fnValidCodeCard

/-- THE TIED CARD OF 'laws.FnExactValidInstr'. -/
def fnExactValidInstrCard : Claim7 := { stood := { row := fnExactValidInstrRow, standIns := [], harness := (true, "95512d48ea7d4fb04f01583e367aae87cfc6b59b0d08c23382f0d3aba995d5ba"), looks := false }, kinds := [], alts := [], laidByText := true, laidKinds := [.data], laidTests := true, laidLooks := .later }
def FnExactValidInstrCardSaid : Prop := Claim7.holds Tryd.pinned (.plain (OpenSpec.ofChange fnExactValidInstrSpec)) fnExactValidInstrCard

/-- THE TIED CARD OF 'laws.FnExactEncodeInstr'. -/
def fnExactEncodeInstrCard : Claim7 := { stood := { row := fnExactEncodeInstrRow, standIns := [], harness := (true, "95512d48ea7d4fb04f01583e367aae87cfc6b59b0d08c23382f0d3aba995d5ba"), looks := false }, kinds := [], alts := [], laidByText := true, laidKinds := [.data], laidTests := true, laidLooks := .later }
def FnExactEncodeInstrCardSaid : Prop := Claim7.holds Tryd.pinned (.plain (OpenSpec.ofChange fnExactEncodeInstrSpec)) fnExactEncodeInstrCard

/-- THE TIED CARD OF 'laws.FnExactDecodeInstr'. -/
def fnExactDecodeInstrCard : Claim7 := { stood := { row := fnExactDecodeInstrRow, standIns := [], harness := (true, "95512d48ea7d4fb04f01583e367aae87cfc6b59b0d08c23382f0d3aba995d5ba"), looks := false }, kinds := [], alts := [], laidByText := true, laidKinds := [.data], laidTests := true, laidLooks := .later }
def FnExactDecodeInstrCardSaid : Prop := Claim7.holds Tryd.pinned (.plain (OpenSpec.ofChange fnExactDecodeInstrSpec)) fnExactDecodeInstrCard

/-- THE TIED CARD OF 'laws.FnExactValidCode'. -/
def fnExactValidCodeCard : Claim7 := { stood := { row := fnExactValidCodeRow, standIns := [], harness := (true, "95512d48ea7d4fb04f01583e367aae87cfc6b59b0d08c23382f0d3aba995d5ba"), looks := false }, kinds := [], alts := [], laidByText := true, laidKinds := [.data], laidTests := true, laidLooks := .later }
def FnExactValidCodeCardSaid : Prop := Claim7.holds Tryd.pinned (.plain (OpenSpec.ofChange fnExactValidCodeSpec)) fnExactValidCodeCard

/-- THE TIED CARD OF 'laws.FnExactUsesOf'. -/
def fnExactUsesOfCard : Claim7 := { stood := { row := fnExactUsesOfRow, standIns := [], harness := (true, "95512d48ea7d4fb04f01583e367aae87cfc6b59b0d08c23382f0d3aba995d5ba"), looks := false }, kinds := [], alts := [], laidByText := true, laidKinds := [.data], laidTests := true, laidLooks := .later }
def FnExactUsesOfCardSaid : Prop := Claim7.holds Tryd.pinned (.plain (OpenSpec.ofChange fnExactUsesOfSpec)) fnExactUsesOfCard

/-- THE SECOND FORM's CARD OF 'laws.FnValidInstr'. -/
def fnValidInstrUptoCard : Claim7 := { stood := { row := fnValidInstrUptoRow, standIns := [], harness := (true, "95512d48ea7d4fb04f01583e367aae87cfc6b59b0d08c23382f0d3aba995d5ba"), looks := false }, kinds := [], alts := [], laidByText := true, laidKinds := [.data], laidTests := true, laidLooks := .later }
def FnValidInstrUptoCardSaid : Prop := Claim7.holds Tryd.pinned (.plain (OpenSpec.upto fnValidInstrSpec)) fnValidInstrUptoCard

/-- THE SECOND FORM's CARD OF 'laws.FnEncodeInstr'. -/
def fnEncodeInstrUptoCard : Claim7 := { stood := { row := fnEncodeInstrUptoRow, standIns := [], harness := (true, "95512d48ea7d4fb04f01583e367aae87cfc6b59b0d08c23382f0d3aba995d5ba"), looks := false }, kinds := [], alts := [], laidByText := true, laidKinds := [.data], laidTests := true, laidLooks := .later }
def FnEncodeInstrUptoCardSaid : Prop := Claim7.holds Tryd.pinned (.plain (OpenSpec.upto fnEncodeInstrSpec)) fnEncodeInstrUptoCard

/-- THE SECOND FORM's CARD OF 'laws.FnDecodeInstr'. -/
def fnDecodeInstrUptoCard : Claim7 := { stood := { row := fnDecodeInstrUptoRow, standIns := [], harness := (true, "95512d48ea7d4fb04f01583e367aae87cfc6b59b0d08c23382f0d3aba995d5ba"), looks := false }, kinds := [], alts := [], laidByText := true, laidKinds := [.data], laidTests := true, laidLooks := .later }
def FnDecodeInstrUptoCardSaid : Prop := Claim7.holds Tryd.pinned (.plain (OpenSpec.upto fnDecodeInstrSpec)) fnDecodeInstrUptoCard

/-- THE SECOND FORM's CARD OF 'laws.FnValidCode'. -/
def fnValidCodeUptoCard : Claim7 := { stood := { row := fnValidCodeUptoRow, standIns := [], harness := (true, "95512d48ea7d4fb04f01583e367aae87cfc6b59b0d08c23382f0d3aba995d5ba"), looks := false }, kinds := [], alts := [], laidByText := true, laidKinds := [.data], laidTests := true, laidLooks := .later }
def FnValidCodeUptoCardSaid : Prop := Claim7.holds Tryd.pinned (.plain (OpenSpec.upto fnValidCodeSpec)) fnValidCodeUptoCard

/-- THE SECOND FORM's CARD OF 'laws.FnExactValidInstr'. -/
def fnExactValidInstrUptoCard : Claim7 := { stood := { row := fnExactValidInstrUptoRow, standIns := [], harness := (true, "95512d48ea7d4fb04f01583e367aae87cfc6b59b0d08c23382f0d3aba995d5ba"), looks := false }, kinds := [], alts := [], laidByText := true, laidKinds := [.data], laidTests := true, laidLooks := .later }
def FnExactValidInstrUptoCardSaid : Prop := Claim7.holds Tryd.pinned (.plain (OpenSpec.upto fnExactValidInstrSpec)) fnExactValidInstrUptoCard

/-- THE SECOND FORM's CARD OF 'laws.FnExactEncodeInstr'. -/
def fnExactEncodeInstrUptoCard : Claim7 := { stood := { row := fnExactEncodeInstrUptoRow, standIns := [], harness := (true, "95512d48ea7d4fb04f01583e367aae87cfc6b59b0d08c23382f0d3aba995d5ba"), looks := false }, kinds := [], alts := [], laidByText := true, laidKinds := [.data], laidTests := true, laidLooks := .later }
def FnExactEncodeInstrUptoCardSaid : Prop := Claim7.holds Tryd.pinned (.plain (OpenSpec.upto fnExactEncodeInstrSpec)) fnExactEncodeInstrUptoCard

/-- THE SECOND FORM's CARD OF 'laws.FnExactDecodeInstr'. -/
def fnExactDecodeInstrUptoCard : Claim7 := { stood := { row := fnExactDecodeInstrUptoRow, standIns := [], harness := (true, "95512d48ea7d4fb04f01583e367aae87cfc6b59b0d08c23382f0d3aba995d5ba"), looks := false }, kinds := [], alts := [], laidByText := true, laidKinds := [.data], laidTests := true, laidLooks := .later }
def FnExactDecodeInstrUptoCardSaid : Prop := Claim7.holds Tryd.pinned (.plain (OpenSpec.upto fnExactDecodeInstrSpec)) fnExactDecodeInstrUptoCard

/-- THE SECOND FORM's CARD OF 'laws.FnExactValidCode'. -/
def fnExactValidCodeUptoCard : Claim7 := { stood := { row := fnExactValidCodeUptoRow, standIns := [], harness := (true, "95512d48ea7d4fb04f01583e367aae87cfc6b59b0d08c23382f0d3aba995d5ba"), looks := false }, kinds := [], alts := [], laidByText := true, laidKinds := [.data], laidTests := true, laidLooks := .later }
def FnExactValidCodeUptoCardSaid : Prop := Claim7.holds Tryd.pinned (.plain (OpenSpec.upto fnExactValidCodeSpec)) fnExactValidCodeUptoCard

/-- THE SECOND FORM's CARD OF 'laws.FnExactUsesOf'. -/
def fnExactUsesOfUptoCard : Claim7 := { stood := { row := fnExactUsesOfUptoRow, standIns := [], harness := (true, "95512d48ea7d4fb04f01583e367aae87cfc6b59b0d08c23382f0d3aba995d5ba"), looks := false }, kinds := [], alts := [], laidByText := true, laidKinds := [.data], laidTests := true, laidLooks := .later }
def FnExactUsesOfUptoCardSaid : Prop := Claim7.holds Tryd.pinned (.plain (OpenSpec.upto fnExactUsesOfSpec)) fnExactUsesOfUptoCard
end Rows
end Go.Proofs.YtabmcnkhdedohaaDoor
