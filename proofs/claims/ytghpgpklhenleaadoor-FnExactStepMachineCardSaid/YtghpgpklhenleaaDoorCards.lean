/-
  DERIVED. GIVEN WITH THE SEED: THE CARDS: each row of YtghpgpklhenleaaDoorRows.lean that lists a variable, with what it lists TIED to the program's text (the seventh form; the later family's looks); each row that meets fmt, with fmt's text TOLD by the authors' own Lean function (tested against real Go, not proved from fmt's source: count such statements apart). THE CARD IS WHAT COUNTS. Prove the row's statement (the work); the ties are given (YtghpgpklhenleaaDoorTie.lean); close each card by the builder's one call (the guide's Derived/Test/ToyasCard.lean, 'card_holds'). Laid BY PROGRAM, IN A SANDBOX (cutbox-door.mjs). By AI agents, Wed Nov 11 2026. No macro, syntax, notation, axiom, sorry.
-/
import Derived.Test.YtghpgpklhenleaaDoorRows
import GoSem.ClaimSeven
namespace Go.Proofs.YtghpgpklhenleaaDoor
namespace Rows

/-- THE TIED CARD OF 'laws.FnValidInstr'. -/
def fnValidInstrCard : Claim7 := { stood := { row := fnValidInstrRow, standIns := [], harness := (true, "ff96c6f6f89e4ec2bb02e13cb710e4578bd0830db7a4beb2f681030b5e5aac29"), looks := false }, kinds := [], alts := [], laidByText := true, laidKinds := [.data], laidTests := true, laidLooks := .later }
def FnValidInstrCardSaid : Prop := Claim7.holds Tryd.pinned (.plain (OpenSpec.ofChange fnValidInstrSpec)) fnValidInstrCard

/-- THE TIED CARD OF 'laws.FnEncodeInstr'. -/
def fnEncodeInstrCard : Claim7 := { stood := { row := fnEncodeInstrRow, standIns := [], harness := (true, "ff96c6f6f89e4ec2bb02e13cb710e4578bd0830db7a4beb2f681030b5e5aac29"), looks := false }, kinds := [], alts := [], laidByText := true, laidKinds := [.data], laidTests := true, laidLooks := .later }
def FnEncodeInstrCardSaid : Prop := Claim7.holds Tryd.pinned (.plain (OpenSpec.ofChange fnEncodeInstrSpec)) fnEncodeInstrCard

/-- THE TIED CARD OF 'laws.FnDecodeInstr'. -/
def fnDecodeInstrCard : Claim7 := { stood := { row := fnDecodeInstrRow, standIns := [], harness := (true, "ff96c6f6f89e4ec2bb02e13cb710e4578bd0830db7a4beb2f681030b5e5aac29"), looks := false }, kinds := [], alts := [], laidByText := true, laidKinds := [.data], laidTests := true, laidLooks := .later }
def FnDecodeInstrCardSaid : Prop := Claim7.holds Tryd.pinned (.plain (OpenSpec.ofChange fnDecodeInstrSpec)) fnDecodeInstrCard

/-- THE TIED CARD OF 'laws.FnValidCode'. -/
def fnValidCodeCard : Claim7 := { stood := { row := fnValidCodeRow, standIns := [], harness := (true, "ff96c6f6f89e4ec2bb02e13cb710e4578bd0830db7a4beb2f681030b5e5aac29"), looks := false }, kinds := [], alts := [], laidByText := true, laidKinds := [.data], laidTests := true, laidLooks := .later }
def FnValidCodeCardSaid : Prop := Claim7.holds Tryd.pinned (.plain (OpenSpec.ofChange fnValidCodeSpec)) fnValidCodeCard

/-- THE TIED CARD OF 'laws.FnExactValidCode'. -/
def fnExactValidCodeCard : Claim7 := { stood := { row := fnExactValidCodeRow, standIns := [], harness := (true, "ff96c6f6f89e4ec2bb02e13cb710e4578bd0830db7a4beb2f681030b5e5aac29"), looks := false }, kinds := [], alts := [], laidByText := true, laidKinds := [.data], laidTests := true, laidLooks := .later }
def FnExactValidCodeCardSaid : Prop := Claim7.holds Tryd.pinned (.plain (OpenSpec.ofChange fnExactValidCodeSpec)) fnExactValidCodeCard

/-- THE TIED CARD OF 'laws.FnUsesOf'. -/
def fnUsesOfCard : Claim7 := { stood := { row := fnUsesOfRow, standIns := [], harness := (true, "ff96c6f6f89e4ec2bb02e13cb710e4578bd0830db7a4beb2f681030b5e5aac29"), looks := false }, kinds := [], alts := [], laidByText := true, laidKinds := [.data], laidTests := true, laidLooks := .later }
def FnUsesOfCardSaid : Prop := Claim7.holds Tryd.pinned (.plain (OpenSpec.ofChange fnUsesOfSpec)) fnUsesOfCard

/-- THE TIED CARD OF 'laws.FnExactStepMachine'. -/
def fnExactStepMachineCard : Claim7 := { stood := { row := fnExactStepMachineRow, standIns := [], harness := (true, "ff96c6f6f89e4ec2bb02e13cb710e4578bd0830db7a4beb2f681030b5e5aac29"), looks := false }, kinds := [], alts := [], laidByText := true, laidKinds := [.data], laidTests := true, laidLooks := .later }
def FnExactStepMachineCardSaid : Prop := Claim7.holds Tryd.pinned (.plain (OpenSpec.ofChange fnExactStepMachineSpec)) fnExactStepMachineCard

/-- THE TIED CARD OF 'laws.FnExactTraceOf'. -/
def fnExactTraceOfCard : Claim7 := { stood := { row := fnExactTraceOfRow, standIns := [], harness := (true, "ff96c6f6f89e4ec2bb02e13cb710e4578bd0830db7a4beb2f681030b5e5aac29"), looks := false }, kinds := [], alts := [], laidByText := true, laidKinds := [.data], laidTests := true, laidLooks := .later }
def FnExactTraceOfCardSaid : Prop := Claim7.holds Tryd.pinned (.plain (OpenSpec.ofChange fnExactTraceOfSpec)) fnExactTraceOfCard

/-- THE SECOND FORM's CARD OF 'laws.FnValidInstr'. -/
def fnValidInstrUptoCard : Claim7 := { stood := { row := fnValidInstrUptoRow, standIns := [], harness := (true, "ff96c6f6f89e4ec2bb02e13cb710e4578bd0830db7a4beb2f681030b5e5aac29"), looks := false }, kinds := [], alts := [], laidByText := true, laidKinds := [.data], laidTests := true, laidLooks := .later }
def FnValidInstrUptoCardSaid : Prop := Claim7.holds Tryd.pinned (.plain (OpenSpec.upto fnValidInstrSpec)) fnValidInstrUptoCard

/-- THE SECOND FORM's CARD OF 'laws.FnEncodeInstr'. -/
def fnEncodeInstrUptoCard : Claim7 := { stood := { row := fnEncodeInstrUptoRow, standIns := [], harness := (true, "ff96c6f6f89e4ec2bb02e13cb710e4578bd0830db7a4beb2f681030b5e5aac29"), looks := false }, kinds := [], alts := [], laidByText := true, laidKinds := [.data], laidTests := true, laidLooks := .later }
def FnEncodeInstrUptoCardSaid : Prop := Claim7.holds Tryd.pinned (.plain (OpenSpec.upto fnEncodeInstrSpec)) fnEncodeInstrUptoCard

/-- THE SECOND FORM's CARD OF 'laws.FnDecodeInstr'. -/
def fnDecodeInstrUptoCard : Claim7 := { stood := { row := fnDecodeInstrUptoRow, standIns := [], harness := (true, "ff96c6f6f89e4ec2bb02e13cb710e4578bd0830db7a4beb2f681030b5e5aac29"), looks := false }, kinds := [], alts := [], laidByText := true, laidKinds := [.data], laidTests := true, laidLooks := .later }
def FnDecodeInstrUptoCardSaid : Prop := Claim7.holds Tryd.pinned (.plain (OpenSpec.upto fnDecodeInstrSpec)) fnDecodeInstrUptoCard

/-- THE SECOND FORM's CARD OF 'laws.FnValidCode'. -/
def fnValidCodeUptoCard : Claim7 := { stood := { row := fnValidCodeUptoRow, standIns := [], harness := (true, "ff96c6f6f89e4ec2bb02e13cb710e4578bd0830db7a4beb2f681030b5e5aac29"), looks := false }, kinds := [], alts := [], laidByText := true, laidKinds := [.data], laidTests := true, laidLooks := .later }
def FnValidCodeUptoCardSaid : Prop := Claim7.holds Tryd.pinned (.plain (OpenSpec.upto fnValidCodeSpec)) fnValidCodeUptoCard

/-- THE SECOND FORM's CARD OF 'laws.FnExactValidCode'. -/
def fnExactValidCodeUptoCard : Claim7 := { stood := { row := fnExactValidCodeUptoRow, standIns := [], harness := (true, "ff96c6f6f89e4ec2bb02e13cb710e4578bd0830db7a4beb2f681030b5e5aac29"), looks := false }, kinds := [], alts := [], laidByText := true, laidKinds := [.data], laidTests := true, laidLooks := .later }
def FnExactValidCodeUptoCardSaid : Prop := Claim7.holds Tryd.pinned (.plain (OpenSpec.upto fnExactValidCodeSpec)) fnExactValidCodeUptoCard

/-- THE SECOND FORM's CARD OF 'laws.FnUsesOf'. -/
def fnUsesOfUptoCard : Claim7 := { stood := { row := fnUsesOfUptoRow, standIns := [], harness := (true, "ff96c6f6f89e4ec2bb02e13cb710e4578bd0830db7a4beb2f681030b5e5aac29"), looks := false }, kinds := [], alts := [], laidByText := true, laidKinds := [.data], laidTests := true, laidLooks := .later }
def FnUsesOfUptoCardSaid : Prop := Claim7.holds Tryd.pinned (.plain (OpenSpec.upto fnUsesOfSpec)) fnUsesOfUptoCard

/-- THE SECOND FORM's CARD OF 'laws.FnExactStepMachine'. -/
def fnExactStepMachineUptoCard : Claim7 := { stood := { row := fnExactStepMachineUptoRow, standIns := [], harness := (true, "ff96c6f6f89e4ec2bb02e13cb710e4578bd0830db7a4beb2f681030b5e5aac29"), looks := false }, kinds := [], alts := [], laidByText := true, laidKinds := [.data], laidTests := true, laidLooks := .later }
def FnExactStepMachineUptoCardSaid : Prop := Claim7.holds Tryd.pinned (.plain (OpenSpec.upto fnExactStepMachineSpec)) fnExactStepMachineUptoCard

/-- THE SECOND FORM's CARD OF 'laws.FnExactTraceOf'. -/
def fnExactTraceOfUptoCard : Claim7 := { stood := { row := fnExactTraceOfUptoRow, standIns := [], harness := (true, "ff96c6f6f89e4ec2bb02e13cb710e4578bd0830db7a4beb2f681030b5e5aac29"), looks := false }, kinds := [], alts := [], laidByText := true, laidKinds := [.data], laidTests := true, laidLooks := .later }
def FnExactTraceOfUptoCardSaid : Prop := Claim7.holds Tryd.pinned (.plain (OpenSpec.upto fnExactTraceOfSpec)) fnExactTraceOfUptoCard
end Rows
end Go.Proofs.YtghpgpklhenleaaDoor
