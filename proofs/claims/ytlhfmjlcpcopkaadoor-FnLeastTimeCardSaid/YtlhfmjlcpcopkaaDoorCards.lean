/-
  DERIVED. GIVEN WITH THE SEED: THE CARDS: each row of YtlhfmjlcpcopkaaDoorRows.lean that lists a variable, with what it lists TIED to the program's text (the seventh form; the later family's looks); each row that meets fmt, with fmt's text TOLD by the authors' own Lean function (tested against real Go, not proved from fmt's source: count such statements apart). THE CARD IS WHAT COUNTS. Prove the row's statement (the work); the ties are given (YtlhfmjlcpcopkaaDoorTie.lean); close each card by the builder's one call (the guide's Derived/Test/ToyasCard.lean, 'card_holds'). Laid BY PROGRAM, IN A SANDBOX (cutbox-door.mjs). By AI agents, Wed Nov 11 2026. No macro, syntax, notation, axiom, sorry.
-/
import Derived.Test.YtlhfmjlcpcopkaaDoorRows
import GoSem.ClaimSeven
namespace Go.Proofs.YtlhfmjlcpcopkaaDoor
namespace Rows

/-- THE TIED CARD OF 'laws.FnExactValidBlock'. -/
def fnExactValidBlockCard : Claim7 := { stood := { row := fnExactValidBlockRow, standIns := [], harness := (true, "478d9a97bfcde61f4fcca9a1c2ae476914d5fe1ac76b6a92d387ddfc425f9cbc"), looks := false }, kinds := [], alts := [], laidByText := true, laidKinds := [.data], laidTests := true, laidLooks := .later }
def FnExactValidBlockCardSaid : Prop := Claim7.holds Tryd.pinned (.plain (OpenSpec.ofChange fnExactValidBlockSpec)) fnExactValidBlockCard

/-- THE TIED CARD OF 'laws.FnExactTicksOf'. -/
def fnExactTicksOfCard : Claim7 := { stood := { row := fnExactTicksOfRow, standIns := [], harness := (true, "478d9a97bfcde61f4fcca9a1c2ae476914d5fe1ac76b6a92d387ddfc425f9cbc"), looks := false }, kinds := [], alts := [], laidByText := true, laidKinds := [.data], laidTests := true, laidLooks := .later }
def FnExactTicksOfCardSaid : Prop := Claim7.holds Tryd.pinned (.plain (OpenSpec.ofChange fnExactTicksOfSpec)) fnExactTicksOfCard

/-- THE TIED CARD OF 'laws.FnExactWaitsOf'. -/
def fnExactWaitsOfCard : Claim7 := { stood := { row := fnExactWaitsOfRow, standIns := [], harness := (true, "478d9a97bfcde61f4fcca9a1c2ae476914d5fe1ac76b6a92d387ddfc425f9cbc"), looks := false }, kinds := [], alts := [], laidByText := true, laidKinds := [.data], laidTests := true, laidLooks := .later }
def FnExactWaitsOfCardSaid : Prop := Claim7.holds Tryd.pinned (.plain (OpenSpec.ofChange fnExactWaitsOfSpec)) fnExactWaitsOfCard

/-- THE TIED CARD OF 'laws.FnExactBlockTime'. -/
def fnExactBlockTimeCard : Claim7 := { stood := { row := fnExactBlockTimeRow, standIns := [], harness := (true, "478d9a97bfcde61f4fcca9a1c2ae476914d5fe1ac76b6a92d387ddfc425f9cbc"), looks := false }, kinds := [], alts := [], laidByText := true, laidKinds := [.data], laidTests := true, laidLooks := .later }
def FnExactBlockTimeCardSaid : Prop := Claim7.holds Tryd.pinned (.plain (OpenSpec.ofChange fnExactBlockTimeSpec)) fnExactBlockTimeCard

/-- THE TIED CARD OF 'laws.FnExactHeightsOf'. -/
def fnExactHeightsOfCard : Claim7 := { stood := { row := fnExactHeightsOfRow, standIns := [], harness := (true, "478d9a97bfcde61f4fcca9a1c2ae476914d5fe1ac76b6a92d387ddfc425f9cbc"), looks := false }, kinds := [], alts := [], laidByText := true, laidKinds := [.data], laidTests := true, laidLooks := .later }
def FnExactHeightsOfCardSaid : Prop := Claim7.holds Tryd.pinned (.plain (OpenSpec.ofChange fnExactHeightsOfSpec)) fnExactHeightsOfCard

/-- THE TIED CARD OF 'laws.FnExactLeastTime'. -/
def fnExactLeastTimeCard : Claim7 := { stood := { row := fnExactLeastTimeRow, standIns := [], harness := (true, "478d9a97bfcde61f4fcca9a1c2ae476914d5fe1ac76b6a92d387ddfc425f9cbc"), looks := false }, kinds := [], alts := [], laidByText := true, laidKinds := [.data], laidTests := true, laidLooks := .later }
def FnExactLeastTimeCardSaid : Prop := Claim7.holds Tryd.pinned (.plain (OpenSpec.ofChange fnExactLeastTimeSpec)) fnExactLeastTimeCard

/-- THE TIED CARD OF 'laws.FnExactMoveBlock'. -/
def fnExactMoveBlockCard : Claim7 := { stood := { row := fnExactMoveBlockRow, standIns := [], harness := (true, "478d9a97bfcde61f4fcca9a1c2ae476914d5fe1ac76b6a92d387ddfc425f9cbc"), looks := false }, kinds := [], alts := [], laidByText := true, laidKinds := [.data], laidTests := true, laidLooks := .later }
def FnExactMoveBlockCardSaid : Prop := Claim7.holds Tryd.pinned (.plain (OpenSpec.ofChange fnExactMoveBlockSpec)) fnExactMoveBlockCard

/-- THE TIED CARD OF 'laws.FnExactPlanBlock'. -/
def fnExactPlanBlockCard : Claim7 := { stood := { row := fnExactPlanBlockRow, standIns := [], harness := (true, "478d9a97bfcde61f4fcca9a1c2ae476914d5fe1ac76b6a92d387ddfc425f9cbc"), looks := false }, kinds := [], alts := [], laidByText := true, laidKinds := [.data], laidTests := true, laidLooks := .later }
def FnExactPlanBlockCardSaid : Prop := Claim7.holds Tryd.pinned (.plain (OpenSpec.ofChange fnExactPlanBlockSpec)) fnExactPlanBlockCard

/-- THE TIED CARD OF 'laws.FnExactBestPlan'. -/
def fnExactBestPlanCard : Claim7 := { stood := { row := fnExactBestPlanRow, standIns := [], harness := (true, "478d9a97bfcde61f4fcca9a1c2ae476914d5fe1ac76b6a92d387ddfc425f9cbc"), looks := false }, kinds := [], alts := [], laidByText := true, laidKinds := [.data], laidTests := true, laidLooks := .later }
def FnExactBestPlanCardSaid : Prop := Claim7.holds Tryd.pinned (.plain (OpenSpec.ofChange fnExactBestPlanSpec)) fnExactBestPlanCard

/-- THE TIED CARD OF 'laws.FnValidBlock'. -/
def fnValidBlockCard : Claim7 := { stood := { row := fnValidBlockRow, standIns := [], harness := (true, "478d9a97bfcde61f4fcca9a1c2ae476914d5fe1ac76b6a92d387ddfc425f9cbc"), looks := false }, kinds := [], alts := [], laidByText := true, laidKinds := [.data], laidTests := true, laidLooks := .later }
def FnValidBlockCardSaid : Prop := Claim7.holds Tryd.pinned (.plain (OpenSpec.ofChange fnValidBlockSpec)) fnValidBlockCard

/-- THE TIED CARD OF 'laws.FnTicksOf'. -/
def fnTicksOfCard : Claim7 := { stood := { row := fnTicksOfRow, standIns := [], harness := (true, "478d9a97bfcde61f4fcca9a1c2ae476914d5fe1ac76b6a92d387ddfc425f9cbc"), looks := false }, kinds := [], alts := [], laidByText := true, laidKinds := [.data], laidTests := true, laidLooks := .later }
def FnTicksOfCardSaid : Prop := Claim7.holds Tryd.pinned (.plain (OpenSpec.ofChange fnTicksOfSpec)) fnTicksOfCard

/-- THE TIED CARD OF 'laws.FnLeastTime'. -/
def fnLeastTimeCard : Claim7 := { stood := { row := fnLeastTimeRow, standIns := [], harness := (true, "478d9a97bfcde61f4fcca9a1c2ae476914d5fe1ac76b6a92d387ddfc425f9cbc"), looks := false }, kinds := [], alts := [], laidByText := true, laidKinds := [.data], laidTests := true, laidLooks := .later }
def FnLeastTimeCardSaid : Prop := Claim7.holds Tryd.pinned (.plain (OpenSpec.ofChange fnLeastTimeSpec)) fnLeastTimeCard

/-- THE SECOND FORM's CARD OF 'laws.FnExactValidBlock'. -/
def fnExactValidBlockUptoCard : Claim7 := { stood := { row := fnExactValidBlockUptoRow, standIns := [], harness := (true, "478d9a97bfcde61f4fcca9a1c2ae476914d5fe1ac76b6a92d387ddfc425f9cbc"), looks := false }, kinds := [], alts := [], laidByText := true, laidKinds := [.data], laidTests := true, laidLooks := .later }
def FnExactValidBlockUptoCardSaid : Prop := Claim7.holds Tryd.pinned (.plain (OpenSpec.upto fnExactValidBlockSpec)) fnExactValidBlockUptoCard

/-- THE SECOND FORM's CARD OF 'laws.FnExactTicksOf'. -/
def fnExactTicksOfUptoCard : Claim7 := { stood := { row := fnExactTicksOfUptoRow, standIns := [], harness := (true, "478d9a97bfcde61f4fcca9a1c2ae476914d5fe1ac76b6a92d387ddfc425f9cbc"), looks := false }, kinds := [], alts := [], laidByText := true, laidKinds := [.data], laidTests := true, laidLooks := .later }
def FnExactTicksOfUptoCardSaid : Prop := Claim7.holds Tryd.pinned (.plain (OpenSpec.upto fnExactTicksOfSpec)) fnExactTicksOfUptoCard

/-- THE SECOND FORM's CARD OF 'laws.FnExactWaitsOf'. -/
def fnExactWaitsOfUptoCard : Claim7 := { stood := { row := fnExactWaitsOfUptoRow, standIns := [], harness := (true, "478d9a97bfcde61f4fcca9a1c2ae476914d5fe1ac76b6a92d387ddfc425f9cbc"), looks := false }, kinds := [], alts := [], laidByText := true, laidKinds := [.data], laidTests := true, laidLooks := .later }
def FnExactWaitsOfUptoCardSaid : Prop := Claim7.holds Tryd.pinned (.plain (OpenSpec.upto fnExactWaitsOfSpec)) fnExactWaitsOfUptoCard

/-- THE SECOND FORM's CARD OF 'laws.FnExactBlockTime'. -/
def fnExactBlockTimeUptoCard : Claim7 := { stood := { row := fnExactBlockTimeUptoRow, standIns := [], harness := (true, "478d9a97bfcde61f4fcca9a1c2ae476914d5fe1ac76b6a92d387ddfc425f9cbc"), looks := false }, kinds := [], alts := [], laidByText := true, laidKinds := [.data], laidTests := true, laidLooks := .later }
def FnExactBlockTimeUptoCardSaid : Prop := Claim7.holds Tryd.pinned (.plain (OpenSpec.upto fnExactBlockTimeSpec)) fnExactBlockTimeUptoCard

/-- THE SECOND FORM's CARD OF 'laws.FnExactHeightsOf'. -/
def fnExactHeightsOfUptoCard : Claim7 := { stood := { row := fnExactHeightsOfUptoRow, standIns := [], harness := (true, "478d9a97bfcde61f4fcca9a1c2ae476914d5fe1ac76b6a92d387ddfc425f9cbc"), looks := false }, kinds := [], alts := [], laidByText := true, laidKinds := [.data], laidTests := true, laidLooks := .later }
def FnExactHeightsOfUptoCardSaid : Prop := Claim7.holds Tryd.pinned (.plain (OpenSpec.upto fnExactHeightsOfSpec)) fnExactHeightsOfUptoCard

/-- THE SECOND FORM's CARD OF 'laws.FnExactLeastTime'. -/
def fnExactLeastTimeUptoCard : Claim7 := { stood := { row := fnExactLeastTimeUptoRow, standIns := [], harness := (true, "478d9a97bfcde61f4fcca9a1c2ae476914d5fe1ac76b6a92d387ddfc425f9cbc"), looks := false }, kinds := [], alts := [], laidByText := true, laidKinds := [.data], laidTests := true, laidLooks := .later }
def FnExactLeastTimeUptoCardSaid : Prop := Claim7.holds Tryd.pinned (.plain (OpenSpec.upto fnExactLeastTimeSpec)) fnExactLeastTimeUptoCard

/-- THE SECOND FORM's CARD OF 'laws.FnExactMoveBlock'. -/
def fnExactMoveBlockUptoCard : Claim7 := { stood := { row := fnExactMoveBlockUptoRow, standIns := [], harness := (true, "478d9a97bfcde61f4fcca9a1c2ae476914d5fe1ac76b6a92d387ddfc425f9cbc"), looks := false }, kinds := [], alts := [], laidByText := true, laidKinds := [.data], laidTests := true, laidLooks := .later }
def FnExactMoveBlockUptoCardSaid : Prop := Claim7.holds Tryd.pinned (.plain (OpenSpec.upto fnExactMoveBlockSpec)) fnExactMoveBlockUptoCard

/-- THE SECOND FORM's CARD OF 'laws.FnExactPlanBlock'. -/
def fnExactPlanBlockUptoCard : Claim7 := { stood := { row := fnExactPlanBlockUptoRow, standIns := [], harness := (true, "478d9a97bfcde61f4fcca9a1c2ae476914d5fe1ac76b6a92d387ddfc425f9cbc"), looks := false }, kinds := [], alts := [], laidByText := true, laidKinds := [.data], laidTests := true, laidLooks := .later }
def FnExactPlanBlockUptoCardSaid : Prop := Claim7.holds Tryd.pinned (.plain (OpenSpec.upto fnExactPlanBlockSpec)) fnExactPlanBlockUptoCard

/-- THE SECOND FORM's CARD OF 'laws.FnExactBestPlan'. -/
def fnExactBestPlanUptoCard : Claim7 := { stood := { row := fnExactBestPlanUptoRow, standIns := [], harness := (true, "478d9a97bfcde61f4fcca9a1c2ae476914d5fe1ac76b6a92d387ddfc425f9cbc"), looks := false }, kinds := [], alts := [], laidByText := true, laidKinds := [.data], laidTests := true, laidLooks := .later }
def FnExactBestPlanUptoCardSaid : Prop := Claim7.holds Tryd.pinned (.plain (OpenSpec.upto fnExactBestPlanSpec)) fnExactBestPlanUptoCard

/-- THE SECOND FORM's CARD OF 'laws.FnValidBlock'. -/
def fnValidBlockUptoCard : Claim7 := { stood := { row := fnValidBlockUptoRow, standIns := [], harness := (true, "478d9a97bfcde61f4fcca9a1c2ae476914d5fe1ac76b6a92d387ddfc425f9cbc"), looks := false }, kinds := [], alts := [], laidByText := true, laidKinds := [.data], laidTests := true, laidLooks := .later }
def FnValidBlockUptoCardSaid : Prop := Claim7.holds Tryd.pinned (.plain (OpenSpec.upto fnValidBlockSpec)) fnValidBlockUptoCard

/-- THE SECOND FORM's CARD OF 'laws.FnTicksOf'. -/
def fnTicksOfUptoCard : Claim7 := { stood := { row := fnTicksOfUptoRow, standIns := [], harness := (true, "478d9a97bfcde61f4fcca9a1c2ae476914d5fe1ac76b6a92d387ddfc425f9cbc"), looks := false }, kinds := [], alts := [], laidByText := true, laidKinds := [.data], laidTests := true, laidLooks := .later }
def FnTicksOfUptoCardSaid : Prop := Claim7.holds Tryd.pinned (.plain (OpenSpec.upto fnTicksOfSpec)) fnTicksOfUptoCard

/-- THE SECOND FORM's CARD OF 'laws.FnLeastTime'. -/
def fnLeastTimeUptoCard : Claim7 := { stood := { row := fnLeastTimeUptoRow, standIns := [], harness := (true, "478d9a97bfcde61f4fcca9a1c2ae476914d5fe1ac76b6a92d387ddfc425f9cbc"), looks := false }, kinds := [], alts := [], laidByText := true, laidKinds := [.data], laidTests := true, laidLooks := .later }
def FnLeastTimeUptoCardSaid : Prop := Claim7.holds Tryd.pinned (.plain (OpenSpec.upto fnLeastTimeSpec)) fnLeastTimeUptoCard
end Rows
end Go.Proofs.YtlhfmjlcpcopkaaDoor
