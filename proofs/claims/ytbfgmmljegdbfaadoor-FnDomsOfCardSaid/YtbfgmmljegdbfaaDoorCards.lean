/-
  DERIVED. GIVEN WITH THE SEED: THE CARDS: each row of YtbfgmmljegdbfaaDoorRows.lean that lists a variable, with what it lists TIED to the program's text (the seventh form; the later family's looks); each row that meets fmt, with fmt's text TOLD by the authors' own Lean function (tested against real Go, not proved from fmt's source: count such statements apart). THE CARD IS WHAT COUNTS. Prove the row's statement (the work); the ties are given (YtbfgmmljegdbfaaDoorTie.lean); close each card by the builder's one call (the guide's Derived/Test/ToyasCard.lean, 'card_holds'). Laid BY PROGRAM, IN A SANDBOX (cutbox-door.mjs). By AI agents, Wed Nov 11 2026. No macro, syntax, notation, axiom, sorry.
-/
import Derived.Test.YtbfgmmljegdbfaaDoorRows
import GoSem.ClaimSeven
namespace Go.Proofs.YtbfgmmljegdbfaaDoor
namespace Rows

/-- THE TIED CARD OF 'laws.FnExactReachOf'. -/
def fnExactReachOfCard : Claim7 := { stood := { row := fnExactReachOfRow, standIns := [], harness := (true, "c8792b6d8a45fb4b3257abcf14b3181c97f055eaa201e3cd6a249c3839175b15"), looks := false }, kinds := [], alts := [], laidByText := true, laidKinds := [.data], laidTests := true, laidLooks := .later }
def FnExactReachOfCardSaid : Prop := Claim7.holds Tryd.pinned (.plain (OpenSpec.ofChange fnExactReachOfSpec)) fnExactReachOfCard

/-- THE TIED CARD OF 'laws.FnReachOf'. -/
def fnReachOfCard : Claim7 := { stood := { row := fnReachOfRow, standIns := [], harness := (true, "c8792b6d8a45fb4b3257abcf14b3181c97f055eaa201e3cd6a249c3839175b15"), looks := false }, kinds := [], alts := [], laidByText := true, laidKinds := [.data], laidTests := true, laidLooks := .later }
def FnReachOfCardSaid : Prop := Claim7.holds Tryd.pinned (.plain (OpenSpec.ofChange fnReachOfSpec)) fnReachOfCard

/-- THE TIED CARD OF 'laws.FnExactDomsOf'. -/
def fnExactDomsOfCard : Claim7 := { stood := { row := fnExactDomsOfRow, standIns := [], harness := (true, "c8792b6d8a45fb4b3257abcf14b3181c97f055eaa201e3cd6a249c3839175b15"), looks := false }, kinds := [], alts := [], laidByText := true, laidKinds := [.data], laidTests := true, laidLooks := .later }
def FnExactDomsOfCardSaid : Prop := Claim7.holds Tryd.pinned (.plain (OpenSpec.ofChange fnExactDomsOfSpec)) fnExactDomsOfCard

/-- THE TIED CARD OF 'laws.FnDomsOf'. -/
def fnDomsOfCard : Claim7 := { stood := { row := fnDomsOfRow, standIns := [], harness := (true, "c8792b6d8a45fb4b3257abcf14b3181c97f055eaa201e3cd6a249c3839175b15"), looks := false }, kinds := [], alts := [], laidByText := true, laidKinds := [.data], laidTests := true, laidLooks := .later }
def FnDomsOfCardSaid : Prop := Claim7.holds Tryd.pinned (.plain (OpenSpec.ofChange fnDomsOfSpec)) fnDomsOfCard

/-- THE TIED CARD OF 'laws.FnExactLiveOf'. -/
def fnExactLiveOfCard : Claim7 := { stood := { row := fnExactLiveOfRow, standIns := [], harness := (true, "c8792b6d8a45fb4b3257abcf14b3181c97f055eaa201e3cd6a249c3839175b15"), looks := false }, kinds := [], alts := [], laidByText := true, laidKinds := [.data], laidTests := true, laidLooks := .later }
def FnExactLiveOfCardSaid : Prop := Claim7.holds Tryd.pinned (.plain (OpenSpec.ofChange fnExactLiveOfSpec)) fnExactLiveOfCard

/-- THE TIED CARD OF 'laws.FnLiveOf'. -/
def fnLiveOfCard : Claim7 := { stood := { row := fnLiveOfRow, standIns := [], harness := (true, "c8792b6d8a45fb4b3257abcf14b3181c97f055eaa201e3cd6a249c3839175b15"), looks := false }, kinds := [], alts := [], laidByText := true, laidKinds := [.data], laidTests := true, laidLooks := .later }
def FnLiveOfCardSaid : Prop := Claim7.holds Tryd.pinned (.plain (OpenSpec.ofChange fnLiveOfSpec)) fnLiveOfCard

/-- THE TIED CARD OF 'laws.FnExactDropDead'. -/
def fnExactDropDeadCard : Claim7 := { stood := { row := fnExactDropDeadRow, standIns := [], harness := (true, "c8792b6d8a45fb4b3257abcf14b3181c97f055eaa201e3cd6a249c3839175b15"), looks := false }, kinds := [], alts := [], laidByText := true, laidKinds := [.data], laidTests := true, laidLooks := .later }
def FnExactDropDeadCardSaid : Prop := Claim7.holds Tryd.pinned (.plain (OpenSpec.ofChange fnExactDropDeadSpec)) fnExactDropDeadCard

/-- THE TIED CARD OF 'laws.FnDropDead'. -/
def fnDropDeadCard : Claim7 := { stood := { row := fnDropDeadRow, standIns := [], harness := (true, "c8792b6d8a45fb4b3257abcf14b3181c97f055eaa201e3cd6a249c3839175b15"), looks := false }, kinds := [], alts := [], laidByText := true, laidKinds := [.data], laidTests := true, laidLooks := .later }
def FnDropDeadCardSaid : Prop := Claim7.holds Tryd.pinned (.plain (OpenSpec.ofChange fnDropDeadSpec)) fnDropDeadCard

/-- THE TIED CARD OF 'laws.FnExactShrinkCode'. -/
def fnExactShrinkCodeCard : Claim7 := { stood := { row := fnExactShrinkCodeRow, standIns := [], harness := (true, "c8792b6d8a45fb4b3257abcf14b3181c97f055eaa201e3cd6a249c3839175b15"), looks := false }, kinds := [], alts := [], laidByText := true, laidKinds := [.data], laidTests := true, laidLooks := .later }
def FnExactShrinkCodeCardSaid : Prop := Claim7.holds Tryd.pinned (.plain (OpenSpec.ofChange fnExactShrinkCodeSpec)) fnExactShrinkCodeCard

/-- THE TIED CARD OF 'laws.FnShrinkCode'. -/
def fnShrinkCodeCard : Claim7 := { stood := { row := fnShrinkCodeRow, standIns := [], harness := (true, "c8792b6d8a45fb4b3257abcf14b3181c97f055eaa201e3cd6a249c3839175b15"), looks := false }, kinds := [], alts := [], laidByText := true, laidKinds := [.data], laidTests := true, laidLooks := .later }
def FnShrinkCodeCardSaid : Prop := Claim7.holds Tryd.pinned (.plain (OpenSpec.ofChange fnShrinkCodeSpec)) fnShrinkCodeCard

/-- THE SECOND FORM's CARD OF 'laws.FnExactReachOf'. -/
def fnExactReachOfUptoCard : Claim7 := { stood := { row := fnExactReachOfUptoRow, standIns := [], harness := (true, "c8792b6d8a45fb4b3257abcf14b3181c97f055eaa201e3cd6a249c3839175b15"), looks := false }, kinds := [], alts := [], laidByText := true, laidKinds := [.data], laidTests := true, laidLooks := .later }
def FnExactReachOfUptoCardSaid : Prop := Claim7.holds Tryd.pinned (.plain (OpenSpec.upto fnExactReachOfSpec)) fnExactReachOfUptoCard

/-- THE SECOND FORM's CARD OF 'laws.FnReachOf'. -/
def fnReachOfUptoCard : Claim7 := { stood := { row := fnReachOfUptoRow, standIns := [], harness := (true, "c8792b6d8a45fb4b3257abcf14b3181c97f055eaa201e3cd6a249c3839175b15"), looks := false }, kinds := [], alts := [], laidByText := true, laidKinds := [.data], laidTests := true, laidLooks := .later }
def FnReachOfUptoCardSaid : Prop := Claim7.holds Tryd.pinned (.plain (OpenSpec.upto fnReachOfSpec)) fnReachOfUptoCard

/-- THE SECOND FORM's CARD OF 'laws.FnExactDomsOf'. -/
def fnExactDomsOfUptoCard : Claim7 := { stood := { row := fnExactDomsOfUptoRow, standIns := [], harness := (true, "c8792b6d8a45fb4b3257abcf14b3181c97f055eaa201e3cd6a249c3839175b15"), looks := false }, kinds := [], alts := [], laidByText := true, laidKinds := [.data], laidTests := true, laidLooks := .later }
def FnExactDomsOfUptoCardSaid : Prop := Claim7.holds Tryd.pinned (.plain (OpenSpec.upto fnExactDomsOfSpec)) fnExactDomsOfUptoCard

/-- THE SECOND FORM's CARD OF 'laws.FnDomsOf'. -/
def fnDomsOfUptoCard : Claim7 := { stood := { row := fnDomsOfUptoRow, standIns := [], harness := (true, "c8792b6d8a45fb4b3257abcf14b3181c97f055eaa201e3cd6a249c3839175b15"), looks := false }, kinds := [], alts := [], laidByText := true, laidKinds := [.data], laidTests := true, laidLooks := .later }
def FnDomsOfUptoCardSaid : Prop := Claim7.holds Tryd.pinned (.plain (OpenSpec.upto fnDomsOfSpec)) fnDomsOfUptoCard

/-- THE SECOND FORM's CARD OF 'laws.FnExactLiveOf'. -/
def fnExactLiveOfUptoCard : Claim7 := { stood := { row := fnExactLiveOfUptoRow, standIns := [], harness := (true, "c8792b6d8a45fb4b3257abcf14b3181c97f055eaa201e3cd6a249c3839175b15"), looks := false }, kinds := [], alts := [], laidByText := true, laidKinds := [.data], laidTests := true, laidLooks := .later }
def FnExactLiveOfUptoCardSaid : Prop := Claim7.holds Tryd.pinned (.plain (OpenSpec.upto fnExactLiveOfSpec)) fnExactLiveOfUptoCard

/-- THE SECOND FORM's CARD OF 'laws.FnLiveOf'. -/
def fnLiveOfUptoCard : Claim7 := { stood := { row := fnLiveOfUptoRow, standIns := [], harness := (true, "c8792b6d8a45fb4b3257abcf14b3181c97f055eaa201e3cd6a249c3839175b15"), looks := false }, kinds := [], alts := [], laidByText := true, laidKinds := [.data], laidTests := true, laidLooks := .later }
def FnLiveOfUptoCardSaid : Prop := Claim7.holds Tryd.pinned (.plain (OpenSpec.upto fnLiveOfSpec)) fnLiveOfUptoCard

/-- THE SECOND FORM's CARD OF 'laws.FnExactDropDead'. -/
def fnExactDropDeadUptoCard : Claim7 := { stood := { row := fnExactDropDeadUptoRow, standIns := [], harness := (true, "c8792b6d8a45fb4b3257abcf14b3181c97f055eaa201e3cd6a249c3839175b15"), looks := false }, kinds := [], alts := [], laidByText := true, laidKinds := [.data], laidTests := true, laidLooks := .later }
def FnExactDropDeadUptoCardSaid : Prop := Claim7.holds Tryd.pinned (.plain (OpenSpec.upto fnExactDropDeadSpec)) fnExactDropDeadUptoCard

/-- THE SECOND FORM's CARD OF 'laws.FnDropDead'. -/
def fnDropDeadUptoCard : Claim7 := { stood := { row := fnDropDeadUptoRow, standIns := [], harness := (true, "c8792b6d8a45fb4b3257abcf14b3181c97f055eaa201e3cd6a249c3839175b15"), looks := false }, kinds := [], alts := [], laidByText := true, laidKinds := [.data], laidTests := true, laidLooks := .later }
def FnDropDeadUptoCardSaid : Prop := Claim7.holds Tryd.pinned (.plain (OpenSpec.upto fnDropDeadSpec)) fnDropDeadUptoCard

/-- THE SECOND FORM's CARD OF 'laws.FnExactShrinkCode'. -/
def fnExactShrinkCodeUptoCard : Claim7 := { stood := { row := fnExactShrinkCodeUptoRow, standIns := [], harness := (true, "c8792b6d8a45fb4b3257abcf14b3181c97f055eaa201e3cd6a249c3839175b15"), looks := false }, kinds := [], alts := [], laidByText := true, laidKinds := [.data], laidTests := true, laidLooks := .later }
def FnExactShrinkCodeUptoCardSaid : Prop := Claim7.holds Tryd.pinned (.plain (OpenSpec.upto fnExactShrinkCodeSpec)) fnExactShrinkCodeUptoCard

/-- THE SECOND FORM's CARD OF 'laws.FnShrinkCode'. -/
def fnShrinkCodeUptoCard : Claim7 := { stood := { row := fnShrinkCodeUptoRow, standIns := [], harness := (true, "c8792b6d8a45fb4b3257abcf14b3181c97f055eaa201e3cd6a249c3839175b15"), looks := false }, kinds := [], alts := [], laidByText := true, laidKinds := [.data], laidTests := true, laidLooks := .later }
def FnShrinkCodeUptoCardSaid : Prop := Claim7.holds Tryd.pinned (.plain (OpenSpec.upto fnShrinkCodeSpec)) fnShrinkCodeUptoCard
end Rows
end Go.Proofs.YtbfgmmljegdbfaaDoor
