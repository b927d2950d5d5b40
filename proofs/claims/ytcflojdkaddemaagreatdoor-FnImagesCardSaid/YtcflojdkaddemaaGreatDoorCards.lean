/-
  DERIVED. GIVEN WITH THE SEED: THE CARDS: each row of YtcflojdkaddemaaGreatDoorRows.lean that lists a variable, with what it lists TIED to the program's text (the seventh form; the later family's looks); each row that meets fmt, with fmt's text TOLD by the authors' own Lean function (tested against real Go, not proved from fmt's source: count such statements apart). THE CARD IS WHAT COUNTS. Prove the row's statement (the work); the ties are given (YtcflojdkaddemaaGreatDoorTie.lean); close each card by the builder's one call (the guide's Derived/Test/ToyasCard.lean, 'card_holds'). Laid BY PROGRAM, IN A SANDBOX (cutbox-door.mjs). By AI agents, Wed Nov 11 2026. No macro, syntax, notation, axiom, sorry.
-/
import Derived.Test.YtcflojdkaddemaaGreatDoorRows
import GoSem.ClaimSeven
namespace Go.Proofs.YtcflojdkaddemaaGreatDoor
namespace Rows

/-- THE TIED CARD OF 'laws.FnImages'. -/
def fnImagesCard : Claim7 := { stood := { row := fnImagesRow, standIns := [], harness := (true, "35d2108edcac86080d167fd319af0ff5aa1d65c103b2c5da1d5cfd25fe25602c"), looks := true }, kinds := [], alts := [], laidByText := true, laidKinds := [.data], laidTests := true, laidLooks := .later }
def FnImagesCardSaid : Prop := Claim7.holds Tryz.pinned (.plain (OpenSpec.ofChange fnImagesSpec)) fnImagesCard

/-- THE TIED CARD OF 'laws.FnSpaces'. -/
def fnSpacesCard : Claim7 := { stood := { row := fnSpacesRow, standIns := [], harness := (true, "35d2108edcac86080d167fd319af0ff5aa1d65c103b2c5da1d5cfd25fe25602c"), looks := true }, kinds := [], alts := [], laidByText := true, laidKinds := [.data], laidTests := true, laidLooks := .later }
def FnSpacesCardSaid : Prop := Claim7.holds Tryz.pinned (.plain (OpenSpec.ofChange fnSpacesSpec)) fnSpacesCard

/-- THE TIED CARD OF 'laws.FnExactCompileFunction'. -/
def fnExactCompileFunctionCard : Claim7 := { stood := { row := fnExactCompileFunctionRow, standIns := [], harness := (true, "35d2108edcac86080d167fd319af0ff5aa1d65c103b2c5da1d5cfd25fe25602c"), looks := true }, kinds := [], alts := [], laidByText := true, laidKinds := [.data], laidTests := true, laidLooks := .later }
def FnExactCompileFunctionCardSaid : Prop := Claim7.holds Tryz.pinned (.plain (OpenSpec.ofChange fnExactCompileFunctionSpec)) fnExactCompileFunctionCard

/-- THE TIED CARD OF 'laws.FnExactPlacesOf'. -/
def fnExactPlacesOfCard : Claim7 := { stood := { row := fnExactPlacesOfRow, standIns := [], harness := (true, "35d2108edcac86080d167fd319af0ff5aa1d65c103b2c5da1d5cfd25fe25602c"), looks := true }, kinds := [], alts := [], laidByText := true, laidKinds := [.data], laidTests := true, laidLooks := .later }
def FnExactPlacesOfCardSaid : Prop := Claim7.holds Tryz.pinned (.plain (OpenSpec.ofChange fnExactPlacesOfSpec)) fnExactPlacesOfCard

/-- THE TIED CARD OF 'laws.FnExactAssembleImage'. -/
def fnExactAssembleImageCard : Claim7 := { stood := { row := fnExactAssembleImageRow, standIns := [], harness := (true, "35d2108edcac86080d167fd319af0ff5aa1d65c103b2c5da1d5cfd25fe25602c"), looks := true }, kinds := [], alts := [], laidByText := true, laidKinds := [.data], laidTests := true, laidLooks := .later }
def FnExactAssembleImageCardSaid : Prop := Claim7.holds Tryz.pinned (.plain (OpenSpec.ofChange fnExactAssembleImageSpec)) fnExactAssembleImageCard

/-- THE TIED CARD OF 'laws.FnExactLoadSpace'. -/
def fnExactLoadSpaceCard : Claim7 := { stood := { row := fnExactLoadSpaceRow, standIns := [], harness := (true, "35d2108edcac86080d167fd319af0ff5aa1d65c103b2c5da1d5cfd25fe25602c"), looks := true }, kinds := [], alts := [], laidByText := true, laidKinds := [.data], laidTests := true, laidLooks := .later }
def FnExactLoadSpaceCardSaid : Prop := Claim7.holds Tryz.pinned (.plain (OpenSpec.ofChange fnExactLoadSpaceSpec)) fnExactLoadSpaceCard

/-- THE SECOND FORM's CARD OF 'laws.FnImages'. -/
def fnImagesUptoCard : Claim7 := { stood := { row := fnImagesUptoRow, standIns := [], harness := (true, "35d2108edcac86080d167fd319af0ff5aa1d65c103b2c5da1d5cfd25fe25602c"), looks := true }, kinds := [], alts := [], laidByText := true, laidKinds := [.data], laidTests := true, laidLooks := .later }
def FnImagesUptoCardSaid : Prop := Claim7.holds Tryz.pinned (.plain (OpenSpec.upto fnImagesSpec)) fnImagesUptoCard

/-- THE SECOND FORM's CARD OF 'laws.FnSpaces'. -/
def fnSpacesUptoCard : Claim7 := { stood := { row := fnSpacesUptoRow, standIns := [], harness := (true, "35d2108edcac86080d167fd319af0ff5aa1d65c103b2c5da1d5cfd25fe25602c"), looks := true }, kinds := [], alts := [], laidByText := true, laidKinds := [.data], laidTests := true, laidLooks := .later }
def FnSpacesUptoCardSaid : Prop := Claim7.holds Tryz.pinned (.plain (OpenSpec.upto fnSpacesSpec)) fnSpacesUptoCard

/-- THE SECOND FORM's CARD OF 'laws.FnExactCompileFunction'. -/
def fnExactCompileFunctionUptoCard : Claim7 := { stood := { row := fnExactCompileFunctionUptoRow, standIns := [], harness := (true, "35d2108edcac86080d167fd319af0ff5aa1d65c103b2c5da1d5cfd25fe25602c"), looks := true }, kinds := [], alts := [], laidByText := true, laidKinds := [.data], laidTests := true, laidLooks := .later }
def FnExactCompileFunctionUptoCardSaid : Prop := Claim7.holds Tryz.pinned (.plain (OpenSpec.upto fnExactCompileFunctionSpec)) fnExactCompileFunctionUptoCard

/-- THE SECOND FORM's CARD OF 'laws.FnExactPlacesOf'. -/
def fnExactPlacesOfUptoCard : Claim7 := { stood := { row := fnExactPlacesOfUptoRow, standIns := [], harness := (true, "35d2108edcac86080d167fd319af0ff5aa1d65c103b2c5da1d5cfd25fe25602c"), looks := true }, kinds := [], alts := [], laidByText := true, laidKinds := [.data], laidTests := true, laidLooks := .later }
def FnExactPlacesOfUptoCardSaid : Prop := Claim7.holds Tryz.pinned (.plain (OpenSpec.upto fnExactPlacesOfSpec)) fnExactPlacesOfUptoCard

/-- THE SECOND FORM's CARD OF 'laws.FnExactAssembleImage'. -/
def fnExactAssembleImageUptoCard : Claim7 := { stood := { row := fnExactAssembleImageUptoRow, standIns := [], harness := (true, "35d2108edcac86080d167fd319af0ff5aa1d65c103b2c5da1d5cfd25fe25602c"), looks := true }, kinds := [], alts := [], laidByText := true, laidKinds := [.data], laidTests := true, laidLooks := .later }
def FnExactAssembleImageUptoCardSaid : Prop := Claim7.holds Tryz.pinned (.plain (OpenSpec.upto fnExactAssembleImageSpec)) fnExactAssembleImageUptoCard

/-- THE SECOND FORM's CARD OF 'laws.FnExactLoadSpace'. -/
def fnExactLoadSpaceUptoCard : Claim7 := { stood := { row := fnExactLoadSpaceUptoRow, standIns := [], harness := (true, "35d2108edcac86080d167fd319af0ff5aa1d65c103b2c5da1d5cfd25fe25602c"), looks := true }, kinds := [], alts := [], laidByText := true, laidKinds := [.data], laidTests := true, laidLooks := .later }
def FnExactLoadSpaceUptoCardSaid : Prop := Claim7.holds Tryz.pinned (.plain (OpenSpec.upto fnExactLoadSpaceSpec)) fnExactLoadSpaceUptoCard
end Rows
end Go.Proofs.YtcflojdkaddemaaGreatDoor
