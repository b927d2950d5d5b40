/-
  DERIVED. GIVEN WITH THE SEED: THE CARDS: each row of YtcffmdmdojkggaaDoorRows.lean that lists a variable, with what it lists TIED to the program's text (the seventh form; the later family's looks); each row that meets fmt, with fmt's text TOLD by the authors' own Lean function (tested against real Go, not proved from fmt's source: count such statements apart). THE CARD IS WHAT COUNTS. Prove the row's statement (the work); the ties are given (YtcffmdmdojkggaaDoorTie.lean); close each card by the builder's one call (the guide's Derived/Test/ToyasCard.lean, 'card_holds'). Laid BY PROGRAM, IN A SANDBOX (cutbox-door.mjs). By AI agents, Wed Nov 11 2026. No macro, syntax, notation, axiom, sorry.
-/
import Derived.Test.YtcffmdmdojkggaaDoorRows
import GoSem.ClaimSeven
namespace Go.Proofs.YtcffmdmdojkggaaDoor
namespace Rows

/-- THE TIED CARD OF 'laws.FnLimits'. -/
def fnLimitsCard : Claim7 := { stood := { row := fnLimitsRow, standIns := [], harness := (true, "326429349b88d82849a5619dc894b1cf51da27dc383a76e0af3c99fa81cac4f3"), looks := true }, kinds := [], alts := [], laidByText := true, laidKinds := [.data], laidTests := true, laidLooks := .later }
def FnLimitsCardSaid : Prop := Claim7.holds Tryd.pinned (.plain (OpenSpec.ofChange fnLimitsSpec)) fnLimitsCard

/-- THE TIED CARD OF 'laws.FnVisitShapes'. -/
def fnVisitShapesCard : Claim7 := { stood := { row := fnVisitShapesRow, standIns := [], harness := (true, "326429349b88d82849a5619dc894b1cf51da27dc383a76e0af3c99fa81cac4f3"), looks := true }, kinds := [], alts := [], laidByText := true, laidKinds := [.data], laidTests := true, laidLooks := .later }
def FnVisitShapesCardSaid : Prop := Claim7.holds Tryd.pinned (.plain (OpenSpec.ofChange fnVisitShapesSpec)) fnVisitShapesCard

/-- THE SECOND FORM's CARD OF 'laws.FnLimits'. -/
def fnLimitsUptoCard : Claim7 := { stood := { row := fnLimitsUptoRow, standIns := [], harness := (true, "326429349b88d82849a5619dc894b1cf51da27dc383a76e0af3c99fa81cac4f3"), looks := true }, kinds := [], alts := [], laidByText := true, laidKinds := [.data], laidTests := true, laidLooks := .later }
def FnLimitsUptoCardSaid : Prop := Claim7.holds Tryd.pinned (.plain (OpenSpec.upto fnLimitsSpec)) fnLimitsUptoCard

/-- THE SECOND FORM's CARD OF 'laws.FnVisitShapes'. -/
def fnVisitShapesUptoCard : Claim7 := { stood := { row := fnVisitShapesUptoRow, standIns := [], harness := (true, "326429349b88d82849a5619dc894b1cf51da27dc383a76e0af3c99fa81cac4f3"), looks := true }, kinds := [], alts := [], laidByText := true, laidKinds := [.data], laidTests := true, laidLooks := .later }
def FnVisitShapesUptoCardSaid : Prop := Claim7.holds Tryd.pinned (.plain (OpenSpec.upto fnVisitShapesSpec)) fnVisitShapesUptoCard
end Rows
end Go.Proofs.YtcffmdmdojkggaaDoor
