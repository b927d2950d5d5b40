/-
  DERIVED. GIVEN WITH THE SEED: THE CARDS: each row of YtcffmdmdojkggaaGreatDoorRows.lean that lists a variable, with what it lists TIED to the program's text (the seventh form; the later family's looks); each row that meets fmt, with fmt's text TOLD by the authors' own Lean function (tested against real Go, not proved from fmt's source: count such statements apart). THE CARD IS WHAT COUNTS. Prove the row's statement (the work); the ties are given (YtcffmdmdojkggaaGreatDoorTie.lean); close each card by the builder's one call (the guide's Derived/Test/ToyasCard.lean, 'card_holds'). Laid BY PROGRAM, IN A SANDBOX (cutbox-door.mjs). By AI agents, Wed Nov 11 2026. No macro, syntax, notation, axiom, sorry.
-/
import Derived.Test.YtcffmdmdojkggaaGreatDoorRows
import GoSem.ClaimSeven
namespace Go.Proofs.YtcffmdmdojkggaaGreatDoor
namespace Rows

/-- THE TIED CARD OF 'laws.FnExactInterpret'. -/
def fnExactInterpretCard : Claim7 := { stood := { row := fnExactInterpretRow, standIns := [], harness := (true, "577b0ea6962f5040828ea7acf1a128ed2f879571fef6efceaa560928e2b43429"), looks := true }, kinds := [], alts := [], laidByText := true, laidKinds := [.data], laidTests := true, laidLooks := .later }
def FnExactInterpretCardSaid : Prop := Claim7.holds Tryz.pinned (.plain (OpenSpec.ofChange fnExactInterpretSpec)) fnExactInterpretCard

/-- THE SECOND FORM's CARD OF 'laws.FnExactInterpret'. -/
def fnExactInterpretUptoCard : Claim7 := { stood := { row := fnExactInterpretUptoRow, standIns := [], harness := (true, "577b0ea6962f5040828ea7acf1a128ed2f879571fef6efceaa560928e2b43429"), looks := true }, kinds := [], alts := [], laidByText := true, laidKinds := [.data], laidTests := true, laidLooks := .later }
def FnExactInterpretUptoCardSaid : Prop := Claim7.holds Tryz.pinned (.plain (OpenSpec.upto fnExactInterpretSpec)) fnExactInterpretUptoCard
end Rows
end Go.Proofs.YtcffmdmdojkggaaGreatDoor
