/-
  DERIVED. GIVEN WITH THE SEED: THE CARDS: each row of YthmllcpldgbbcaaDoorRows.lean that lists a variable, with what it lists TIED to the program's text (the seventh form; the later family's looks); each row that meets fmt, with fmt's text TOLD by the authors' own Lean function (tested against real Go, not proved from fmt's source: count such statements apart). THE CARD IS WHAT COUNTS. Prove the row's statement (the work); the ties are given (YthmllcpldgbbcaaDoorTie.lean); close each card by the builder's one call (the guide's Derived/Test/ToyasCard.lean, 'card_holds'). Laid BY PROGRAM, IN A SANDBOX (cutbox-door.mjs). By AI agents, Wed Nov 11 2026. No macro, syntax, notation, axiom, sorry.
-/
import Derived.Test.YthmllcpldgbbcaaDoorRows
import GoSem.ClaimSeven
namespace Go.Proofs.YthmllcpldgbbcaaDoor
namespace Rows

/-- THE TIED CARD OF 'laws.FnBlocks'. -/
def fnBlocksCard : Claim7 := { stood := { row := fnBlocksRow, standIns := [], harness := (true, "2ee4a349420145bc0bc40b753e7fcf9523eb336974c018cef25469253f477944"), looks := false }, kinds := [], alts := [], laidByText := true, laidKinds := [.data], laidTests := true, laidLooks := .later }
def FnBlocksCardSaid : Prop := Claim7.holds Tryd.pinned (.plain (OpenSpec.ofChange fnBlocksSpec)) fnBlocksCard

/-- THE TIED CARD OF 'laws.FnExactProgramOk'. -/
def fnExactProgramOkCard : Claim7 := { stood := { row := fnExactProgramOkRow, standIns := [], harness := (true, "2ee4a349420145bc0bc40b753e7fcf9523eb336974c018cef25469253f477944"), looks := false }, kinds := [], alts := [], laidByText := true, laidKinds := [.data], laidTests := true, laidLooks := .later }
def FnExactProgramOkCardSaid : Prop := Claim7.holds Tryd.pinned (.plain (OpenSpec.ofChange fnExactProgramOkSpec)) fnExactProgramOkCard

/-- THE SECOND FORM's CARD OF 'laws.FnBlocks'. -/
def fnBlocksUptoCard : Claim7 := { stood := { row := fnBlocksUptoRow, standIns := [], harness := (true, "2ee4a349420145bc0bc40b753e7fcf9523eb336974c018cef25469253f477944"), looks := false }, kinds := [], alts := [], laidByText := true, laidKinds := [.data], laidTests := true, laidLooks := .later }
def FnBlocksUptoCardSaid : Prop := Claim7.holds Tryd.pinned (.plain (OpenSpec.upto fnBlocksSpec)) fnBlocksUptoCard

/-- THE SECOND FORM's CARD OF 'laws.FnExactProgramOk'. -/
def fnExactProgramOkUptoCard : Claim7 := { stood := { row := fnExactProgramOkUptoRow, standIns := [], harness := (true, "2ee4a349420145bc0bc40b753e7fcf9523eb336974c018cef25469253f477944"), looks := false }, kinds := [], alts := [], laidByText := true, laidKinds := [.data], laidTests := true, laidLooks := .later }
def FnExactProgramOkUptoCardSaid : Prop := Claim7.holds Tryd.pinned (.plain (OpenSpec.upto fnExactProgramOkSpec)) fnExactProgramOkUptoCard
end Rows
end Go.Proofs.YthmllcpldgbbcaaDoor
