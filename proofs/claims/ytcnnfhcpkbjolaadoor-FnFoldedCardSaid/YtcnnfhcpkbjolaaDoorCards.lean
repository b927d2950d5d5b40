/-
  DERIVED. GIVEN WITH THE SEED: THE CARDS: each row of YtcnnfhcpkbjolaaDoorRows.lean that lists a variable, with what it lists TIED to the program's text (the seventh form; the later family's looks); each row that meets fmt, with fmt's text TOLD by the authors' own Lean function (tested against real Go, not proved from fmt's source: count such statements apart). THE CARD IS WHAT COUNTS. Prove the row's statement (the work); the ties are given (YtcnnfhcpkbjolaaDoorTie.lean); close each card by the builder's one call (the guide's Derived/Test/ToyasCard.lean, 'card_holds'). Laid BY PROGRAM, IN A SANDBOX (cutbox-door.mjs). By AI agents, Wed Nov 11 2026. No macro, syntax, notation, axiom, sorry.
-/
import Derived.Test.YtcnnfhcpkbjolaaDoorRows
import GoSem.ClaimSeven
namespace Go.Proofs.YtcnnfhcpkbjolaaDoor
namespace Rows

/-- THE TIED CARD OF 'laws.FnFolded'. -/
def fnFoldedCard : Claim7 := { stood := { row := fnFoldedRow, standIns := [], harness := (true, "75be80fa2632d28825c5d47378756f320e515b5dad6fed52d934e66496cfd93e"), looks := false }, kinds := [], alts := [], laidByText := true, laidKinds := [.data], laidTests := true, laidLooks := .later }
def FnFoldedCardSaid : Prop := Claim7.holds Tryd.pinned (.plain (OpenSpec.ofChange fnFoldedSpec)) fnFoldedCard

/-- THE TIED CARD OF 'laws.FnExactFoldProgram'. -/
def fnExactFoldProgramCard : Claim7 := { stood := { row := fnExactFoldProgramRow, standIns := [], harness := (true, "75be80fa2632d28825c5d47378756f320e515b5dad6fed52d934e66496cfd93e"), looks := false }, kinds := [], alts := [], laidByText := true, laidKinds := [.data], laidTests := true, laidLooks := .later }
def FnExactFoldProgramCardSaid : Prop := Claim7.holds Tryd.pinned (.plain (OpenSpec.ofChange fnExactFoldProgramSpec)) fnExactFoldProgramCard

/-- THE TIED CARD OF 'laws.FnExactSavedTokens'. -/
def fnExactSavedTokensCard : Claim7 := { stood := { row := fnExactSavedTokensRow, standIns := [], harness := (true, "75be80fa2632d28825c5d47378756f320e515b5dad6fed52d934e66496cfd93e"), looks := false }, kinds := [], alts := [], laidByText := true, laidKinds := [.data], laidTests := true, laidLooks := .later }
def FnExactSavedTokensCardSaid : Prop := Claim7.holds Tryd.pinned (.plain (OpenSpec.ofChange fnExactSavedTokensSpec)) fnExactSavedTokensCard

/-- THE SECOND FORM's CARD OF 'laws.FnFolded'. -/
def fnFoldedUptoCard : Claim7 := { stood := { row := fnFoldedUptoRow, standIns := [], harness := (true, "75be80fa2632d28825c5d47378756f320e515b5dad6fed52d934e66496cfd93e"), looks := false }, kinds := [], alts := [], laidByText := true, laidKinds := [.data], laidTests := true, laidLooks := .later }
def FnFoldedUptoCardSaid : Prop := Claim7.holds Tryd.pinned (.plain (OpenSpec.upto fnFoldedSpec)) fnFoldedUptoCard

/-- THE SECOND FORM's CARD OF 'laws.FnExactFoldProgram'. -/
def fnExactFoldProgramUptoCard : Claim7 := { stood := { row := fnExactFoldProgramUptoRow, standIns := [], harness := (true, "75be80fa2632d28825c5d47378756f320e515b5dad6fed52d934e66496cfd93e"), looks := false }, kinds := [], alts := [], laidByText := true, laidKinds := [.data], laidTests := true, laidLooks := .later }
def FnExactFoldProgramUptoCardSaid : Prop := Claim7.holds Tryd.pinned (.plain (OpenSpec.upto fnExactFoldProgramSpec)) fnExactFoldProgramUptoCard

/-- THE SECOND FORM's CARD OF 'laws.FnExactSavedTokens'. -/
def fnExactSavedTokensUptoCard : Claim7 := { stood := { row := fnExactSavedTokensUptoRow, standIns := [], harness := (true, "75be80fa2632d28825c5d47378756f320e515b5dad6fed52d934e66496cfd93e"), looks := false }, kinds := [], alts := [], laidByText := true, laidKinds := [.data], laidTests := true, laidLooks := .later }
def FnExactSavedTokensUptoCardSaid : Prop := Claim7.holds Tryd.pinned (.plain (OpenSpec.upto fnExactSavedTokensSpec)) fnExactSavedTokensUptoCard
end Rows
end Go.Proofs.YtcnnfhcpkbjolaaDoor
