/-
  DERIVED. GIVEN WITH THE SEED: THE CARDS: each row of YtbdplcbmfcfigaaDoorRows.lean that lists a variable, with what it lists TIED to the program's text (the seventh form; the later family's looks); each row that meets fmt, with fmt's text TOLD by the authors' own Lean function (tested against real Go, not proved from fmt's source: count such statements apart). THE CARD IS WHAT COUNTS. Prove the row's statement (the work); the ties are given (YtbdplcbmfcfigaaDoorTie.lean); close each card by the builder's one call (the guide's Derived/Test/ToyasCard.lean, 'card_holds'). Laid BY PROGRAM, IN A SANDBOX (cutbox-door.mjs). By AI agents, Wed Nov 11 2026. No macro, syntax, notation, axiom, sorry.
-/
import Derived.Test.YtbdplcbmfcfigaaDoorRows
import GoSem.ClaimSeven
namespace Go.Proofs.YtbdplcbmfcfigaaDoor
namespace Rows

/-- THE TIED CARD OF 'laws.FnExpressions'. -/
def fnExpressionsCard : Claim7 := { stood := { row := fnExpressionsRow, standIns := [], harness := (true, "e8d9870365e798b3d9a5c4dce13ba2b2da8bc38cab7535b968933a578ccb88bd"), looks := true }, kinds := [], alts := [], laidByText := true, laidKinds := [.data, .data, .data, .sentinel, .sentinel], laidTests := true, laidLooks := .later }
def FnExpressionsCardSaid : Prop := Claim7.holds Tryd.pinned (.plain (OpenSpec.ofChange fnExpressionsSpec)) fnExpressionsCard

/-- THE TIED CARD OF 'laws.FnExactLineOk'. -/
def fnExactLineOkCard : Claim7 := { stood := { row := fnExactLineOkRow, standIns := [], harness := (true, "e8d9870365e798b3d9a5c4dce13ba2b2da8bc38cab7535b968933a578ccb88bd"), looks := true }, kinds := [], alts := [], laidByText := true, laidKinds := [.data], laidTests := true, laidLooks := .later }
def FnExactLineOkCardSaid : Prop := Claim7.holds Tryd.pinned (.plain (OpenSpec.ofChange fnExactLineOkSpec)) fnExactLineOkCard

/-- THE TIED CARD OF 'laws.FnExactFormatLine'. -/
def fnExactFormatLineCard : Claim7 := { stood := { row := fnExactFormatLineRow, standIns := [], harness := (true, "e8d9870365e798b3d9a5c4dce13ba2b2da8bc38cab7535b968933a578ccb88bd"), looks := true }, kinds := [], alts := [], laidByText := true, laidKinds := [.data, .data, .data, .data], laidTests := true, laidLooks := .later }
def FnExactFormatLineCardSaid : Prop := Claim7.holds Tryd.pinned (.plain (OpenSpec.ofChange fnExactFormatLineSpec)) fnExactFormatLineCard

/-- THE TIED CARD OF 'laws.FnExactFormatProgram'. -/
def fnExactFormatProgramCard : Claim7 := { stood := { row := fnExactFormatProgramRow, standIns := [], harness := (true, "e8d9870365e798b3d9a5c4dce13ba2b2da8bc38cab7535b968933a578ccb88bd"), looks := true }, kinds := [], alts := [], laidByText := true, laidKinds := [.data, .data, .data, .data], laidTests := true, laidLooks := .later }
def FnExactFormatProgramCardSaid : Prop := Claim7.holds Tryd.pinned (.plain (OpenSpec.ofChange fnExactFormatProgramSpec)) fnExactFormatProgramCard

/-- THE SECOND FORM's CARD OF 'laws.FnExpressions'. -/
def fnExpressionsUptoCard : Claim7 := { stood := { row := fnExpressionsUptoRow, standIns := [], harness := (true, "e8d9870365e798b3d9a5c4dce13ba2b2da8bc38cab7535b968933a578ccb88bd"), looks := true }, kinds := [], alts := [], laidByText := true, laidKinds := [.data, .data, .data, .sentinel, .sentinel], laidTests := true, laidLooks := .later }
def FnExpressionsUptoCardSaid : Prop := Claim7.holds Tryd.pinned (.plain (OpenSpec.upto fnExpressionsSpec)) fnExpressionsUptoCard

/-- THE SECOND FORM's CARD OF 'laws.FnExactLineOk'. -/
def fnExactLineOkUptoCard : Claim7 := { stood := { row := fnExactLineOkUptoRow, standIns := [], harness := (true, "e8d9870365e798b3d9a5c4dce13ba2b2da8bc38cab7535b968933a578ccb88bd"), looks := true }, kinds := [], alts := [], laidByText := true, laidKinds := [.data], laidTests := true, laidLooks := .later }
def FnExactLineOkUptoCardSaid : Prop := Claim7.holds Tryd.pinned (.plain (OpenSpec.upto fnExactLineOkSpec)) fnExactLineOkUptoCard

/-- THE SECOND FORM's CARD OF 'laws.FnExactFormatLine'. -/
def fnExactFormatLineUptoCard : Claim7 := { stood := { row := fnExactFormatLineUptoRow, standIns := [], harness := (true, "e8d9870365e798b3d9a5c4dce13ba2b2da8bc38cab7535b968933a578ccb88bd"), looks := true }, kinds := [], alts := [], laidByText := true, laidKinds := [.data, .data, .data, .data], laidTests := true, laidLooks := .later }
def FnExactFormatLineUptoCardSaid : Prop := Claim7.holds Tryd.pinned (.plain (OpenSpec.upto fnExactFormatLineSpec)) fnExactFormatLineUptoCard

/-- THE SECOND FORM's CARD OF 'laws.FnExactFormatProgram'. -/
def fnExactFormatProgramUptoCard : Claim7 := { stood := { row := fnExactFormatProgramUptoRow, standIns := [], harness := (true, "e8d9870365e798b3d9a5c4dce13ba2b2da8bc38cab7535b968933a578ccb88bd"), looks := true }, kinds := [], alts := [], laidByText := true, laidKinds := [.data, .data, .data, .data], laidTests := true, laidLooks := .later }
def FnExactFormatProgramUptoCardSaid : Prop := Claim7.holds Tryd.pinned (.plain (OpenSpec.upto fnExactFormatProgramSpec)) fnExactFormatProgramUptoCard
end Rows
end Go.Proofs.YtbdplcbmfcfigaaDoor
