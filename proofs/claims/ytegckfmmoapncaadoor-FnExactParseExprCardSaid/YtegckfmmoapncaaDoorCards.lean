/-
  DERIVED. GIVEN WITH THE SEED: THE CARDS: each row of YtegckfmmoapncaaDoorRows.lean that lists a variable, with what it lists TIED to the program's text (the seventh form; the later family's looks); each row that meets fmt, with fmt's text TOLD by the authors' own Lean function (tested against real Go, not proved from fmt's source: count such statements apart). THE CARD IS WHAT COUNTS. Prove the row's statement (the work); the ties are given (YtegckfmmoapncaaDoorTie.lean); close each card by the builder's one call (the guide's Derived/Test/ToyasCard.lean, 'card_holds'). Laid BY PROGRAM, IN A SANDBOX (cutbox-door.mjs). By AI agents, Wed Nov 11 2026. No macro, syntax, notation, axiom, sorry.
-/
import Derived.Test.YtegckfmmoapncaaDoorRows
import GoSem.ClaimSeven
namespace Go.Proofs.YtegckfmmoapncaaDoor
namespace Rows

/-- THE TIED CARD OF 'laws.FnExpressions'. -/
def fnExpressionsCard : Claim7 := { stood := { row := fnExpressionsRow, standIns := [], harness := (true, "a28756c1a27679ebb579d6506bd8b5bd6d4f6aa84ebc0947ce372b041c8bfe24"), looks := true }, kinds := [], alts := [], laidByText := true, laidKinds := [.data, .data, .data, .sentinel, .sentinel], laidTests := true, laidLooks := .later }
def FnExpressionsCardSaid : Prop := Claim7.holds Tryd.pinned (.plain (OpenSpec.ofChange fnExpressionsSpec)) fnExpressionsCard

/-- THE TIED CARD OF 'laws.FnExactFormatTok'. -/
def fnExactFormatTokCard : Claim7 := { stood := { row := fnExactFormatTokRow, standIns := [], harness := (true, "a28756c1a27679ebb579d6506bd8b5bd6d4f6aa84ebc0947ce372b041c8bfe24"), looks := true }, kinds := [], alts := [], laidByText := true, laidKinds := [.data, .data, .data], laidTests := true, laidLooks := .later }
def FnExactFormatTokCardSaid : Prop := Claim7.holds Tryd.pinned (.plain (OpenSpec.ofChange fnExactFormatTokSpec)) fnExactFormatTokCard

/-- THE TIED CARD OF 'laws.FnExactParseTok'. -/
def fnExactParseTokCard : Claim7 := { stood := { row := fnExactParseTokRow, standIns := [], harness := (true, "a28756c1a27679ebb579d6506bd8b5bd6d4f6aa84ebc0947ce372b041c8bfe24"), looks := true }, kinds := [], alts := [], laidByText := true, laidKinds := [.data, .data, .data, .sentinel, .sentinel], laidTests := true, laidLooks := .later }
def FnExactParseTokCardSaid : Prop := Claim7.holds Tryd.pinned (.plain (OpenSpec.ofChange fnExactParseTokSpec)) fnExactParseTokCard

/-- THE TIED CARD OF 'laws.FnExactFormatExpr'. -/
def fnExactFormatExprCard : Claim7 := { stood := { row := fnExactFormatExprRow, standIns := [], harness := (true, "a28756c1a27679ebb579d6506bd8b5bd6d4f6aa84ebc0947ce372b041c8bfe24"), looks := true }, kinds := [], alts := [], laidByText := true, laidKinds := [.data, .data, .data], laidTests := true, laidLooks := .later }
def FnExactFormatExprCardSaid : Prop := Claim7.holds Tryd.pinned (.plain (OpenSpec.ofChange fnExactFormatExprSpec)) fnExactFormatExprCard

/-- THE TIED CARD OF 'laws.FnExactParseExpr'. -/
def fnExactParseExprCard : Claim7 := { stood := { row := fnExactParseExprRow, standIns := [], harness := (true, "a28756c1a27679ebb579d6506bd8b5bd6d4f6aa84ebc0947ce372b041c8bfe24"), looks := true }, kinds := [], alts := [], laidByText := true, laidKinds := [.data, .data, .data, .sentinel, .sentinel], laidTests := true, laidLooks := .later }
def FnExactParseExprCardSaid : Prop := Claim7.holds Tryd.pinned (.plain (OpenSpec.ofChange fnExactParseExprSpec)) fnExactParseExprCard

/-- THE SECOND FORM's CARD OF 'laws.FnExpressions'. -/
def fnExpressionsUptoCard : Claim7 := { stood := { row := fnExpressionsUptoRow, standIns := [], harness := (true, "a28756c1a27679ebb579d6506bd8b5bd6d4f6aa84ebc0947ce372b041c8bfe24"), looks := true }, kinds := [], alts := [], laidByText := true, laidKinds := [.data, .data, .data, .sentinel, .sentinel], laidTests := true, laidLooks := .later }
def FnExpressionsUptoCardSaid : Prop := Claim7.holds Tryd.pinned (.plain (OpenSpec.upto fnExpressionsSpec)) fnExpressionsUptoCard

/-- THE SECOND FORM's CARD OF 'laws.FnExactFormatTok'. -/
def fnExactFormatTokUptoCard : Claim7 := { stood := { row := fnExactFormatTokUptoRow, standIns := [], harness := (true, "a28756c1a27679ebb579d6506bd8b5bd6d4f6aa84ebc0947ce372b041c8bfe24"), looks := true }, kinds := [], alts := [], laidByText := true, laidKinds := [.data, .data, .data], laidTests := true, laidLooks := .later }
def FnExactFormatTokUptoCardSaid : Prop := Claim7.holds Tryd.pinned (.plain (OpenSpec.upto fnExactFormatTokSpec)) fnExactFormatTokUptoCard

/-- THE SECOND FORM's CARD OF 'laws.FnExactParseTok'. -/
def fnExactParseTokUptoCard : Claim7 := { stood := { row := fnExactParseTokUptoRow, standIns := [], harness := (true, "a28756c1a27679ebb579d6506bd8b5bd6d4f6aa84ebc0947ce372b041c8bfe24"), looks := true }, kinds := [], alts := [], laidByText := true, laidKinds := [.data, .data, .data, .sentinel, .sentinel], laidTests := true, laidLooks := .later }
def FnExactParseTokUptoCardSaid : Prop := Claim7.holds Tryd.pinned (.plain (OpenSpec.upto fnExactParseTokSpec)) fnExactParseTokUptoCard

/-- THE SECOND FORM's CARD OF 'laws.FnExactFormatExpr'. -/
def fnExactFormatExprUptoCard : Claim7 := { stood := { row := fnExactFormatExprUptoRow, standIns := [], harness := (true, "a28756c1a27679ebb579d6506bd8b5bd6d4f6aa84ebc0947ce372b041c8bfe24"), looks := true }, kinds := [], alts := [], laidByText := true, laidKinds := [.data, .data, .data], laidTests := true, laidLooks := .later }
def FnExactFormatExprUptoCardSaid : Prop := Claim7.holds Tryd.pinned (.plain (OpenSpec.upto fnExactFormatExprSpec)) fnExactFormatExprUptoCard

/-- THE SECOND FORM's CARD OF 'laws.FnExactParseExpr'. -/
def fnExactParseExprUptoCard : Claim7 := { stood := { row := fnExactParseExprUptoRow, standIns := [], harness := (true, "a28756c1a27679ebb579d6506bd8b5bd6d4f6aa84ebc0947ce372b041c8bfe24"), looks := true }, kinds := [], alts := [], laidByText := true, laidKinds := [.data, .data, .data, .sentinel, .sentinel], laidTests := true, laidLooks := .later }
def FnExactParseExprUptoCardSaid : Prop := Claim7.holds Tryd.pinned (.plain (OpenSpec.upto fnExactParseExprSpec)) fnExactParseExprUptoCard
end Rows
end Go.Proofs.YtegckfmmoapncaaDoor
