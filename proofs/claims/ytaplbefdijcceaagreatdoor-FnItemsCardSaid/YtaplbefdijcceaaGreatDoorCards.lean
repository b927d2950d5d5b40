/-
  DERIVED. GIVEN WITH THE SEED: THE CARDS: each row of YtaplbefdijcceaaGreatDoorRows.lean that lists a variable, with what it lists TIED to the program's text (the seventh form; the later family's looks); each row that meets fmt, with fmt's text TOLD by the authors' own Lean function (tested against real Go, not proved from fmt's source: count such statements apart). THE CARD IS WHAT COUNTS. Prove the row's statement (the work); the ties are given (YtaplbefdijcceaaGreatDoorTie.lean); close each card by the builder's one call (the guide's Derived/Test/ToyasCard.lean, 'card_holds'). Laid BY PROGRAM, IN A SANDBOX (cutbox-door.mjs). By AI agents, Wed Nov 11 2026. No macro, syntax, notation, axiom, sorry.
-/
import Derived.Test.YtaplbefdijcceaaGreatDoorRows
import GoSem.ClaimSeven
namespace Go.Proofs.YtaplbefdijcceaaGreatDoor
namespace Rows

/-- THE TIED CARD OF 'laws.FnItems'. -/
def fnItemsCard : Claim7 := { stood := { row := fnItemsRow, standIns := [], harness := (true, "793ea26e426cce830cbf4ec88dbfb32510d95b84b5b50158b516c9c75f07d8ff"), looks := true }, kinds := [], alts := [], laidByText := true, laidKinds := [.data], laidTests := true, laidLooks := .later }
def FnItemsCardSaid : Prop := Claim7.holds Tryz.pinned (.plain (OpenSpec.ofChange fnItemsSpec)) fnItemsCard

/-- THE TIED CARD OF 'laws.FnNoInline'. -/
def fnNoInlineCard : Claim7 := { stood := { row := fnNoInlineRow, standIns := [], harness := (true, "793ea26e426cce830cbf4ec88dbfb32510d95b84b5b50158b516c9c75f07d8ff"), looks := true }, kinds := [], alts := [], laidByText := true, laidKinds := [.data], laidTests := true, laidLooks := .later }
def FnNoInlineCardSaid : Prop := Claim7.holds Tryz.pinned (.plain (OpenSpec.ofChange fnNoInlineSpec)) fnNoInlineCard

/-- THE TIED CARD OF 'laws.FnImages'. -/
def fnImagesCard : Claim7 := { stood := { row := fnImagesRow, standIns := [], harness := (true, "793ea26e426cce830cbf4ec88dbfb32510d95b84b5b50158b516c9c75f07d8ff"), looks := true }, kinds := [], alts := [], laidByText := true, laidKinds := [.data], laidTests := true, laidLooks := .later }
def FnImagesCardSaid : Prop := Claim7.holds Tryz.pinned (.plain (OpenSpec.ofChange fnImagesSpec)) fnImagesCard

/-- THE TIED CARD OF 'laws.FnExactCompileFunction'. -/
def fnExactCompileFunctionCard : Claim7 := { stood := { row := fnExactCompileFunctionRow, standIns := [], harness := (true, "793ea26e426cce830cbf4ec88dbfb32510d95b84b5b50158b516c9c75f07d8ff"), looks := true }, kinds := [], alts := [], laidByText := true, laidKinds := [.data], laidTests := true, laidLooks := .later }
def FnExactCompileFunctionCardSaid : Prop := Claim7.holds Tryz.pinned (.plain (OpenSpec.ofChange fnExactCompileFunctionSpec)) fnExactCompileFunctionCard

/-- THE TIED CARD OF 'laws.FnExactPlacesOf'. -/
def fnExactPlacesOfCard : Claim7 := { stood := { row := fnExactPlacesOfRow, standIns := [], harness := (true, "793ea26e426cce830cbf4ec88dbfb32510d95b84b5b50158b516c9c75f07d8ff"), looks := true }, kinds := [], alts := [], laidByText := true, laidKinds := [.data], laidTests := true, laidLooks := .later }
def FnExactPlacesOfCardSaid : Prop := Claim7.holds Tryz.pinned (.plain (OpenSpec.ofChange fnExactPlacesOfSpec)) fnExactPlacesOfCard

/-- THE TIED CARD OF 'laws.FnExactAssembleImage'. -/
def fnExactAssembleImageCard : Claim7 := { stood := { row := fnExactAssembleImageRow, standIns := [], harness := (true, "793ea26e426cce830cbf4ec88dbfb32510d95b84b5b50158b516c9c75f07d8ff"), looks := true }, kinds := [], alts := [], laidByText := true, laidKinds := [.data], laidTests := true, laidLooks := .later }
def FnExactAssembleImageCardSaid : Prop := Claim7.holds Tryz.pinned (.plain (OpenSpec.ofChange fnExactAssembleImageSpec)) fnExactAssembleImageCard

/-- THE SECOND FORM's CARD OF 'laws.FnItems'. -/
def fnItemsUptoCard : Claim7 := { stood := { row := fnItemsUptoRow, standIns := [], harness := (true, "793ea26e426cce830cbf4ec88dbfb32510d95b84b5b50158b516c9c75f07d8ff"), looks := true }, kinds := [], alts := [], laidByText := true, laidKinds := [.data], laidTests := true, laidLooks := .later }
def FnItemsUptoCardSaid : Prop := Claim7.holds Tryz.pinned (.plain (OpenSpec.upto fnItemsSpec)) fnItemsUptoCard

/-- THE SECOND FORM's CARD OF 'laws.FnNoInline'. -/
def fnNoInlineUptoCard : Claim7 := { stood := { row := fnNoInlineUptoRow, standIns := [], harness := (true, "793ea26e426cce830cbf4ec88dbfb32510d95b84b5b50158b516c9c75f07d8ff"), looks := true }, kinds := [], alts := [], laidByText := true, laidKinds := [.data], laidTests := true, laidLooks := .later }
def FnNoInlineUptoCardSaid : Prop := Claim7.holds Tryz.pinned (.plain (OpenSpec.upto fnNoInlineSpec)) fnNoInlineUptoCard

/-- THE SECOND FORM's CARD OF 'laws.FnImages'. -/
def fnImagesUptoCard : Claim7 := { stood := { row := fnImagesUptoRow, standIns := [], harness := (true, "793ea26e426cce830cbf4ec88dbfb32510d95b84b5b50158b516c9c75f07d8ff"), looks := true }, kinds := [], alts := [], laidByText := true, laidKinds := [.data], laidTests := true, laidLooks := .later }
def FnImagesUptoCardSaid : Prop := Claim7.holds Tryz.pinned (.plain (OpenSpec.upto fnImagesSpec)) fnImagesUptoCard

/-- THE SECOND FORM's CARD OF 'laws.FnExactCompileFunction'. -/
def fnExactCompileFunctionUptoCard : Claim7 := { stood := { row := fnExactCompileFunctionUptoRow, standIns := [], harness := (true, "793ea26e426cce830cbf4ec88dbfb32510d95b84b5b50158b516c9c75f07d8ff"), looks := true }, kinds := [], alts := [], laidByText := true, laidKinds := [.data], laidTests := true, laidLooks := .later }
def FnExactCompileFunctionUptoCardSaid : Prop := Claim7.holds Tryz.pinned (.plain (OpenSpec.upto fnExactCompileFunctionSpec)) fnExactCompileFunctionUptoCard

/-- THE SECOND FORM's CARD OF 'laws.FnExactPlacesOf'. -/
def fnExactPlacesOfUptoCard : Claim7 := { stood := { row := fnExactPlacesOfUptoRow, standIns := [], harness := (true, "793ea26e426cce830cbf4ec88dbfb32510d95b84b5b50158b516c9c75f07d8ff"), looks := true }, kinds := [], alts := [], laidByText := true, laidKinds := [.data], laidTests := true, laidLooks := .later }
def FnExactPlacesOfUptoCardSaid : Prop := Claim7.holds Tryz.pinned (.plain (OpenSpec.upto fnExactPlacesOfSpec)) fnExactPlacesOfUptoCard

/-- THE SECOND FORM's CARD OF 'laws.FnExactAssembleImage'. -/
def fnExactAssembleImageUptoCard : Claim7 := { stood := { row := fnExactAssembleImageUptoRow, standIns := [], harness := (true, "793ea26e426cce830cbf4ec88dbfb32510d95b84b5b50158b516c9c75f07d8ff"), looks := true }, kinds := [], alts := [], laidByText := true, laidKinds := [.data], laidTests := true, laidLooks := .later }
def FnExactAssembleImageUptoCardSaid : Prop := Claim7.holds Tryz.pinned (.plain (OpenSpec.upto fnExactAssembleImageSpec)) fnExactAssembleImageUptoCard
end Rows
end Go.Proofs.YtaplbefdijcceaaGreatDoor
