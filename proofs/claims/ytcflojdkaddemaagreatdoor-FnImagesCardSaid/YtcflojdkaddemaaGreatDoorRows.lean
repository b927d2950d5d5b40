/-
  NARROWER THAN 'FOR EVERY INPUT', by the rows' own cells (each row's printed sentence says how): FnImages: laid · FnSpaces: laid · FnExactCompileFunction: laid · FnExactPlacesOf: laid · FnExactAssembleImage: laid · FnExactLoadSpace: laid.
  DERIVED. THE GIVEN ROWS OF THIS SEAT. 6 by the template 'for every input the law returns true; each argument reads behind the call as it read before'; 0 by the template 'total and deterministic' (their statements: YtcflojdkaddemaaGreatDoorTotals.lean).
  GIVEN WITH THE SEED: the statements are not yours to turn. If you find one false, say at which input.
  Laid BY PROGRAM, IN A SANDBOX (cutbox-rows.mjs): the forced cells as the released guide's own fill.sh prints them over the translation b295ad05b12c6bd8… (all of the seat's roots in one cut). By AI agents, Wed Nov 11 2026. No macro, syntax, notation, axiom, sorry.
-/
import Derived.Test.YtcflojdkaddemaaGreatDoorChecked
import GoSem.Claim
import GoSem.ClaimJoined
import GoSem.ClaimMapViews
import Derived.JoinedTies
import Derived.KernelRfl
namespace Go.Proofs.YtcflojdkaddemaaGreatDoor
/- THE CELL 'sum', in the pinned program and in every row, IS THE sha256 OF THE DUMP (.gsa) THAT YtcflojdkaddemaaGreatDoorProg.lean LOADS. Nothing in Lean hashes anything: it is a label: what it is worth is what the hold of that sum in a sandbox is worth. -/
noncomputable def Tryz.pinned : Pinned := { name := "ytcflojdkaddemaagreatdoor", sum := "b295ad05b12c6bd88dbfa9a30c09ddf8835733675bfcc0e808d97e67df2fce35", checked := Tryz.checked }
namespace Rows
def none {H : Type} : Left H := { results := [], args := [] }

/- WHAT THE LISTED PACKAGE-LEVEL VARIABLES READ AS WHEN THE CALL BEGINS. Each datum BY PROGRAM (the guide's laid-datum.mjs) off the statement by which the dump's own 'gosem.cut.vars' lays the variable. In a bare row this is a premise. The card (YtcflojdkaddemaaGreatDoorCards.lean) ties it to the program's text. -/
def laid_loop_example_g03314_impl_lineShapes {H : Type} : DataW H := .agg [.agg [.lit (.string [102, 117, 110]), .lit (.bool true), .lit (.bool true), .lit (.bool false)], .agg [.lit (.string [115, 101, 116]), .lit (.bool true), .lit (.bool false), .lit (.bool true)], .agg [.lit (.string [111, 117, 116]), .lit (.bool false), .lit (.bool false), .lit (.bool true)], .agg [.lit (.string [105, 102]), .lit (.bool false), .lit (.bool false), .lit (.bool true)], .agg [.lit (.string [101, 108, 115, 101]), .lit (.bool false), .lit (.bool false), .lit (.bool false)], .agg [.lit (.string [119, 104, 105, 108, 101]), .lit (.bool false), .lit (.bool false), .lit (.bool true)], .agg [.lit (.string [114, 101, 116, 117, 114, 110]), .lit (.bool false), .lit (.bool false), .lit (.bool true)], .agg [.lit (.string [101, 110, 100]), .lit (.bool false), .lit (.bool false), .lit (.bool false)]]

/-- 'laws.FnImages': WHATEVER THE INPUT: true; the input reads as it did. -/
def fnImagesSpec : ChangeSpec := { name := "fnImages", vars := ["loop.example/g03314/impl.lineShapes"], fn := fun _ => fun
  | [d, g1] => { results := [.lit (.bool true)], args := [d], vars := [g1] }
  | _ => none }
def fnImagesRow : OpenClaim := { program := "ytcflojdkaddemaagreatdoor", sum := "b295ad05b12c6bd88dbfa9a30c09ddf8835733675bfcc0e808d97e67df2fce35", func := "loop.example/g03314/laws.FnImages", spec := "fnImages", unfollowed := true, recurses := true, named := ["loop.example/g03314/impl.lineShapes"], apart := false, laid := [("loop.example/g03314/impl.lineShapes", laid_loop_example_g03314_impl_lineShapes)] }
def FnImagesSaid : Prop := fnImagesRow.holds Tryz.pinned (OpenSpec.ofChange fnImagesSpec)

/-- ITS FALSE NEIGHBOUR: 'it returns false'. Refute it at one input. -/
def fnImagesWrong : ChangeSpec := { name := "fnImages", vars := ["loop.example/g03314/impl.lineShapes"], fn := fun _ => fun
  | [d, g1] => { results := [.lit (.bool false)], args := [d], vars := [g1] }
  | _ => none }
def FnImagesWrongFalsely : Prop := fnImagesRow.holds Tryz.pinned (OpenSpec.ofChange fnImagesWrong)

/-- 'laws.FnSpaces': WHATEVER THE INPUT: true; the input reads as it did. -/
def fnSpacesSpec : ChangeSpec := { name := "fnSpaces", vars := ["loop.example/g03314/impl.lineShapes"], fn := fun _ => fun
  | [d, g1] => { results := [.lit (.bool true)], args := [d], vars := [g1] }
  | _ => none }
def fnSpacesRow : OpenClaim := { program := "ytcflojdkaddemaagreatdoor", sum := "b295ad05b12c6bd88dbfa9a30c09ddf8835733675bfcc0e808d97e67df2fce35", func := "loop.example/g03314/laws.FnSpaces", spec := "fnSpaces", unfollowed := true, recurses := true, named := ["loop.example/g03314/impl.lineShapes"], apart := false, laid := [("loop.example/g03314/impl.lineShapes", laid_loop_example_g03314_impl_lineShapes)] }
def FnSpacesSaid : Prop := fnSpacesRow.holds Tryz.pinned (OpenSpec.ofChange fnSpacesSpec)

/-- ITS FALSE NEIGHBOUR: 'it returns false'. Refute it at one input. -/
def fnSpacesWrong : ChangeSpec := { name := "fnSpaces", vars := ["loop.example/g03314/impl.lineShapes"], fn := fun _ => fun
  | [d, g1] => { results := [.lit (.bool false)], args := [d], vars := [g1] }
  | _ => none }
def FnSpacesWrongFalsely : Prop := fnSpacesRow.holds Tryz.pinned (OpenSpec.ofChange fnSpacesWrong)

/-- 'laws.FnExactCompileFunction': WHATEVER THE INPUT: true; the input reads as it did. -/
def fnExactCompileFunctionSpec : ChangeSpec := { name := "fnExactCompileFunction", vars := ["loop.example/g03314/impl.lineShapes"], fn := fun _ => fun
  | [d1, d2, d3, g1] => { results := [.lit (.bool true)], args := [d1, d2, d3], vars := [g1] }
  | _ => none }
def fnExactCompileFunctionRow : OpenClaim := { program := "ytcflojdkaddemaagreatdoor", sum := "b295ad05b12c6bd88dbfa9a30c09ddf8835733675bfcc0e808d97e67df2fce35", func := "loop.example/g03314/laws.FnExactCompileFunction", spec := "fnExactCompileFunction", unfollowed := true, recurses := true, named := ["loop.example/g03314/impl.lineShapes"], apart := false, laid := [("loop.example/g03314/impl.lineShapes", laid_loop_example_g03314_impl_lineShapes)] }
def FnExactCompileFunctionSaid : Prop := fnExactCompileFunctionRow.holds Tryz.pinned (OpenSpec.ofChange fnExactCompileFunctionSpec)

/-- ITS FALSE NEIGHBOUR: 'it returns false'. Refute it at one input. -/
def fnExactCompileFunctionWrong : ChangeSpec := { name := "fnExactCompileFunction", vars := ["loop.example/g03314/impl.lineShapes"], fn := fun _ => fun
  | [d1, d2, d3, g1] => { results := [.lit (.bool false)], args := [d1, d2, d3], vars := [g1] }
  | _ => none }
def FnExactCompileFunctionWrongFalsely : Prop := fnExactCompileFunctionRow.holds Tryz.pinned (OpenSpec.ofChange fnExactCompileFunctionWrong)

/-- 'laws.FnExactPlacesOf': WHATEVER THE INPUT: true; the input reads as it did. -/
def fnExactPlacesOfSpec : ChangeSpec := { name := "fnExactPlacesOf", vars := ["loop.example/g03314/impl.lineShapes"], fn := fun _ => fun
  | [d1, d2, d3, g1] => { results := [.lit (.bool true)], args := [d1, d2, d3], vars := [g1] }
  | _ => none }
def fnExactPlacesOfRow : OpenClaim := { program := "ytcflojdkaddemaagreatdoor", sum := "b295ad05b12c6bd88dbfa9a30c09ddf8835733675bfcc0e808d97e67df2fce35", func := "loop.example/g03314/laws.FnExactPlacesOf", spec := "fnExactPlacesOf", unfollowed := true, recurses := true, named := ["loop.example/g03314/impl.lineShapes"], apart := false, laid := [("loop.example/g03314/impl.lineShapes", laid_loop_example_g03314_impl_lineShapes)] }
def FnExactPlacesOfSaid : Prop := fnExactPlacesOfRow.holds Tryz.pinned (OpenSpec.ofChange fnExactPlacesOfSpec)

/-- ITS FALSE NEIGHBOUR: 'it returns false'. Refute it at one input. -/
def fnExactPlacesOfWrong : ChangeSpec := { name := "fnExactPlacesOf", vars := ["loop.example/g03314/impl.lineShapes"], fn := fun _ => fun
  | [d1, d2, d3, g1] => { results := [.lit (.bool false)], args := [d1, d2, d3], vars := [g1] }
  | _ => none }
def FnExactPlacesOfWrongFalsely : Prop := fnExactPlacesOfRow.holds Tryz.pinned (OpenSpec.ofChange fnExactPlacesOfWrong)

/-- 'laws.FnExactAssembleImage': WHATEVER THE INPUT: true; the input reads as it did. -/
def fnExactAssembleImageSpec : ChangeSpec := { name := "fnExactAssembleImage", vars := ["loop.example/g03314/impl.lineShapes"], fn := fun _ => fun
  | [d1, d2, d3, g1] => { results := [.lit (.bool true)], args := [d1, d2, d3], vars := [g1] }
  | _ => none }
def fnExactAssembleImageRow : OpenClaim := { program := "ytcflojdkaddemaagreatdoor", sum := "b295ad05b12c6bd88dbfa9a30c09ddf8835733675bfcc0e808d97e67df2fce35", func := "loop.example/g03314/laws.FnExactAssembleImage", spec := "fnExactAssembleImage", unfollowed := true, recurses := true, named := ["loop.example/g03314/impl.lineShapes"], apart := false, laid := [("loop.example/g03314/impl.lineShapes", laid_loop_example_g03314_impl_lineShapes)] }
def FnExactAssembleImageSaid : Prop := fnExactAssembleImageRow.holds Tryz.pinned (OpenSpec.ofChange fnExactAssembleImageSpec)

/-- ITS FALSE NEIGHBOUR: 'it returns false'. Refute it at one input. -/
def fnExactAssembleImageWrong : ChangeSpec := { name := "fnExactAssembleImage", vars := ["loop.example/g03314/impl.lineShapes"], fn := fun _ => fun
  | [d1, d2, d3, g1] => { results := [.lit (.bool false)], args := [d1, d2, d3], vars := [g1] }
  | _ => none }
def FnExactAssembleImageWrongFalsely : Prop := fnExactAssembleImageRow.holds Tryz.pinned (OpenSpec.ofChange fnExactAssembleImageWrong)

/-- 'laws.FnExactLoadSpace': WHATEVER THE INPUT: true; the input reads as it did. -/
def fnExactLoadSpaceSpec : ChangeSpec := { name := "fnExactLoadSpace", vars := ["loop.example/g03314/impl.lineShapes"], fn := fun _ => fun
  | [d1, d2, d3, d4, g1] => { results := [.lit (.bool true)], args := [d1, d2, d3, d4], vars := [g1] }
  | _ => none }
def fnExactLoadSpaceRow : OpenClaim := { program := "ytcflojdkaddemaagreatdoor", sum := "b295ad05b12c6bd88dbfa9a30c09ddf8835733675bfcc0e808d97e67df2fce35", func := "loop.example/g03314/laws.FnExactLoadSpace", spec := "fnExactLoadSpace", unfollowed := true, recurses := true, named := ["loop.example/g03314/impl.lineShapes"], apart := false, laid := [("loop.example/g03314/impl.lineShapes", laid_loop_example_g03314_impl_lineShapes)] }
def FnExactLoadSpaceSaid : Prop := fnExactLoadSpaceRow.holds Tryz.pinned (OpenSpec.ofChange fnExactLoadSpaceSpec)

/-- ITS FALSE NEIGHBOUR: 'it returns false'. Refute it at one input. -/
def fnExactLoadSpaceWrong : ChangeSpec := { name := "fnExactLoadSpace", vars := ["loop.example/g03314/impl.lineShapes"], fn := fun _ => fun
  | [d1, d2, d3, d4, g1] => { results := [.lit (.bool false)], args := [d1, d2, d3, d4], vars := [g1] }
  | _ => none }
def FnExactLoadSpaceWrongFalsely : Prop := fnExactLoadSpaceRow.holds Tryz.pinned (OpenSpec.ofChange fnExactLoadSpaceWrong)

/- THE SECOND FORM. 'bulk': how many values and letters a reading holds, each counted each time it is reached (what is shared counts as often as it is met; a slice's spare places count too). A statement '..UptoSaid' is the law's where the arguments, and the package variables that the reading takes, are together of bulk at most 1048576: NARROWER than '..Said'. Prove '..Said' where nothing that the law and all that it calls make is longer than what came in: it says more and counts as full. Else prove '..UptoSaid'. A law counts once. -/
mutual
def uptoBulk {H : Type} : DataW H → Nat
  | .lit (.string bytes) => bytes.length + 1
  | .lit _ => 1
  | .nil => 1
  | .ptr d => uptoBulk d + 1
  | .slice elems spare => uptoBulkAll elems + uptoBulkAll spare + 1
  | .agg parts => uptoBulkAll parts + 1
  | .iface _ d => uptoBulk d + 1
  | .map entries => uptoBulkEntries entries + 1
  | .held _ => 1
def uptoBulkAll {H : Type} : List (DataW H) → Nat
  | [] => 0
  | d :: r => uptoBulk d + uptoBulkAll r
def uptoBulkEntries {H : Type} : List (Lit × DataW H) → Nat
  | [] => 0
  | x :: r => uptoBulkEntry x + uptoBulkEntries r
def uptoBulkEntry {H : Type} : Lit × DataW H → Nat
  | (.string bytes, d) => bytes.length + uptoBulk d + 1
  | (_, d) => uptoBulk d + 1
 end
def uptoSmall : (H : Type) → List (DataW H) → Bool := fun _ ds => decide (uptoBulkAll ds ≤ 1048576)
def OpenSpec.upto (s : _root_.Go.ChangeSpec) : _root_.Go.OpenSpec := { _root_.Go.OpenSpec.ofChange s with cond := some uptoSmall }

/-- 'laws.FnImages', WHERE WHAT IT READS IS OF BULK AT MOST 1048576: true; the input reads as it did. -/
def fnImagesUptoRow : OpenClaim := { program := "ytcflojdkaddemaagreatdoor", sum := "b295ad05b12c6bd88dbfa9a30c09ddf8835733675bfcc0e808d97e67df2fce35", func := "loop.example/g03314/laws.FnImages", spec := "fnImages", unfollowed := true, recurses := true, named := ["loop.example/g03314/impl.lineShapes"], apart := false, laid := [("loop.example/g03314/impl.lineShapes", laid_loop_example_g03314_impl_lineShapes)], narrowed := true }
def FnImagesUptoSaid : Prop := fnImagesUptoRow.holds Tryz.pinned (OpenSpec.upto fnImagesSpec)

/-- 'laws.FnSpaces', WHERE WHAT IT READS IS OF BULK AT MOST 1048576: true; the input reads as it did. -/
def fnSpacesUptoRow : OpenClaim := { program := "ytcflojdkaddemaagreatdoor", sum := "b295ad05b12c6bd88dbfa9a30c09ddf8835733675bfcc0e808d97e67df2fce35", func := "loop.example/g03314/laws.FnSpaces", spec := "fnSpaces", unfollowed := true, recurses := true, named := ["loop.example/g03314/impl.lineShapes"], apart := false, laid := [("loop.example/g03314/impl.lineShapes", laid_loop_example_g03314_impl_lineShapes)], narrowed := true }
def FnSpacesUptoSaid : Prop := fnSpacesUptoRow.holds Tryz.pinned (OpenSpec.upto fnSpacesSpec)

/-- 'laws.FnExactCompileFunction', WHERE WHAT IT READS IS OF BULK AT MOST 1048576: true; the input reads as it did. -/
def fnExactCompileFunctionUptoRow : OpenClaim := { program := "ytcflojdkaddemaagreatdoor", sum := "b295ad05b12c6bd88dbfa9a30c09ddf8835733675bfcc0e808d97e67df2fce35", func := "loop.example/g03314/laws.FnExactCompileFunction", spec := "fnExactCompileFunction", unfollowed := true, recurses := true, named := ["loop.example/g03314/impl.lineShapes"], apart := false, laid := [("loop.example/g03314/impl.lineShapes", laid_loop_example_g03314_impl_lineShapes)], narrowed := true }
def FnExactCompileFunctionUptoSaid : Prop := fnExactCompileFunctionUptoRow.holds Tryz.pinned (OpenSpec.upto fnExactCompileFunctionSpec)

/-- 'laws.FnExactPlacesOf', WHERE WHAT IT READS IS OF BULK AT MOST 1048576: true; the input reads as it did. -/
def fnExactPlacesOfUptoRow : OpenClaim := { program := "ytcflojdkaddemaagreatdoor", sum := "b295ad05b12c6bd88dbfa9a30c09ddf8835733675bfcc0e808d97e67df2fce35", func := "loop.example/g03314/laws.FnExactPlacesOf", spec := "fnExactPlacesOf", unfollowed := true, recurses := true, named := ["loop.example/g03314/impl.lineShapes"], apart := false, laid := [("loop.example/g03314/impl.lineShapes", laid_loop_example_g03314_impl_lineShapes)], narrowed := true }
def FnExactPlacesOfUptoSaid : Prop := fnExactPlacesOfUptoRow.holds Tryz.pinned (OpenSpec.upto fnExactPlacesOfSpec)

/-- 'laws.FnExactAssembleImage', WHERE WHAT IT READS IS OF BULK AT MOST 1048576: true; the input reads as it did. -/
def fnExactAssembleImageUptoRow : OpenClaim := { program := "ytcflojdkaddemaagreatdoor", sum := "b295ad05b12c6bd88dbfa9a30c09ddf8835733675bfcc0e808d97e67df2fce35", func := "loop.example/g03314/laws.FnExactAssembleImage", spec := "fnExactAssembleImage", unfollowed := true, recurses := true, named := ["loop.example/g03314/impl.lineShapes"], apart := false, laid := [("loop.example/g03314/impl.lineShapes", laid_loop_example_g03314_impl_lineShapes)], narrowed := true }
def FnExactAssembleImageUptoSaid : Prop := fnExactAssembleImageUptoRow.holds Tryz.pinned (OpenSpec.upto fnExactAssembleImageSpec)

/-- 'laws.FnExactLoadSpace', WHERE WHAT IT READS IS OF BULK AT MOST 1048576: true; the input reads as it did. -/
def fnExactLoadSpaceUptoRow : OpenClaim := { program := "ytcflojdkaddemaagreatdoor", sum := "b295ad05b12c6bd88dbfa9a30c09ddf8835733675bfcc0e808d97e67df2fce35", func := "loop.example/g03314/laws.FnExactLoadSpace", spec := "fnExactLoadSpace", unfollowed := true, recurses := true, named := ["loop.example/g03314/impl.lineShapes"], apart := false, laid := [("loop.example/g03314/impl.lineShapes", laid_loop_example_g03314_impl_lineShapes)], narrowed := true }
def FnExactLoadSpaceUptoSaid : Prop := fnExactLoadSpaceUptoRow.holds Tryz.pinned (OpenSpec.upto fnExactLoadSpaceSpec)

end Rows
end Go.Proofs.YtcflojdkaddemaaGreatDoor
