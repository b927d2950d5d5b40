/-
  NARROWER THAN 'FOR EVERY INPUT', by the rows' own cells (each row's printed sentence says how): FnLimits: laid · FnVisitShapes: laid.
  DERIVED. THE GIVEN ROWS OF THIS SEAT. 2 by the template 'for every input the law returns true; each argument reads behind the call as it read before'; 0 by the template 'total and deterministic' (their statements: YtcffmdmdojkggaaDoorTotals.lean).
  GIVEN WITH THE SEED: the statements are not yours to turn. If you find one false, say at which input.
  Laid BY PROGRAM, IN A SANDBOX (cutbox-rows.mjs): the forced cells as the released guide's own fill.sh prints them over the translation 9ccc346f31604963… (all of the seat's roots in one cut). By AI agents, Wed Nov 11 2026. No macro, syntax, notation, axiom, sorry.
-/
import Derived.Test.YtcffmdmdojkggaaDoorChecked
import GoSem.Claim
import GoSem.ClaimJoined
import GoSem.ClaimMapViews
import Derived.JoinedTies
import Derived.KernelRfl
namespace Go.Proofs.YtcffmdmdojkggaaDoor
/- THE CELL 'sum', in the pinned program and in every row, IS THE sha256 OF THE DUMP (.gsa) THAT YtcffmdmdojkggaaDoorProg.lean LOADS. Nothing in Lean hashes anything: it is a label: what it is worth is what the hold of that sum in a sandbox is worth. -/
noncomputable def Tryd.pinned : Pinned := { name := "ytcffmdmdojkggaadoor", sum := "9ccc346f31604963b1ee97f00da6bd82747f9e55b7012cf1b0812cb40b8d2c92", checked := Tryd.checked }
namespace Rows
def none {H : Type} : Left H := { results := [], args := [] }

/- WHAT THE LISTED PACKAGE-LEVEL VARIABLES READ AS WHEN THE CALL BEGINS. Each datum BY PROGRAM (the guide's laid-datum.mjs) off the statement by which the dump's own 'gosem.cut.vars' lays the variable. In a bare row this is a premise. The card (YtcffmdmdojkggaaDoorCards.lean) ties it to the program's text. -/
def laid_loop_example_g03314_impl_lineShapes {H : Type} : DataW H := .agg [.agg [.lit (.string [102, 117, 110]), .lit (.bool true), .lit (.bool true), .lit (.bool false)], .agg [.lit (.string [115, 101, 116]), .lit (.bool true), .lit (.bool false), .lit (.bool true)], .agg [.lit (.string [111, 117, 116]), .lit (.bool false), .lit (.bool false), .lit (.bool true)], .agg [.lit (.string [105, 102]), .lit (.bool false), .lit (.bool false), .lit (.bool true)], .agg [.lit (.string [101, 108, 115, 101]), .lit (.bool false), .lit (.bool false), .lit (.bool false)], .agg [.lit (.string [119, 104, 105, 108, 101]), .lit (.bool false), .lit (.bool false), .lit (.bool true)], .agg [.lit (.string [114, 101, 116, 117, 114, 110]), .lit (.bool false), .lit (.bool false), .lit (.bool true)], .agg [.lit (.string [101, 110, 100]), .lit (.bool false), .lit (.bool false), .lit (.bool false)]]

/-- 'laws.FnLimits': WHATEVER THE INPUT: true; the input reads as it did. -/
def fnLimitsSpec : ChangeSpec := { name := "fnLimits", vars := ["loop.example/g03314/impl.lineShapes"], fn := fun _ => fun
  | [d, g1] => { results := [.lit (.bool true)], args := [d], vars := [g1] }
  | _ => none }
def fnLimitsRow : OpenClaim := { program := "ytcffmdmdojkggaadoor", sum := "9ccc346f31604963b1ee97f00da6bd82747f9e55b7012cf1b0812cb40b8d2c92", func := "loop.example/g03314/laws.FnLimits", spec := "fnLimits", unfollowed := true, recurses := true, named := ["loop.example/g03314/impl.lineShapes"], apart := false, laid := [("loop.example/g03314/impl.lineShapes", laid_loop_example_g03314_impl_lineShapes)] }
def FnLimitsSaid : Prop := fnLimitsRow.holds Tryd.pinned (OpenSpec.ofChange fnLimitsSpec)

/-- ITS FALSE NEIGHBOUR: 'it returns false'. Refute it at one input. -/
def fnLimitsWrong : ChangeSpec := { name := "fnLimits", vars := ["loop.example/g03314/impl.lineShapes"], fn := fun _ => fun
  | [d, g1] => { results := [.lit (.bool false)], args := [d], vars := [g1] }
  | _ => none }
def FnLimitsWrongFalsely : Prop := fnLimitsRow.holds Tryd.pinned (OpenSpec.ofChange fnLimitsWrong)

/-- 'laws.FnVisitShapes': WHATEVER THE INPUT: true; the input reads as it did. -/
def fnVisitShapesSpec : ChangeSpec := { name := "fnVisitShapes", vars := ["loop.example/g03314/impl.lineShapes"], fn := fun _ => fun
  | [d, g1] => { results := [.lit (.bool true)], args := [d], vars := [g1] }
  | _ => none }
def fnVisitShapesRow : OpenClaim := { program := "ytcffmdmdojkggaadoor", sum := "9ccc346f31604963b1ee97f00da6bd82747f9e55b7012cf1b0812cb40b8d2c92", func := "loop.example/g03314/laws.FnVisitShapes", spec := "fnVisitShapes", unfollowed := true, recurses := true, named := ["loop.example/g03314/impl.lineShapes"], apart := false, laid := [("loop.example/g03314/impl.lineShapes", laid_loop_example_g03314_impl_lineShapes)] }
def FnVisitShapesSaid : Prop := fnVisitShapesRow.holds Tryd.pinned (OpenSpec.ofChange fnVisitShapesSpec)

/-- ITS FALSE NEIGHBOUR: 'it returns false'. Refute it at one input. -/
def fnVisitShapesWrong : ChangeSpec := { name := "fnVisitShapes", vars := ["loop.example/g03314/impl.lineShapes"], fn := fun _ => fun
  | [d, g1] => { results := [.lit (.bool false)], args := [d], vars := [g1] }
  | _ => none }
def FnVisitShapesWrongFalsely : Prop := fnVisitShapesRow.holds Tryd.pinned (OpenSpec.ofChange fnVisitShapesWrong)

/- THE SECOND FORM. 'bulk': how many values and letters a reading holds, each counted each time it is reached (what is shared counts as often as it is met; a slice's spare places count too). A statement '..UptoSaid' is the law's where the arguments, and the package variables that the reading takes, are together of bulk at most 1048576: NARROWER than '..Said'. Prove '..Said' where nothing that the law and all that it calls make is longer than what came in: it says more and counts as full. Else prove '..UptoSaid'. A law counts once. -/
mutual
def uptoBulk {H : Type} : DataW H → Nat
  | .lit (.string bytes) => bytes.length + 1
  | .lit _ => 1
  | .nil => 1
  | .ptr d => uptoBulk d + 1
  | .slice elems spare => uptoBulkAll elems + uptoBulkAll spare + 1
  | .agg parts => uptoBulkAll parts + 1
  | .iface _ d => uptoBulk d + 1
  | .map entries => uptoBulkEntries entries + 1
  | .held _ => 1
def uptoBulkAll {H : Type} : List (DataW H) → Nat
  | [] => 0
  | d :: r => uptoBulk d + uptoBulkAll r
def uptoBulkEntries {H : Type} : List (Lit × DataW H) → Nat
  | [] => 0
  | x :: r => uptoBulkEntry x + uptoBulkEntries r
def uptoBulkEntry {H : Type} : Lit × DataW H → Nat
  | (.string bytes, d) => bytes.length + uptoBulk d + 1
  | (_, d) => uptoBulk d + 1
 end
def uptoSmall : (H : Type) → List (DataW H) → Bool := fun _ ds => decide (uptoBulkAll ds ≤ 1048576)
def OpenSpec.upto (s : _root_.Go.ChangeSpec) : _root_.Go.OpenSpec := { _root_.Go.OpenSpec.ofChange s with cond := some uptoSmall }

/-- 'laws.FnLimits', WHERE WHAT IT READS IS OF BULK AT MOST 1048576: true; the input reads as it did. -/
def fnLimitsUptoRow : OpenClaim := { program := "ytcffmdmdojkggaadoor", sum := "9ccc346f31604963b1ee97f00da6bd82747f9e55b7012cf1b0812cb40b8d2c92", func := "loop.example/g03314/laws.FnLimits", spec := "fnLimits", unfollowed := true, recurses := true, named := ["loop.example/g03314/impl.lineShapes"], apart := false, laid := [("loop.example/g03314/impl.lineShapes", laid_loop_example_g03314_impl_lineShapes)], narrowed := true }
def FnLimitsUptoSaid : Prop := fnLimitsUptoRow.holds Tryd.pinned (OpenSpec.upto fnLimitsSpec)

/-- 'laws.FnVisitShapes', WHERE WHAT IT READS IS OF BULK AT MOST 1048576: true; the input reads as it did. -/
def fnVisitShapesUptoRow : OpenClaim := { program := "ytcffmdmdojkggaadoor", sum := "9ccc346f31604963b1ee97f00da6bd82747f9e55b7012cf1b0812cb40b8d2c92", func := "loop.example/g03314/laws.FnVisitShapes", spec := "fnVisitShapes", unfollowed := true, recurses := true, named := ["loop.example/g03314/impl.lineShapes"], apart := false, laid := [("loop.example/g03314/impl.lineShapes", laid_loop_example_g03314_impl_lineShapes)], narrowed := true }
def FnVisitShapesUptoSaid : Prop := fnVisitShapesUptoRow.holds Tryd.pinned (OpenSpec.upto fnVisitShapesSpec)

end Rows
end Go.Proofs.YtcffmdmdojkggaaDoor
