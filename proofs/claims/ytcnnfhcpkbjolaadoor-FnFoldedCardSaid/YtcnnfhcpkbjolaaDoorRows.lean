/-
  NARROWER THAN 'FOR EVERY INPUT', by the rows' own cells (each row's printed sentence says how): FnFolded: laid · FnExactFoldProgram: laid · FnExactSavedTokens: laid.
  DERIVED. THE GIVEN ROWS OF THIS SEAT. 3 by the template 'for every input the law returns true; each argument reads behind the call as it read before'; 0 by the template 'total and deterministic' (their statements: YtcnnfhcpkbjolaaDoorTotals.lean).
  GIVEN WITH THE SEED: the statements are not yours to turn. If you find one false, say at which input.
  Laid BY PROGRAM, IN A SANDBOX (cutbox-rows.mjs): the forced cells as the released guide's own fill.sh prints them over the translation b873fb4cfb660eb3… (all of the seat's roots in one cut). By AI agents, Wed Nov 11 2026. No macro, syntax, notation, axiom, sorry.
-/
import Derived.Test.YtcnnfhcpkbjolaaDoorChecked
import GoSem.Claim
import GoSem.ClaimJoined
import GoSem.ClaimMapViews
import Derived.JoinedTies
import Derived.KernelRfl
namespace Go.Proofs.YtcnnfhcpkbjolaaDoor
/- THE CELL 'sum', in the pinned program and in every row, IS THE sha256 OF THE DUMP (.gsa) THAT YtcnnfhcpkbjolaaDoorProg.lean LOADS. Nothing in Lean hashes anything: it is a label: what it is worth is what the hold of that sum in a sandbox is worth. -/
noncomputable def Tryd.pinned : Pinned := { name := "ytcnnfhcpkbjolaadoor", sum := "b873fb4cfb660eb33ca26e7c5c44be772aa283a76f512a0b9d974fce5807914a", checked := Tryd.checked }
namespace Rows
def none {H : Type} : Left H := { results := [], args := [] }

/- WHAT THE LISTED PACKAGE-LEVEL VARIABLES READ AS WHEN THE CALL BEGINS. Each datum BY PROGRAM (the guide's laid-datum.mjs) off the statement by which the dump's own 'gosem.cut.vars' lays the variable. In a bare row this is a premise. The card (YtcnnfhcpkbjolaaDoorCards.lean) ties it to the program's text. -/
def laid_loop_example_g03314_impl_lineShapes {H : Type} : DataW H := .agg [.agg [.lit (.string [102, 117, 110]), .lit (.bool true), .lit (.bool true), .lit (.bool false)], .agg [.lit (.string [115, 101, 116]), .lit (.bool true), .lit (.bool false), .lit (.bool true)], .agg [.lit (.string [111, 117, 116]), .lit (.bool false), .lit (.bool false), .lit (.bool true)], .agg [.lit (.string [105, 102]), .lit (.bool false), .lit (.bool false), .lit (.bool true)], .agg [.lit (.string [101, 108, 115, 101]), .lit (.bool false), .lit (.bool false), .lit (.bool false)], .agg [.lit (.string [119, 104, 105, 108, 101]), .lit (.bool false), .lit (.bool false), .lit (.bool true)], .agg [.lit (.string [114, 101, 116, 117, 114, 110]), .lit (.bool false), .lit (.bool false), .lit (.bool true)], .agg [.lit (.string [101, 110, 100]), .lit (.bool false), .lit (.bool false), .lit (.bool false)]]

/-- 'laws.FnFolded': WHATEVER THE INPUT: true; the input reads as it did. -/
def fnFoldedSpec : ChangeSpec := { name := "fnFolded", vars := ["loop.example/g03314/impl.lineShapes"], fn := fun _ => fun
  | [d, g1] => { results := [.lit (.bool true)], args := [d], vars := [g1] }
  | _ => none }
def fnFoldedRow : OpenClaim := { program := "ytcnnfhcpkbjolaadoor", sum := "b873fb4cfb660eb33ca26e7c5c44be772aa283a76f512a0b9d974fce5807914a", func := "loop.example/g03314/laws.FnFolded", spec := "fnFolded", unfollowed := true, recurses := true, named := ["loop.example/g03314/impl.lineShapes"], apart := false, laid := [("loop.example/g03314/impl.lineShapes", laid_loop_example_g03314_impl_lineShapes)] }
def FnFoldedSaid : Prop := fnFoldedRow.holds Tryd.pinned (OpenSpec.ofChange fnFoldedSpec)

/-- ITS FALSE NEIGHBOUR: 'it returns false'. Refute it at one input. -/
def fnFoldedWrong : ChangeSpec := { name := "fnFolded", vars := ["loop.example/g03314/impl.lineShapes"], fn := fun _ => fun
  | [d, g1] => { results := [.lit (.bool false)], args := [d], vars := [g1] }
  | _ => none }
def FnFoldedWrongFalsely : Prop := fnFoldedRow.holds Tryd.pinned (OpenSpec.ofChange fnFoldedWrong)

/-- 'laws.FnExactFoldProgram': WHATEVER THE INPUT: true; the input reads as it did. -/
def fnExactFoldProgramSpec : ChangeSpec := { name := "fnExactFoldProgram", vars := ["loop.example/g03314/impl.lineShapes"], fn := fun _ => fun
  | [d, g1] => { results := [.lit (.bool true)], args := [d], vars := [g1] }
  | _ => none }
def fnExactFoldProgramRow : OpenClaim := { program := "ytcnnfhcpkbjolaadoor", sum := "b873fb4cfb660eb33ca26e7c5c44be772aa283a76f512a0b9d974fce5807914a", func := "loop.example/g03314/laws.FnExactFoldProgram", spec := "fnExactFoldProgram", unfollowed := true, recurses := true, named := ["loop.example/g03314/impl.lineShapes"], apart := false, laid := [("loop.example/g03314/impl.lineShapes", laid_loop_example_g03314_impl_lineShapes)] }
def FnExactFoldProgramSaid : Prop := fnExactFoldProgramRow.holds Tryd.pinned (OpenSpec.ofChange fnExactFoldProgramSpec)

/-- ITS FALSE NEIGHBOUR: 'it returns false'. Refute it at one input. -/
def fnExactFoldProgramWrong : ChangeSpec := { name := "fnExactFoldProgram", vars := ["loop.example/g03314/impl.lineShapes"], fn := fun _ => fun
  | [d, g1] => { results := [.lit (.bool false)], args := [d], vars := [g1] }
  | _ => none }
def FnExactFoldProgramWrongFalsely : Prop := fnExactFoldProgramRow.holds Tryd.pinned (OpenSpec.ofChange fnExactFoldProgramWrong)

/-- 'laws.FnExactSavedTokens': WHATEVER THE INPUT: true; the input reads as it did. -/
def fnExactSavedTokensSpec : ChangeSpec := { name := "fnExactSavedTokens", vars := ["loop.example/g03314/impl.lineShapes"], fn := fun _ => fun
  | [d, g1] => { results := [.lit (.bool true)], args := [d], vars := [g1] }
  | _ => none }
def fnExactSavedTokensRow : OpenClaim := { program := "ytcnnfhcpkbjolaadoor", sum := "b873fb4cfb660eb33ca26e7c5c44be772aa283a76f512a0b9d974fce5807914a", func := "loop.example/g03314/laws.FnExactSavedTokens", spec := "fnExactSavedTokens", unfollowed := true, recurses := true, named := ["loop.example/g03314/impl.lineShapes"], apart := false, laid := [("loop.example/g03314/impl.lineShapes", laid_loop_example_g03314_impl_lineShapes)] }
def FnExactSavedTokensSaid : Prop := fnExactSavedTokensRow.holds Tryd.pinned (OpenSpec.ofChange fnExactSavedTokensSpec)

/-- ITS FALSE NEIGHBOUR: 'it returns false'. Refute it at one input. -/
def fnExactSavedTokensWrong : ChangeSpec := { name := "fnExactSavedTokens", vars := ["loop.example/g03314/impl.lineShapes"], fn := fun _ => fun
  | [d, g1] => { results := [.lit (.bool false)], args := [d], vars := [g1] }
  | _ => none }
def FnExactSavedTokensWrongFalsely : Prop := fnExactSavedTokensRow.holds Tryd.pinned (OpenSpec.ofChange fnExactSavedTokensWrong)

/- THE SECOND FORM. 'bulk': how many values and letters a reading holds, each counted each time it is reached (what is shared counts as often as it is met; a slice's spare places count too). A statement '..UptoSaid' is the law's where the arguments, and the package variables that the reading takes, are together of bulk at most 1048576: NARROWER than '..Said'. Prove '..Said' where nothing that the law and all that it calls make is longer than what came in: it says more and counts as full. Else prove '..UptoSaid'. A law counts once. -/
mutual
def uptoBulk {H : Type} : DataW H → Nat
  | .lit (.string bytes) => bytes.length + 1
  | .lit _ => 1
  | .nil => 1
  | .ptr d => uptoBulk d + 1
  | .slice elems spare => uptoBulkAll elems + uptoBulkAll spare + 1
  | .agg parts => uptoBulkAll parts + 1
  | .iface _ d => uptoBulk d + 1
  | .map entries => uptoBulkEntries entries + 1
  | .held _ => 1
def uptoBulkAll {H : Type} : List (DataW H) → Nat
  | [] => 0
  | d :: r => uptoBulk d + uptoBulkAll r
def uptoBulkEntries {H : Type} : List (Lit × DataW H) → Nat
  | [] => 0
  | x :: r => uptoBulkEntry x + uptoBulkEntries r
def uptoBulkEntry {H : Type} : Lit × DataW H → Nat
  | (.string bytes, d) => bytes.length + uptoBulk d + 1
  | (_, d) => uptoBulk d + 1
 end
def uptoSmall : (H : Type) → List (DataW H) → Bool := fun _ ds => decide (uptoBulkAll ds ≤ 1048576)
def OpenSpec.upto (s : _root_.Go.ChangeSpec) : _root_.Go.OpenSpec := { _root_.Go.OpenSpec.ofChange s with cond := some uptoSmall }

/-- 'laws.FnFolded', WHERE WHAT IT READS IS OF BULK AT MOST 1048576: true; the input reads as it did. -/
def fnFoldedUptoRow : OpenClaim := { program := "ytcnnfhcpkbjolaadoor", sum := "b873fb4cfb660eb33ca26e7c5c44be772aa283a76f512a0b9d974fce5807914a", func := "loop.example/g03314/laws.FnFolded", spec := "fnFolded", unfollowed := true, recurses := true, named := ["loop.example/g03314/impl.lineShapes"], apart := false, laid := [("loop.example/g03314/impl.lineShapes", laid_loop_example_g03314_impl_lineShapes)], narrowed := true }
def FnFoldedUptoSaid : Prop := fnFoldedUptoRow.holds Tryd.pinned (OpenSpec.upto fnFoldedSpec)

/-- 'laws.FnExactFoldProgram', WHERE WHAT IT READS IS OF BULK AT MOST 1048576: true; the input reads as it did. -/
def fnExactFoldProgramUptoRow : OpenClaim := { program := "ytcnnfhcpkbjolaadoor", sum := "b873fb4cfb660eb33ca26e7c5c44be772aa283a76f512a0b9d974fce5807914a", func := "loop.example/g03314/laws.FnExactFoldProgram", spec := "fnExactFoldProgram", unfollowed := true, recurses := true, named := ["loop.example/g03314/impl.lineShapes"], apart := false, laid := [("loop.example/g03314/impl.lineShapes", laid_loop_example_g03314_impl_lineShapes)], narrowed := true }
def FnExactFoldProgramUptoSaid : Prop := fnExactFoldProgramUptoRow.holds Tryd.pinned (OpenSpec.upto fnExactFoldProgramSpec)

/-- 'laws.FnExactSavedTokens', WHERE WHAT IT READS IS OF BULK AT MOST 1048576: true; the input reads as it did. -/
def fnExactSavedTokensUptoRow : OpenClaim := { program := "ytcnnfhcpkbjolaadoor", sum := "b873fb4cfb660eb33ca26e7c5c44be772aa283a76f512a0b9d974fce5807914a", func := "loop.example/g03314/laws.FnExactSavedTokens", spec := "fnExactSavedTokens", unfollowed := true, recurses := true, named := ["loop.example/g03314/impl.lineShapes"], apart := false, laid := [("loop.example/g03314/impl.lineShapes", laid_loop_example_g03314_impl_lineShapes)], narrowed := true }
def FnExactSavedTokensUptoSaid : Prop := fnExactSavedTokensUptoRow.holds Tryd.pinned (OpenSpec.upto fnExactSavedTokensSpec)

end Rows
end Go.Proofs.YtcnnfhcpkbjolaaDoor
