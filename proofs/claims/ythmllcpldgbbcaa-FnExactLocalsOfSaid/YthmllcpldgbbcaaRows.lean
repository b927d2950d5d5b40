/-
  No cell of these rows narrows 'for every input' (looked for: loops, veiled, ifaces, maps, wideKeys, modest, calm, conditions, laid).
  DERIVED. THE GIVEN ROWS OF THIS SEAT. 5 by the template 'for every input the law returns true; each argument reads behind the call as it read before'; 0 by the template 'total and deterministic' (their statements: YthmllcpldgbbcaaTotals.lean).
  GIVEN WITH THE SEED: the statements are not yours to turn. If you find one false, say at which input.
  Laid BY PROGRAM, IN A SANDBOX (cutbox-rows.mjs): the forced cells as the released guide's own fill.sh prints them over the translation 413dc3264086fc93… (all of the seat's roots in one cut). By AI agents, Wed Nov 11 2026. No macro, syntax, notation, axiom, sorry.
-/
import Derived.Test.YthmllcpldgbbcaaChecked
import GoSem.Claim
import GoSem.ClaimJoined
import GoSem.ClaimMapViews
import Derived.JoinedTies
import Derived.KernelRfl
namespace Go.Proofs.Ythmllcpldgbbcaa
/- THE CELL 'sum', in the pinned program and in every row, IS THE sha256 OF THE DUMP (.gsa) THAT YthmllcpldgbbcaaProg.lean LOADS. Nothing in Lean hashes anything: it is a label: what it is worth is what the hold of that sum in a sandbox is worth. -/
noncomputable def Try.pinned : Pinned := { name := "ythmllcpldgbbcaa", sum := "413dc3264086fc93c6f1f2d07e5403074cb142af13ab825478e5b77b8128265b", checked := Try.checked }
namespace Rows
def none {H : Type} : Left H := { results := [], args := [] }

/-- 'laws.FnExactEndOf': WHATEVER THE INPUT: true; the input reads as it did. -/
def fnExactEndOfSpec : ChangeSpec := { name := "fnExactEndOf", fn := fun _ => fun
  | [d1, d2] => { results := [.lit (.bool true)], args := [d1, d2] }
  | _ => none }
def fnExactEndOfRow : OpenClaim := { program := "ythmllcpldgbbcaa", sum := "413dc3264086fc93c6f1f2d07e5403074cb142af13ab825478e5b77b8128265b", func := "loop.example/g03314/laws.FnExactEndOf", spec := "fnExactEndOf", apart := false }
def FnExactEndOfSaid : Prop := fnExactEndOfRow.holds Try.pinned (OpenSpec.ofChange fnExactEndOfSpec)

/-- ITS FALSE NEIGHBOUR: 'it returns false'. Refute it at one input. -/
def fnExactEndOfWrong : ChangeSpec := { name := "fnExactEndOf", fn := fun _ => fun
  | [d1, d2] => { results := [.lit (.bool false)], args := [d1, d2] }
  | _ => none }
def FnExactEndOfWrongFalsely : Prop := fnExactEndOfRow.holds Try.pinned (OpenSpec.ofChange fnExactEndOfWrong)

/-- 'laws.FnExactElseOf': WHATEVER THE INPUT: true; the input reads as it did. -/
def fnExactElseOfSpec : ChangeSpec := { name := "fnExactElseOf", fn := fun _ => fun
  | [d1, d2] => { results := [.lit (.bool true)], args := [d1, d2] }
  | _ => none }
def fnExactElseOfRow : OpenClaim := { program := "ythmllcpldgbbcaa", sum := "413dc3264086fc93c6f1f2d07e5403074cb142af13ab825478e5b77b8128265b", func := "loop.example/g03314/laws.FnExactElseOf", spec := "fnExactElseOf", apart := false }
def FnExactElseOfSaid : Prop := fnExactElseOfRow.holds Try.pinned (OpenSpec.ofChange fnExactElseOfSpec)

/-- ITS FALSE NEIGHBOUR: 'it returns false'. Refute it at one input. -/
def fnExactElseOfWrong : ChangeSpec := { name := "fnExactElseOf", fn := fun _ => fun
  | [d1, d2] => { results := [.lit (.bool false)], args := [d1, d2] }
  | _ => none }
def FnExactElseOfWrongFalsely : Prop := fnExactElseOfRow.holds Try.pinned (OpenSpec.ofChange fnExactElseOfWrong)

/-- 'laws.FnExactFunctionLines': WHATEVER THE INPUT: true; the input reads as it did. -/
def fnExactFunctionLinesSpec : ChangeSpec := { name := "fnExactFunctionLines", fn := fun _ => fun
  | [d] => { results := [.lit (.bool true)], args := [d] }
  | _ => none }
def fnExactFunctionLinesRow : OpenClaim := { program := "ythmllcpldgbbcaa", sum := "413dc3264086fc93c6f1f2d07e5403074cb142af13ab825478e5b77b8128265b", func := "loop.example/g03314/laws.FnExactFunctionLines", spec := "fnExactFunctionLines", apart := false }
def FnExactFunctionLinesSaid : Prop := fnExactFunctionLinesRow.holds Try.pinned (OpenSpec.ofChange fnExactFunctionLinesSpec)

/-- ITS FALSE NEIGHBOUR: 'it returns false'. Refute it at one input. -/
def fnExactFunctionLinesWrong : ChangeSpec := { name := "fnExactFunctionLines", fn := fun _ => fun
  | [d] => { results := [.lit (.bool false)], args := [d] }
  | _ => none }
def FnExactFunctionLinesWrongFalsely : Prop := fnExactFunctionLinesRow.holds Try.pinned (OpenSpec.ofChange fnExactFunctionLinesWrong)

/-- 'laws.FnExactFindFunction': WHATEVER THE INPUT: true; the input reads as it did. -/
def fnExactFindFunctionSpec : ChangeSpec := { name := "fnExactFindFunction", fn := fun _ => fun
  | [d1, d2] => { results := [.lit (.bool true)], args := [d1, d2] }
  | _ => none }
def fnExactFindFunctionRow : OpenClaim := { program := "ythmllcpldgbbcaa", sum := "413dc3264086fc93c6f1f2d07e5403074cb142af13ab825478e5b77b8128265b", func := "loop.example/g03314/laws.FnExactFindFunction", spec := "fnExactFindFunction", unfollowed := true, recurses := true, apart := false }
def FnExactFindFunctionSaid : Prop := fnExactFindFunctionRow.holds Try.pinned (OpenSpec.ofChange fnExactFindFunctionSpec)

/-- ITS FALSE NEIGHBOUR: 'it returns false'. Refute it at one input. -/
def fnExactFindFunctionWrong : ChangeSpec := { name := "fnExactFindFunction", fn := fun _ => fun
  | [d1, d2] => { results := [.lit (.bool false)], args := [d1, d2] }
  | _ => none }
def FnExactFindFunctionWrongFalsely : Prop := fnExactFindFunctionRow.holds Try.pinned (OpenSpec.ofChange fnExactFindFunctionWrong)

/-- 'laws.FnExactLocalsOf': WHATEVER THE INPUT: true; the input reads as it did. -/
def fnExactLocalsOfSpec : ChangeSpec := { name := "fnExactLocalsOf", fn := fun _ => fun
  | [d1, d2] => { results := [.lit (.bool true)], args := [d1, d2] }
  | _ => none }
def fnExactLocalsOfRow : OpenClaim := { program := "ythmllcpldgbbcaa", sum := "413dc3264086fc93c6f1f2d07e5403074cb142af13ab825478e5b77b8128265b", func := "loop.example/g03314/laws.FnExactLocalsOf", spec := "fnExactLocalsOf", apart := false }
def FnExactLocalsOfSaid : Prop := fnExactLocalsOfRow.holds Try.pinned (OpenSpec.ofChange fnExactLocalsOfSpec)

/-- ITS FALSE NEIGHBOUR: 'it returns false'. Refute it at one input. -/
def fnExactLocalsOfWrong : ChangeSpec := { name := "fnExactLocalsOf", fn := fun _ => fun
  | [d1, d2] => { results := [.lit (.bool false)], args := [d1, d2] }
  | _ => none }
def FnExactLocalsOfWrongFalsely : Prop := fnExactLocalsOfRow.holds Try.pinned (OpenSpec.ofChange fnExactLocalsOfWrong)

/- THE SECOND FORM. 'bulk': how many values and letters a reading holds, each counted each time it is reached (what is shared counts as often as it is met; a slice's spare places count too). A statement '..UptoSaid' is the law's where the arguments, and the package variables that the reading takes, are together of bulk at most 1048576: NARROWER than '..Said'. Prove '..Said' where nothing that the law and all that it calls make is longer than what came in: it says more and counts as full. Else prove '..UptoSaid'. A law counts once. -/
mutual
def uptoBulk {H : Type} : DataW H → Nat
  | .lit (.string bytes) => bytes.length + 1
  | .lit _ => 1
  | .nil => 1
  | .ptr d => uptoBulk d + 1
  | .slice elems spare => uptoBulkAll elems + uptoBulkAll spare + 1
  | .agg parts => uptoBulkAll parts + 1
  | .iface _ d => uptoBulk d + 1
  | .map entries => uptoBulkEntries entries + 1
  | .held _ => 1
def uptoBulkAll {H : Type} : List (DataW H) → Nat
  | [] => 0
  | d :: r => uptoBulk d + uptoBulkAll r
def uptoBulkEntries {H : Type} : List (Lit × DataW H) → Nat
  | [] => 0
  | x :: r => uptoBulkEntry x + uptoBulkEntries r
def uptoBulkEntry {H : Type} : Lit × DataW H → Nat
  | (.string bytes, d) => bytes.length + uptoBulk d + 1
  | (_, d) => uptoBulk d + 1
 end
def uptoSmall : (H : Type) → List (DataW H) → Bool := fun _ ds => decide (uptoBulkAll ds ≤ 1048576)
def OpenSpec.upto (s : _root_.Go.ChangeSpec) : _root_.Go.OpenSpec := { _root_.Go.OpenSpec.ofChange s with cond := some uptoSmall }

/-- 'laws.FnExactEndOf', WHERE WHAT IT READS IS OF BULK AT MOST 1048576: true; the input reads as it did. -/
def fnExactEndOfUptoRow : OpenClaim := { program := "ythmllcpldgbbcaa", sum := "413dc3264086fc93c6f1f2d07e5403074cb142af13ab825478e5b77b8128265b", func := "loop.example/g03314/laws.FnExactEndOf", spec := "fnExactEndOf", apart := false, narrowed := true }
def FnExactEndOfUptoSaid : Prop := fnExactEndOfUptoRow.holds Try.pinned (OpenSpec.upto fnExactEndOfSpec)

/-- 'laws.FnExactElseOf', WHERE WHAT IT READS IS OF BULK AT MOST 1048576: true; the input reads as it did. -/
def fnExactElseOfUptoRow : OpenClaim := { program := "ythmllcpldgbbcaa", sum := "413dc3264086fc93c6f1f2d07e5403074cb142af13ab825478e5b77b8128265b", func := "loop.example/g03314/laws.FnExactElseOf", spec := "fnExactElseOf", apart := false, narrowed := true }
def FnExactElseOfUptoSaid : Prop := fnExactElseOfUptoRow.holds Try.pinned (OpenSpec.upto fnExactElseOfSpec)

/-- 'laws.FnExactFunctionLines', WHERE WHAT IT READS IS OF BULK AT MOST 1048576: true; the input reads as it did. -/
def fnExactFunctionLinesUptoRow : OpenClaim := { program := "ythmllcpldgbbcaa", sum := "413dc3264086fc93c6f1f2d07e5403074cb142af13ab825478e5b77b8128265b", func := "loop.example/g03314/laws.FnExactFunctionLines", spec := "fnExactFunctionLines", apart := false, narrowed := true }
def FnExactFunctionLinesUptoSaid : Prop := fnExactFunctionLinesUptoRow.holds Try.pinned (OpenSpec.upto fnExactFunctionLinesSpec)

/-- 'laws.FnExactFindFunction', WHERE WHAT IT READS IS OF BULK AT MOST 1048576: true; the input reads as it did. -/
def fnExactFindFunctionUptoRow : OpenClaim := { program := "ythmllcpldgbbcaa", sum := "413dc3264086fc93c6f1f2d07e5403074cb142af13ab825478e5b77b8128265b", func := "loop.example/g03314/laws.FnExactFindFunction", spec := "fnExactFindFunction", unfollowed := true, recurses := true, apart := false, narrowed := true }
def FnExactFindFunctionUptoSaid : Prop := fnExactFindFunctionUptoRow.holds Try.pinned (OpenSpec.upto fnExactFindFunctionSpec)

/-- 'laws.FnExactLocalsOf', WHERE WHAT IT READS IS OF BULK AT MOST 1048576: true; the input reads as it did. -/
def fnExactLocalsOfUptoRow : OpenClaim := { program := "ythmllcpldgbbcaa", sum := "413dc3264086fc93c6f1f2d07e5403074cb142af13ab825478e5b77b8128265b", func := "loop.example/g03314/laws.FnExactLocalsOf", spec := "fnExactLocalsOf", apart := false, narrowed := true }
def FnExactLocalsOfUptoSaid : Prop := fnExactLocalsOfUptoRow.holds Try.pinned (OpenSpec.upto fnExactLocalsOfSpec)

end Rows
end Go.Proofs.Ythmllcpldgbbcaa
