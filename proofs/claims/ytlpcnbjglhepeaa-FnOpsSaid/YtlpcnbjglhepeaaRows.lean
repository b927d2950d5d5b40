/-
  No cell of these rows narrows 'for every input' (looked for: loops, veiled, ifaces, maps, wideKeys, modest, calm, conditions, laid).
  DERIVED. THE GIVEN ROWS OF THIS SEAT. 6 by the template 'for every input the law returns true; each argument reads behind the call as it read before'; 0 by the template 'total and deterministic' (their statements: YtlpcnbjglhepeaaTotals.lean).
  GIVEN WITH THE SEED: the statements are not yours to turn. If you find one false, say at which input.
  Laid BY PROGRAM, IN A SANDBOX (cutbox-rows.mjs): the forced cells as the released guide's own fill.sh prints them over the translation e0bdf2db72bb4e40… (all of the seat's roots in one cut). By AI agents, Wed Nov 11 2026. No macro, syntax, notation, axiom, sorry.
-/
import Derived.Test.YtlpcnbjglhepeaaChecked
import GoSem.Claim
import GoSem.ClaimJoined
import GoSem.ClaimMapViews
import Derived.JoinedTies
import Derived.KernelRfl
namespace Go.Proofs.Ytlpcnbjglhepeaa
/- THE CELL 'sum', in the pinned program and in every row, IS THE sha256 OF THE DUMP (.gsa) THAT YtlpcnbjglhepeaaProg.lean LOADS. Nothing in Lean hashes anything: it is a label: what it is worth is what the hold of that sum in a sandbox is worth. -/
noncomputable def Try.pinned : Pinned := { name := "ytlpcnbjglhepeaa", sum := "e0bdf2db72bb4e40e4bb4bef0d87af8cc3cc9fecb63c43f0e6dcb8342606572a", checked := Try.checked }
namespace Rows
def none {H : Type} : Left H := { results := [], args := [] }

/-- 'laws.FnOps': WHATEVER THE INPUT: true; the input reads as it did. -/
def fnOpsSpec : ChangeSpec := { name := "fnOps", fn := fun _ => fun
  | [d] => { results := [.lit (.bool true)], args := [d] }
  | _ => none }
def fnOpsRow : OpenClaim := { program := "ytlpcnbjglhepeaa", sum := "e0bdf2db72bb4e40e4bb4bef0d87af8cc3cc9fecb63c43f0e6dcb8342606572a", func := "loop.example/g03314/laws.FnOps", spec := "fnOps", apart := false }
def FnOpsSaid : Prop := fnOpsRow.holds Try.pinned (OpenSpec.ofChange fnOpsSpec)

/-- ITS FALSE NEIGHBOUR: 'it returns false'. Refute it at one input. -/
def fnOpsWrong : ChangeSpec := { name := "fnOps", fn := fun _ => fun
  | [d] => { results := [.lit (.bool false)], args := [d] }
  | _ => none }
def FnOpsWrongFalsely : Prop := fnOpsRow.holds Try.pinned (OpenSpec.ofChange fnOpsWrong)

/-- 'laws.FnExactOpSize': WHATEVER THE INPUT: true; the input reads as it did. -/
def fnExactOpSizeSpec : ChangeSpec := { name := "fnExactOpSize", fn := fun _ => fun
  | [d] => { results := [.lit (.bool true)], args := [d] }
  | _ => none }
def fnExactOpSizeRow : OpenClaim := { program := "ytlpcnbjglhepeaa", sum := "e0bdf2db72bb4e40e4bb4bef0d87af8cc3cc9fecb63c43f0e6dcb8342606572a", func := "loop.example/g03314/laws.FnExactOpSize", spec := "fnExactOpSize", apart := false }
def FnExactOpSizeSaid : Prop := fnExactOpSizeRow.holds Try.pinned (OpenSpec.ofChange fnExactOpSizeSpec)

/-- ITS FALSE NEIGHBOUR: 'it returns false'. Refute it at one input. -/
def fnExactOpSizeWrong : ChangeSpec := { name := "fnExactOpSize", fn := fun _ => fun
  | [d] => { results := [.lit (.bool false)], args := [d] }
  | _ => none }
def FnExactOpSizeWrongFalsely : Prop := fnExactOpSizeRow.holds Try.pinned (OpenSpec.ofChange fnExactOpSizeWrong)

/-- 'laws.FnExactOpOk': WHATEVER THE INPUT: true; the input reads as it did. -/
def fnExactOpOkSpec : ChangeSpec := { name := "fnExactOpOk", fn := fun _ => fun
  | [d] => { results := [.lit (.bool true)], args := [d] }
  | _ => none }
def fnExactOpOkRow : OpenClaim := { program := "ytlpcnbjglhepeaa", sum := "e0bdf2db72bb4e40e4bb4bef0d87af8cc3cc9fecb63c43f0e6dcb8342606572a", func := "loop.example/g03314/laws.FnExactOpOk", spec := "fnExactOpOk", apart := false }
def FnExactOpOkSaid : Prop := fnExactOpOkRow.holds Try.pinned (OpenSpec.ofChange fnExactOpOkSpec)

/-- ITS FALSE NEIGHBOUR: 'it returns false'. Refute it at one input. -/
def fnExactOpOkWrong : ChangeSpec := { name := "fnExactOpOk", fn := fun _ => fun
  | [d] => { results := [.lit (.bool false)], args := [d] }
  | _ => none }
def FnExactOpOkWrongFalsely : Prop := fnExactOpOkRow.holds Try.pinned (OpenSpec.ofChange fnExactOpOkWrong)

/-- 'laws.FnExactEncodeOp': WHATEVER THE INPUT: true; the input reads as it did. -/
def fnExactEncodeOpSpec : ChangeSpec := { name := "fnExactEncodeOp", fn := fun _ => fun
  | [d] => { results := [.lit (.bool true)], args := [d] }
  | _ => none }
def fnExactEncodeOpRow : OpenClaim := { program := "ytlpcnbjglhepeaa", sum := "e0bdf2db72bb4e40e4bb4bef0d87af8cc3cc9fecb63c43f0e6dcb8342606572a", func := "loop.example/g03314/laws.FnExactEncodeOp", spec := "fnExactEncodeOp", apart := false }
def FnExactEncodeOpSaid : Prop := fnExactEncodeOpRow.holds Try.pinned (OpenSpec.ofChange fnExactEncodeOpSpec)

/-- ITS FALSE NEIGHBOUR: 'it returns false'. Refute it at one input. -/
def fnExactEncodeOpWrong : ChangeSpec := { name := "fnExactEncodeOp", fn := fun _ => fun
  | [d] => { results := [.lit (.bool false)], args := [d] }
  | _ => none }
def FnExactEncodeOpWrongFalsely : Prop := fnExactEncodeOpRow.holds Try.pinned (OpenSpec.ofChange fnExactEncodeOpWrong)

/-- 'laws.FnExactDecodeOp': WHATEVER THE INPUT: true; the input reads as it did. -/
def fnExactDecodeOpSpec : ChangeSpec := { name := "fnExactDecodeOp", fn := fun _ => fun
  | [d1, d2] => { results := [.lit (.bool true)], args := [d1, d2] }
  | _ => none }
def fnExactDecodeOpRow : OpenClaim := { program := "ytlpcnbjglhepeaa", sum := "e0bdf2db72bb4e40e4bb4bef0d87af8cc3cc9fecb63c43f0e6dcb8342606572a", func := "loop.example/g03314/laws.FnExactDecodeOp", spec := "fnExactDecodeOp", apart := false }
def FnExactDecodeOpSaid : Prop := fnExactDecodeOpRow.holds Try.pinned (OpenSpec.ofChange fnExactDecodeOpSpec)

/-- ITS FALSE NEIGHBOUR: 'it returns false'. Refute it at one input. -/
def fnExactDecodeOpWrong : ChangeSpec := { name := "fnExactDecodeOp", fn := fun _ => fun
  | [d1, d2] => { results := [.lit (.bool false)], args := [d1, d2] }
  | _ => none }
def FnExactDecodeOpWrongFalsely : Prop := fnExactDecodeOpRow.holds Try.pinned (OpenSpec.ofChange fnExactDecodeOpWrong)

/-- 'laws.FnExactDisassemble': WHATEVER THE INPUT: true; the input reads as it did. -/
def fnExactDisassembleSpec : ChangeSpec := { name := "fnExactDisassemble", fn := fun _ => fun
  | [d] => { results := [.lit (.bool true)], args := [d] }
  | _ => none }
def fnExactDisassembleRow : OpenClaim := { program := "ytlpcnbjglhepeaa", sum := "e0bdf2db72bb4e40e4bb4bef0d87af8cc3cc9fecb63c43f0e6dcb8342606572a", func := "loop.example/g03314/laws.FnExactDisassemble", spec := "fnExactDisassemble", apart := false }
def FnExactDisassembleSaid : Prop := fnExactDisassembleRow.holds Try.pinned (OpenSpec.ofChange fnExactDisassembleSpec)

/-- ITS FALSE NEIGHBOUR: 'it returns false'. Refute it at one input. -/
def fnExactDisassembleWrong : ChangeSpec := { name := "fnExactDisassemble", fn := fun _ => fun
  | [d] => { results := [.lit (.bool false)], args := [d] }
  | _ => none }
def FnExactDisassembleWrongFalsely : Prop := fnExactDisassembleRow.holds Try.pinned (OpenSpec.ofChange fnExactDisassembleWrong)

/- THE SECOND FORM. 'bulk': how many values and letters a reading holds, each counted each time it is reached (what is shared counts as often as it is met; a slice's spare places count too). A statement '..UptoSaid' is the law's where the arguments, and the package variables that the reading takes, are together of bulk at most 1048576: NARROWER than '..Said'. Prove '..Said' where nothing that the law and all that it calls make is longer than what came in: it says more and counts as full. Else prove '..UptoSaid'. A law counts once. -/
mutual
def uptoBulk {H : Type} : DataW H → Nat
  | .lit (.string bytes) => bytes.length + 1
  | .lit _ => 1
  | .nil => 1
  | .ptr d => uptoBulk d + 1
  | .slice elems spare => uptoBulkAll elems + uptoBulkAll spare + 1
  | .agg parts => uptoBulkAll parts + 1
  | .iface _ d => uptoBulk d + 1
  | .map entries => uptoBulkEntries entries + 1
  | .held _ => 1
def uptoBulkAll {H : Type} : List (DataW H) → Nat
  | [] => 0
  | d :: r => uptoBulk d + uptoBulkAll r
def uptoBulkEntries {H : Type} : List (Lit × DataW H) → Nat
  | [] => 0
  | x :: r => uptoBulkEntry x + uptoBulkEntries r
def uptoBulkEntry {H : Type} : Lit × DataW H → Nat
  | (.string bytes, d) => bytes.length + uptoBulk d + 1
  | (_, d) => uptoBulk d + 1
 end
def uptoSmall : (H : Type) → List (DataW H) → Bool := fun _ ds => decide (uptoBulkAll ds ≤ 1048576)
def OpenSpec.upto (s : _root_.Go.ChangeSpec) : _root_.Go.OpenSpec := { _root_.Go.OpenSpec.ofChange s with cond := some uptoSmall }

/-- 'laws.FnOps', WHERE WHAT IT READS IS OF BULK AT MOST 1048576: true; the input reads as it did. -/
def fnOpsUptoRow : OpenClaim := { program := "ytlpcnbjglhepeaa", sum := "e0bdf2db72bb4e40e4bb4bef0d87af8cc3cc9fecb63c43f0e6dcb8342606572a", func := "loop.example/g03314/laws.FnOps", spec := "fnOps", apart := false, narrowed := true }
def FnOpsUptoSaid : Prop := fnOpsUptoRow.holds Try.pinned (OpenSpec.upto fnOpsSpec)

/-- 'laws.FnExactOpSize', WHERE WHAT IT READS IS OF BULK AT MOST 1048576: true; the input reads as it did. -/
def fnExactOpSizeUptoRow : OpenClaim := { program := "ytlpcnbjglhepeaa", sum := "e0bdf2db72bb4e40e4bb4bef0d87af8cc3cc9fecb63c43f0e6dcb8342606572a", func := "loop.example/g03314/laws.FnExactOpSize", spec := "fnExactOpSize", apart := false, narrowed := true }
def FnExactOpSizeUptoSaid : Prop := fnExactOpSizeUptoRow.holds Try.pinned (OpenSpec.upto fnExactOpSizeSpec)

/-- 'laws.FnExactOpOk', WHERE WHAT IT READS IS OF BULK AT MOST 1048576: true; the input reads as it did. -/
def fnExactOpOkUptoRow : OpenClaim := { program := "ytlpcnbjglhepeaa", sum := "e0bdf2db72bb4e40e4bb4bef0d87af8cc3cc9fecb63c43f0e6dcb8342606572a", func := "loop.example/g03314/laws.FnExactOpOk", spec := "fnExactOpOk", apart := false, narrowed := true }
def FnExactOpOkUptoSaid : Prop := fnExactOpOkUptoRow.holds Try.pinned (OpenSpec.upto fnExactOpOkSpec)

/-- 'laws.FnExactEncodeOp', WHERE WHAT IT READS IS OF BULK AT MOST 1048576: true; the input reads as it did. -/
def fnExactEncodeOpUptoRow : OpenClaim := { program := "ytlpcnbjglhepeaa", sum := "e0bdf2db72bb4e40e4bb4bef0d87af8cc3cc9fecb63c43f0e6dcb8342606572a", func := "loop.example/g03314/laws.FnExactEncodeOp", spec := "fnExactEncodeOp", apart := false, narrowed := true }
def FnExactEncodeOpUptoSaid : Prop := fnExactEncodeOpUptoRow.holds Try.pinned (OpenSpec.upto fnExactEncodeOpSpec)

/-- 'laws.FnExactDecodeOp', WHERE WHAT IT READS IS OF BULK AT MOST 1048576: true; the input reads as it did. -/
def fnExactDecodeOpUptoRow : OpenClaim := { program := "ytlpcnbjglhepeaa", sum := "e0bdf2db72bb4e40e4bb4bef0d87af8cc3cc9fecb63c43f0e6dcb8342606572a", func := "loop.example/g03314/laws.FnExactDecodeOp", spec := "fnExactDecodeOp", apart := false, narrowed := true }
def FnExactDecodeOpUptoSaid : Prop := fnExactDecodeOpUptoRow.holds Try.pinned (OpenSpec.upto fnExactDecodeOpSpec)

/-- 'laws.FnExactDisassemble', WHERE WHAT IT READS IS OF BULK AT MOST 1048576: true; the input reads as it did. -/
def fnExactDisassembleUptoRow : OpenClaim := { program := "ytlpcnbjglhepeaa", sum := "e0bdf2db72bb4e40e4bb4bef0d87af8cc3cc9fecb63c43f0e6dcb8342606572a", func := "loop.example/g03314/laws.FnExactDisassemble", spec := "fnExactDisassemble", apart := false, narrowed := true }
def FnExactDisassembleUptoSaid : Prop := fnExactDisassembleUptoRow.holds Try.pinned (OpenSpec.upto fnExactDisassembleSpec)

end Rows
end Go.Proofs.Ytlpcnbjglhepeaa
