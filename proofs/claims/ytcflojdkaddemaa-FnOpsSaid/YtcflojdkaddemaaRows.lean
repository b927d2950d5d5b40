/-
  No cell of these rows narrows 'for every input' (looked for: loops, veiled, ifaces, maps, wideKeys, modest, calm, conditions, laid).
  DERIVED. THE GIVEN ROWS OF THIS SEAT. 6 by the template 'for every input the law returns true; each argument reads behind the call as it read before'; 0 by the template 'total and deterministic' (their statements: YtcflojdkaddemaaTotals.lean).
  GIVEN WITH THE SEED: the statements are not yours to turn. If you find one false, say at which input.
  Laid BY PROGRAM, IN A SANDBOX (cutbox-rows.mjs): the forced cells as the released guide's own fill.sh prints them over the translation c604af84d4810aa0… (all of the seat's roots in one cut). By AI agents, Wed Nov 11 2026. No macro, syntax, notation, axiom, sorry.
-/
import Derived.Test.YtcflojdkaddemaaChecked
import GoSem.Claim
import GoSem.ClaimJoined
import GoSem.ClaimMapViews
import Derived.JoinedTies
import Derived.KernelRfl
namespace Go.Proofs.Ytcflojdkaddemaa
/- THE CELL 'sum', in the pinned program and in every row, IS THE sha256 OF THE DUMP (.gsa) THAT YtcflojdkaddemaaProg.lean LOADS. Nothing in Lean hashes anything: it is a label: what it is worth is what the hold of that sum in a sandbox is worth. -/
noncomputable def Try.pinned : Pinned := { name := "ytcflojdkaddemaa", sum := "c604af84d4810aa069857e668a8638e6fcefb21ca9595a0006551ad112651c4b", checked := Try.checked }
namespace Rows
def none {H : Type} : Left H := { results := [], args := [] }

/-- 'laws.FnOps': WHATEVER THE INPUT: true; the input reads as it did. -/
def fnOpsSpec : ChangeSpec := { name := "fnOps", fn := fun _ => fun
  | [d] => { results := [.lit (.bool true)], args := [d] }
  | _ => none }
def fnOpsRow : OpenClaim := { program := "ytcflojdkaddemaa", sum := "c604af84d4810aa069857e668a8638e6fcefb21ca9595a0006551ad112651c4b", func := "loop.example/g03314/laws.FnOps", spec := "fnOps", apart := false }
def FnOpsSaid : Prop := fnOpsRow.holds Try.pinned (OpenSpec.ofChange fnOpsSpec)

/-- ITS FALSE NEIGHBOUR: 'it returns false'. Refute it at one input. -/
def fnOpsWrong : ChangeSpec := { name := "fnOps", fn := fun _ => fun
  | [d] => { results := [.lit (.bool false)], args := [d] }
  | _ => none }
def FnOpsWrongFalsely : Prop := fnOpsRow.holds Try.pinned (OpenSpec.ofChange fnOpsWrong)

/-- 'laws.FnExactDecodeOp': WHATEVER THE INPUT: true; the input reads as it did. -/
def fnExactDecodeOpSpec : ChangeSpec := { name := "fnExactDecodeOp", fn := fun _ => fun
  | [d1, d2] => { results := [.lit (.bool true)], args := [d1, d2] }
  | _ => none }
def fnExactDecodeOpRow : OpenClaim := { program := "ytcflojdkaddemaa", sum := "c604af84d4810aa069857e668a8638e6fcefb21ca9595a0006551ad112651c4b", func := "loop.example/g03314/laws.FnExactDecodeOp", spec := "fnExactDecodeOp", apart := false }
def FnExactDecodeOpSaid : Prop := fnExactDecodeOpRow.holds Try.pinned (OpenSpec.ofChange fnExactDecodeOpSpec)

/-- ITS FALSE NEIGHBOUR: 'it returns false'. Refute it at one input. -/
def fnExactDecodeOpWrong : ChangeSpec := { name := "fnExactDecodeOp", fn := fun _ => fun
  | [d1, d2] => { results := [.lit (.bool false)], args := [d1, d2] }
  | _ => none }
def FnExactDecodeOpWrongFalsely : Prop := fnExactDecodeOpRow.holds Try.pinned (OpenSpec.ofChange fnExactDecodeOpWrong)

/-- 'laws.FnExactDisassemble': WHATEVER THE INPUT: true; the input reads as it did. -/
def fnExactDisassembleSpec : ChangeSpec := { name := "fnExactDisassemble", fn := fun _ => fun
  | [d] => { results := [.lit (.bool true)], args := [d] }
  | _ => none }
def fnExactDisassembleRow : OpenClaim := { program := "ytcflojdkaddemaa", sum := "c604af84d4810aa069857e668a8638e6fcefb21ca9595a0006551ad112651c4b", func := "loop.example/g03314/laws.FnExactDisassemble", spec := "fnExactDisassemble", apart := false }
def FnExactDisassembleSaid : Prop := fnExactDisassembleRow.holds Try.pinned (OpenSpec.ofChange fnExactDisassembleSpec)

/-- ITS FALSE NEIGHBOUR: 'it returns false'. Refute it at one input. -/
def fnExactDisassembleWrong : ChangeSpec := { name := "fnExactDisassemble", fn := fun _ => fun
  | [d] => { results := [.lit (.bool false)], args := [d] }
  | _ => none }
def FnExactDisassembleWrongFalsely : Prop := fnExactDisassembleRow.holds Try.pinned (OpenSpec.ofChange fnExactDisassembleWrong)

/-- 'laws.FnExactImageOk': WHATEVER THE INPUT: true; the input reads as it did. -/
def fnExactImageOkSpec : ChangeSpec := { name := "fnExactImageOk", fn := fun _ => fun
  | [d] => { results := [.lit (.bool true)], args := [d] }
  | _ => none }
def fnExactImageOkRow : OpenClaim := { program := "ytcflojdkaddemaa", sum := "c604af84d4810aa069857e668a8638e6fcefb21ca9595a0006551ad112651c4b", func := "loop.example/g03314/laws.FnExactImageOk", spec := "fnExactImageOk", apart := false }
def FnExactImageOkSaid : Prop := fnExactImageOkRow.holds Try.pinned (OpenSpec.ofChange fnExactImageOkSpec)

/-- ITS FALSE NEIGHBOUR: 'it returns false'. Refute it at one input. -/
def fnExactImageOkWrong : ChangeSpec := { name := "fnExactImageOk", fn := fun _ => fun
  | [d] => { results := [.lit (.bool false)], args := [d] }
  | _ => none }
def FnExactImageOkWrongFalsely : Prop := fnExactImageOkRow.holds Try.pinned (OpenSpec.ofChange fnExactImageOkWrong)

/-- 'laws.FnExactSpaceOk': WHATEVER THE INPUT: true; the input reads as it did. -/
def fnExactSpaceOkSpec : ChangeSpec := { name := "fnExactSpaceOk", fn := fun _ => fun
  | [d] => { results := [.lit (.bool true)], args := [d] }
  | _ => none }
def fnExactSpaceOkRow : OpenClaim := { program := "ytcflojdkaddemaa", sum := "c604af84d4810aa069857e668a8638e6fcefb21ca9595a0006551ad112651c4b", func := "loop.example/g03314/laws.FnExactSpaceOk", spec := "fnExactSpaceOk", unfollowed := true, recurses := true, apart := false }
def FnExactSpaceOkSaid : Prop := fnExactSpaceOkRow.holds Try.pinned (OpenSpec.ofChange fnExactSpaceOkSpec)

/-- ITS FALSE NEIGHBOUR: 'it returns false'. Refute it at one input. -/
def fnExactSpaceOkWrong : ChangeSpec := { name := "fnExactSpaceOk", fn := fun _ => fun
  | [d] => { results := [.lit (.bool false)], args := [d] }
  | _ => none }
def FnExactSpaceOkWrongFalsely : Prop := fnExactSpaceOkRow.holds Try.pinned (OpenSpec.ofChange fnExactSpaceOkWrong)

/-- 'laws.FnExactLocate': WHATEVER THE INPUT: true; the input reads as it did. -/
def fnExactLocateSpec : ChangeSpec := { name := "fnExactLocate", fn := fun _ => fun
  | [d1, d2] => { results := [.lit (.bool true)], args := [d1, d2] }
  | _ => none }
def fnExactLocateRow : OpenClaim := { program := "ytcflojdkaddemaa", sum := "c604af84d4810aa069857e668a8638e6fcefb21ca9595a0006551ad112651c4b", func := "loop.example/g03314/laws.FnExactLocate", spec := "fnExactLocate", unfollowed := true, recurses := true, apart := false }
def FnExactLocateSaid : Prop := fnExactLocateRow.holds Try.pinned (OpenSpec.ofChange fnExactLocateSpec)

/-- ITS FALSE NEIGHBOUR: 'it returns false'. Refute it at one input. -/
def fnExactLocateWrong : ChangeSpec := { name := "fnExactLocate", fn := fun _ => fun
  | [d1, d2] => { results := [.lit (.bool false)], args := [d1, d2] }
  | _ => none }
def FnExactLocateWrongFalsely : Prop := fnExactLocateRow.holds Try.pinned (OpenSpec.ofChange fnExactLocateWrong)

/- THE SECOND FORM. 'bulk': how many values and letters a reading holds, each counted each time it is reached (what is shared counts as often as it is met; a slice's spare places count too). A statement '..UptoSaid' is the law's where the arguments, and the package variables that the reading takes, are together of bulk at most 1048576: NARROWER than '..Said'. Prove '..Said' where nothing that the law and all that it calls make is longer than what came in: it says more and counts as full. Else prove '..UptoSaid'. A law counts once. -/
mutual
def uptoBulk {H : Type} : DataW H → Nat
  | .lit (.string bytes) => bytes.length + 1
  | .lit _ => 1
  | .nil => 1
  | .ptr d => uptoBulk d + 1
  | .slice elems spare => uptoBulkAll elems + uptoBulkAll spare + 1
  | .agg parts => uptoBulkAll parts + 1
  | .iface _ d => uptoBulk d + 1
  | .map entries => uptoBulkEntries entries + 1
  | .held _ => 1
def uptoBulkAll {H : Type} : List (DataW H) → Nat
  | [] => 0
  | d :: r => uptoBulk d + uptoBulkAll r
def uptoBulkEntries {H : Type} : List (Lit × DataW H) → Nat
  | [] => 0
  | x :: r => uptoBulkEntry x + uptoBulkEntries r
def uptoBulkEntry {H : Type} : Lit × DataW H → Nat
  | (.string bytes, d) => bytes.length + uptoBulk d + 1
  | (_, d) => uptoBulk d + 1
 end
def uptoSmall : (H : Type) → List (DataW H) → Bool := fun _ ds => decide (uptoBulkAll ds ≤ 1048576)
def OpenSpec.upto (s : _root_.Go.ChangeSpec) : _root_.Go.OpenSpec := { _root_.Go.OpenSpec.ofChange s with cond := some uptoSmall }

/-- 'laws.FnOps', WHERE WHAT IT READS IS OF BULK AT MOST 1048576: true; the input reads as it did. -/
def fnOpsUptoRow : OpenClaim := { program := "ytcflojdkaddemaa", sum := "c604af84d4810aa069857e668a8638e6fcefb21ca9595a0006551ad112651c4b", func := "loop.example/g03314/laws.FnOps", spec := "fnOps", apart := false, narrowed := true }
def FnOpsUptoSaid : Prop := fnOpsUptoRow.holds Try.pinned (OpenSpec.upto fnOpsSpec)

/-- 'laws.FnExactDecodeOp', WHERE WHAT IT READS IS OF BULK AT MOST 1048576: true; the input reads as it did. -/
def fnExactDecodeOpUptoRow : OpenClaim := { program := "ytcflojdkaddemaa", sum := "c604af84d4810aa069857e668a8638e6fcefb21ca9595a0006551ad112651c4b", func := "loop.example/g03314/laws.FnExactDecodeOp", spec := "fnExactDecodeOp", apart := false, narrowed := true }
def FnExactDecodeOpUptoSaid : Prop := fnExactDecodeOpUptoRow.holds Try.pinned (OpenSpec.upto fnExactDecodeOpSpec)

/-- 'laws.FnExactDisassemble', WHERE WHAT IT READS IS OF BULK AT MOST 1048576: true; the input reads as it did. -/
def fnExactDisassembleUptoRow : OpenClaim := { program := "ytcflojdkaddemaa", sum := "c604af84d4810aa069857e668a8638e6fcefb21ca9595a0006551ad112651c4b", func := "loop.example/g03314/laws.FnExactDisassemble", spec := "fnExactDisassemble", apart := false, narrowed := true }
def FnExactDisassembleUptoSaid : Prop := fnExactDisassembleUptoRow.holds Try.pinned (OpenSpec.upto fnExactDisassembleSpec)

/-- 'laws.FnExactImageOk', WHERE WHAT IT READS IS OF BULK AT MOST 1048576: true; the input reads as it did. -/
def fnExactImageOkUptoRow : OpenClaim := { program := "ytcflojdkaddemaa", sum := "c604af84d4810aa069857e668a8638e6fcefb21ca9595a0006551ad112651c4b", func := "loop.example/g03314/laws.FnExactImageOk", spec := "fnExactImageOk", apart := false, narrowed := true }
def FnExactImageOkUptoSaid : Prop := fnExactImageOkUptoRow.holds Try.pinned (OpenSpec.upto fnExactImageOkSpec)

/-- 'laws.FnExactSpaceOk', WHERE WHAT IT READS IS OF BULK AT MOST 1048576: true; the input reads as it did. -/
def fnExactSpaceOkUptoRow : OpenClaim := { program := "ytcflojdkaddemaa", sum := "c604af84d4810aa069857e668a8638e6fcefb21ca9595a0006551ad112651c4b", func := "loop.example/g03314/laws.FnExactSpaceOk", spec := "fnExactSpaceOk", unfollowed := true, recurses := true, apart := false, narrowed := true }
def FnExactSpaceOkUptoSaid : Prop := fnExactSpaceOkUptoRow.holds Try.pinned (OpenSpec.upto fnExactSpaceOkSpec)

/-- 'laws.FnExactLocate', WHERE WHAT IT READS IS OF BULK AT MOST 1048576: true; the input reads as it did. -/
def fnExactLocateUptoRow : OpenClaim := { program := "ytcflojdkaddemaa", sum := "c604af84d4810aa069857e668a8638e6fcefb21ca9595a0006551ad112651c4b", func := "loop.example/g03314/laws.FnExactLocate", spec := "fnExactLocate", unfollowed := true, recurses := true, apart := false, narrowed := true }
def FnExactLocateUptoSaid : Prop := fnExactLocateUptoRow.holds Try.pinned (OpenSpec.upto fnExactLocateSpec)

end Rows
end Go.Proofs.Ytcflojdkaddemaa
