/-
  No cell of these rows narrows 'for every input' (looked for: loops, veiled, ifaces, maps, wideKeys, modest, calm, conditions, laid).
  DERIVED. THE GIVEN ROWS OF THIS SEAT. 7 by the template 'for every input the law returns true; each argument reads behind the call as it read before'; 0 by the template 'total and deterministic' (their statements: YtegckfmmoapncaaTotals.lean).
  GIVEN WITH THE SEED: the statements are not yours to turn. If you find one false, say at which input.
  Laid BY PROGRAM, IN A SANDBOX (cutbox-rows.mjs): the forced cells as the released guide's own fill.sh prints them over the translation d1f1621b935b3788… (all of the seat's roots in one cut). By AI agents, Wed Nov 11 2026. No macro, syntax, notation, axiom, sorry.
-/
import Derived.Test.YtegckfmmoapncaaChecked
import GoSem.Claim
import GoSem.ClaimJoined
import GoSem.ClaimMapViews
import Derived.JoinedTies
import Derived.KernelRfl
namespace Go.Proofs.Ytegckfmmoapncaa
/- THE CELL 'sum', in the pinned program and in every row, IS THE sha256 OF THE DUMP (.gsa) THAT YtegckfmmoapncaaProg.lean LOADS. Nothing in Lean hashes anything: it is a label: what it is worth is what the hold of that sum in a sandbox is worth. -/
noncomputable def Try.pinned : Pinned := { name := "ytegckfmmoapncaa", sum := "d1f1621b935b3788f131c5b04b925f559247a97895202fd9e88f100921610409", checked := Try.checked }
namespace Rows
def none {H : Type} : Left H := { results := [], args := [] }

/-- 'laws.FnWrapped': WHATEVER THE INPUT: true; the input reads as it did. -/
def fnWrappedSpec : ChangeSpec := { name := "fnWrapped", fn := fun _ => fun
  | [d] => { results := [.lit (.bool true)], args := [d] }
  | _ => none }
def fnWrappedRow : OpenClaim := { program := "ytegckfmmoapncaa", sum := "d1f1621b935b3788f131c5b04b925f559247a97895202fd9e88f100921610409", func := "loop.example/g03314/laws.FnWrapped", spec := "fnWrapped", apart := false }
def FnWrappedSaid : Prop := fnWrappedRow.holds Try.pinned (OpenSpec.ofChange fnWrappedSpec)

/-- ITS FALSE NEIGHBOUR: 'it returns false'. Refute it at one input. -/
def fnWrappedWrong : ChangeSpec := { name := "fnWrapped", fn := fun _ => fun
  | [d] => { results := [.lit (.bool false)], args := [d] }
  | _ => none }
def FnWrappedWrongFalsely : Prop := fnWrappedRow.holds Try.pinned (OpenSpec.ofChange fnWrappedWrong)

/-- 'laws.FnExactNameOk': WHATEVER THE INPUT: true; the input reads as it did. -/
def fnExactNameOkSpec : ChangeSpec := { name := "fnExactNameOk", fn := fun _ => fun
  | [d] => { results := [.lit (.bool true)], args := [d] }
  | _ => none }
def fnExactNameOkRow : OpenClaim := { program := "ytegckfmmoapncaa", sum := "d1f1621b935b3788f131c5b04b925f559247a97895202fd9e88f100921610409", func := "loop.example/g03314/laws.FnExactNameOk", spec := "fnExactNameOk", apart := false }
def FnExactNameOkSaid : Prop := fnExactNameOkRow.holds Try.pinned (OpenSpec.ofChange fnExactNameOkSpec)

/-- ITS FALSE NEIGHBOUR: 'it returns false'. Refute it at one input. -/
def fnExactNameOkWrong : ChangeSpec := { name := "fnExactNameOk", fn := fun _ => fun
  | [d] => { results := [.lit (.bool false)], args := [d] }
  | _ => none }
def FnExactNameOkWrongFalsely : Prop := fnExactNameOkRow.holds Try.pinned (OpenSpec.ofChange fnExactNameOkWrong)

/-- 'laws.FnExactTokOk': WHATEVER THE INPUT: true; the input reads as it did. -/
def fnExactTokOkSpec : ChangeSpec := { name := "fnExactTokOk", fn := fun _ => fun
  | [d] => { results := [.lit (.bool true)], args := [d] }
  | _ => none }
def fnExactTokOkRow : OpenClaim := { program := "ytegckfmmoapncaa", sum := "d1f1621b935b3788f131c5b04b925f559247a97895202fd9e88f100921610409", func := "loop.example/g03314/laws.FnExactTokOk", spec := "fnExactTokOk", apart := false }
def FnExactTokOkSaid : Prop := fnExactTokOkRow.holds Try.pinned (OpenSpec.ofChange fnExactTokOkSpec)

/-- ITS FALSE NEIGHBOUR: 'it returns false'. Refute it at one input. -/
def fnExactTokOkWrong : ChangeSpec := { name := "fnExactTokOk", fn := fun _ => fun
  | [d] => { results := [.lit (.bool false)], args := [d] }
  | _ => none }
def FnExactTokOkWrongFalsely : Prop := fnExactTokOkRow.holds Try.pinned (OpenSpec.ofChange fnExactTokOkWrong)

/-- 'laws.FnExactArity': WHATEVER THE INPUT: true; the input reads as it did. -/
def fnExactAritySpec : ChangeSpec := { name := "fnExactArity", fn := fun _ => fun
  | [d] => { results := [.lit (.bool true)], args := [d] }
  | _ => none }
def fnExactArityRow : OpenClaim := { program := "ytegckfmmoapncaa", sum := "d1f1621b935b3788f131c5b04b925f559247a97895202fd9e88f100921610409", func := "loop.example/g03314/laws.FnExactArity", spec := "fnExactArity", unfollowed := true, recurses := true, apart := false }
def FnExactAritySaid : Prop := fnExactArityRow.holds Try.pinned (OpenSpec.ofChange fnExactAritySpec)

/-- ITS FALSE NEIGHBOUR: 'it returns false'. Refute it at one input. -/
def fnExactArityWrong : ChangeSpec := { name := "fnExactArity", fn := fun _ => fun
  | [d] => { results := [.lit (.bool false)], args := [d] }
  | _ => none }
def FnExactArityWrongFalsely : Prop := fnExactArityRow.holds Try.pinned (OpenSpec.ofChange fnExactArityWrong)

/-- 'laws.FnExactExprEnd': WHATEVER THE INPUT: true; the input reads as it did. -/
def fnExactExprEndSpec : ChangeSpec := { name := "fnExactExprEnd", fn := fun _ => fun
  | [d1, d2] => { results := [.lit (.bool true)], args := [d1, d2] }
  | _ => none }
def fnExactExprEndRow : OpenClaim := { program := "ytegckfmmoapncaa", sum := "d1f1621b935b3788f131c5b04b925f559247a97895202fd9e88f100921610409", func := "loop.example/g03314/laws.FnExactExprEnd", spec := "fnExactExprEnd", unfollowed := true, recurses := true, apart := false }
def FnExactExprEndSaid : Prop := fnExactExprEndRow.holds Try.pinned (OpenSpec.ofChange fnExactExprEndSpec)

/-- ITS FALSE NEIGHBOUR: 'it returns false'. Refute it at one input. -/
def fnExactExprEndWrong : ChangeSpec := { name := "fnExactExprEnd", fn := fun _ => fun
  | [d1, d2] => { results := [.lit (.bool false)], args := [d1, d2] }
  | _ => none }
def FnExactExprEndWrongFalsely : Prop := fnExactExprEndRow.holds Try.pinned (OpenSpec.ofChange fnExactExprEndWrong)

/-- 'laws.FnExactExprOk': WHATEVER THE INPUT: true; the input reads as it did. -/
def fnExactExprOkSpec : ChangeSpec := { name := "fnExactExprOk", fn := fun _ => fun
  | [d] => { results := [.lit (.bool true)], args := [d] }
  | _ => none }
def fnExactExprOkRow : OpenClaim := { program := "ytegckfmmoapncaa", sum := "d1f1621b935b3788f131c5b04b925f559247a97895202fd9e88f100921610409", func := "loop.example/g03314/laws.FnExactExprOk", spec := "fnExactExprOk", unfollowed := true, recurses := true, apart := false }
def FnExactExprOkSaid : Prop := fnExactExprOkRow.holds Try.pinned (OpenSpec.ofChange fnExactExprOkSpec)

/-- ITS FALSE NEIGHBOUR: 'it returns false'. Refute it at one input. -/
def fnExactExprOkWrong : ChangeSpec := { name := "fnExactExprOk", fn := fun _ => fun
  | [d] => { results := [.lit (.bool false)], args := [d] }
  | _ => none }
def FnExactExprOkWrongFalsely : Prop := fnExactExprOkRow.holds Try.pinned (OpenSpec.ofChange fnExactExprOkWrong)

/-- 'laws.FnExactOperands': WHATEVER THE INPUT: true; the input reads as it did. -/
def fnExactOperandsSpec : ChangeSpec := { name := "fnExactOperands", fn := fun _ => fun
  | [d1, d2] => { results := [.lit (.bool true)], args := [d1, d2] }
  | _ => none }
def fnExactOperandsRow : OpenClaim := { program := "ytegckfmmoapncaa", sum := "d1f1621b935b3788f131c5b04b925f559247a97895202fd9e88f100921610409", func := "loop.example/g03314/laws.FnExactOperands", spec := "fnExactOperands", unfollowed := true, recurses := true, apart := false }
def FnExactOperandsSaid : Prop := fnExactOperandsRow.holds Try.pinned (OpenSpec.ofChange fnExactOperandsSpec)

/-- ITS FALSE NEIGHBOUR: 'it returns false'. Refute it at one input. -/
def fnExactOperandsWrong : ChangeSpec := { name := "fnExactOperands", fn := fun _ => fun
  | [d1, d2] => { results := [.lit (.bool false)], args := [d1, d2] }
  | _ => none }
def FnExactOperandsWrongFalsely : Prop := fnExactOperandsRow.holds Try.pinned (OpenSpec.ofChange fnExactOperandsWrong)

/- THE SECOND FORM. 'bulk': how many values and letters a reading holds, each counted each time it is reached (what is shared counts as often as it is met; a slice's spare places count too). A statement '..UptoSaid' is the law's where the arguments, and the package variables that the reading takes, are together of bulk at most 1048576: NARROWER than '..Said'. Prove '..Said' where nothing that the law and all that it calls make is longer than what came in: it says more and counts as full. Else prove '..UptoSaid'. A law counts once. -/
mutual
def uptoBulk {H : Type} : DataW H → Nat
  | .lit (.string bytes) => bytes.length + 1
  | .lit _ => 1
  | .nil => 1
  | .ptr d => uptoBulk d + 1
  | .slice elems spare => uptoBulkAll elems + uptoBulkAll spare + 1
  | .agg parts => uptoBulkAll parts + 1
  | .iface _ d => uptoBulk d + 1
  | .map entries => uptoBulkEntries entries + 1
  | .held _ => 1
def uptoBulkAll {H : Type} : List (DataW H) → Nat
  | [] => 0
  | d :: r => uptoBulk d + uptoBulkAll r
def uptoBulkEntries {H : Type} : List (Lit × DataW H) → Nat
  | [] => 0
  | x :: r => uptoBulkEntry x + uptoBulkEntries r
def uptoBulkEntry {H : Type} : Lit × DataW H → Nat
  | (.string bytes, d) => bytes.length + uptoBulk d + 1
  | (_, d) => uptoBulk d + 1
 end
def uptoSmall : (H : Type) → List (DataW H) → Bool := fun _ ds => decide (uptoBulkAll ds ≤ 1048576)
def OpenSpec.upto (s : _root_.Go.ChangeSpec) : _root_.Go.OpenSpec := { _root_.Go.OpenSpec.ofChange s with cond := some uptoSmall }

/-- 'laws.FnWrapped', WHERE WHAT IT READS IS OF BULK AT MOST 1048576: true; the input reads as it did. -/
def fnWrappedUptoRow : OpenClaim := { program := "ytegckfmmoapncaa", sum := "d1f1621b935b3788f131c5b04b925f559247a97895202fd9e88f100921610409", func := "loop.example/g03314/laws.FnWrapped", spec := "fnWrapped", apart := false, narrowed := true }
def FnWrappedUptoSaid : Prop := fnWrappedUptoRow.holds Try.pinned (OpenSpec.upto fnWrappedSpec)

/-- 'laws.FnExactNameOk', WHERE WHAT IT READS IS OF BULK AT MOST 1048576: true; the input reads as it did. -/
def fnExactNameOkUptoRow : OpenClaim := { program := "ytegckfmmoapncaa", sum := "d1f1621b935b3788f131c5b04b925f559247a97895202fd9e88f100921610409", func := "loop.example/g03314/laws.FnExactNameOk", spec := "fnExactNameOk", apart := false, narrowed := true }
def FnExactNameOkUptoSaid : Prop := fnExactNameOkUptoRow.holds Try.pinned (OpenSpec.upto fnExactNameOkSpec)

/-- 'laws.FnExactTokOk', WHERE WHAT IT READS IS OF BULK AT MOST 1048576: true; the input reads as it did. -/
def fnExactTokOkUptoRow : OpenClaim := { program := "ytegckfmmoapncaa", sum := "d1f1621b935b3788f131c5b04b925f559247a97895202fd9e88f100921610409", func := "loop.example/g03314/laws.FnExactTokOk", spec := "fnExactTokOk", apart := false, narrowed := true }
def FnExactTokOkUptoSaid : Prop := fnExactTokOkUptoRow.holds Try.pinned (OpenSpec.upto fnExactTokOkSpec)

/-- 'laws.FnExactArity', WHERE WHAT IT READS IS OF BULK AT MOST 1048576: true; the input reads as it did. -/
def fnExactArityUptoRow : OpenClaim := { program := "ytegckfmmoapncaa", sum := "d1f1621b935b3788f131c5b04b925f559247a97895202fd9e88f100921610409", func := "loop.example/g03314/laws.FnExactArity", spec := "fnExactArity", unfollowed := true, recurses := true, apart := false, narrowed := true }
def FnExactArityUptoSaid : Prop := fnExactArityUptoRow.holds Try.pinned (OpenSpec.upto fnExactAritySpec)

/-- 'laws.FnExactExprEnd', WHERE WHAT IT READS IS OF BULK AT MOST 1048576: true; the input reads as it did. -/
def fnExactExprEndUptoRow : OpenClaim := { program := "ytegckfmmoapncaa", sum := "d1f1621b935b3788f131c5b04b925f559247a97895202fd9e88f100921610409", func := "loop.example/g03314/laws.FnExactExprEnd", spec := "fnExactExprEnd", unfollowed := true, recurses := true, apart := false, narrowed := true }
def FnExactExprEndUptoSaid : Prop := fnExactExprEndUptoRow.holds Try.pinned (OpenSpec.upto fnExactExprEndSpec)

/-- 'laws.FnExactExprOk', WHERE WHAT IT READS IS OF BULK AT MOST 1048576: true; the input reads as it did. -/
def fnExactExprOkUptoRow : OpenClaim := { program := "ytegckfmmoapncaa", sum := "d1f1621b935b3788f131c5b04b925f559247a97895202fd9e88f100921610409", func := "loop.example/g03314/laws.FnExactExprOk", spec := "fnExactExprOk", unfollowed := true, recurses := true, apart := false, narrowed := true }
def FnExactExprOkUptoSaid : Prop := fnExactExprOkUptoRow.holds Try.pinned (OpenSpec.upto fnExactExprOkSpec)

/-- 'laws.FnExactOperands', WHERE WHAT IT READS IS OF BULK AT MOST 1048576: true; the input reads as it did. -/
def fnExactOperandsUptoRow : OpenClaim := { program := "ytegckfmmoapncaa", sum := "d1f1621b935b3788f131c5b04b925f559247a97895202fd9e88f100921610409", func := "loop.example/g03314/laws.FnExactOperands", spec := "fnExactOperands", unfollowed := true, recurses := true, apart := false, narrowed := true }
def FnExactOperandsUptoSaid : Prop := fnExactOperandsUptoRow.holds Try.pinned (OpenSpec.upto fnExactOperandsSpec)

end Rows
end Go.Proofs.Ytegckfmmoapncaa
