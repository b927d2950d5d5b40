/-
  No cell of these rows narrows 'for every input' (looked for: loops, veiled, ifaces, maps, wideKeys, modest, calm, conditions, laid).
  DERIVED. THE GIVEN ROWS OF THIS SEAT. 12 by the template 'for every input the law returns true; each argument reads behind the call as it read before'; 0 by the template 'total and deterministic' (their statements: YtfemkbdgbpgjgaaTotals.lean).
  GIVEN WITH THE SEED: the statements are not yours to turn. If you find one false, say at which input.
  Laid BY PROGRAM, IN A SANDBOX (cutbox-rows.mjs): the forced cells as the released guide's own fill.sh prints them over the translation c25aee6c8fdd0f9b… (all of the seat's roots in one cut). By AI agents, Wed Nov 11 2026. No macro, syntax, notation, axiom, sorry.
-/
import Derived.Test.YtfemkbdgbpgjgaaChecked
import GoSem.Claim
import GoSem.ClaimJoined
import GoSem.ClaimMapViews
import Derived.JoinedTies
import Derived.KernelRfl
namespace Go.Proofs.Ytfemkbdgbpgjgaa
/- THE CELL 'sum', in the pinned program and in every row, IS THE sha256 OF THE DUMP (.gsa) THAT YtfemkbdgbpgjgaaProg.lean LOADS. Nothing in Lean hashes anything: it is a label: what it is worth is what the hold of that sum in a sandbox is worth. -/
noncomputable def Try.pinned : Pinned := { name := "ytfemkbdgbpgjgaa", sum := "c25aee6c8fdd0f9bff7a6b7010621ff5f6a3b6d43e88201ec54702f9ca453a9c", checked := Try.checked }
namespace Rows
def none {H : Type} : Left H := { results := [], args := [] }

/-- 'laws.FnVarints': WHATEVER THE INPUT: true; the input reads as it did. -/
def fnVarintsSpec : ChangeSpec := { name := "fnVarints", fn := fun _ => fun
  | [d] => { results := [.lit (.bool true)], args := [d] }
  | _ => none }
def fnVarintsRow : OpenClaim := { program := "ytfemkbdgbpgjgaa", sum := "c25aee6c8fdd0f9bff7a6b7010621ff5f6a3b6d43e88201ec54702f9ca453a9c", func := "loop.example/g03314/laws.FnVarints", spec := "fnVarints", apart := false }
def FnVarintsSaid : Prop := fnVarintsRow.holds Try.pinned (OpenSpec.ofChange fnVarintsSpec)

/-- ITS FALSE NEIGHBOUR: 'it returns false'. Refute it at one input. -/
def fnVarintsWrong : ChangeSpec := { name := "fnVarints", fn := fun _ => fun
  | [d] => { results := [.lit (.bool false)], args := [d] }
  | _ => none }
def FnVarintsWrongFalsely : Prop := fnVarintsRow.holds Try.pinned (OpenSpec.ofChange fnVarintsWrong)

/-- 'laws.FnRuleBytes': WHATEVER THE INPUT: true; the input reads as it did. -/
def fnRuleBytesSpec : ChangeSpec := { name := "fnRuleBytes", fn := fun _ => fun
  | [d] => { results := [.lit (.bool true)], args := [d] }
  | _ => none }
def fnRuleBytesRow : OpenClaim := { program := "ytfemkbdgbpgjgaa", sum := "c25aee6c8fdd0f9bff7a6b7010621ff5f6a3b6d43e88201ec54702f9ca453a9c", func := "loop.example/g03314/laws.FnRuleBytes", spec := "fnRuleBytes", unfollowed := true, recurses := true, apart := false }
def FnRuleBytesSaid : Prop := fnRuleBytesRow.holds Try.pinned (OpenSpec.ofChange fnRuleBytesSpec)

/-- ITS FALSE NEIGHBOUR: 'it returns false'. Refute it at one input. -/
def fnRuleBytesWrong : ChangeSpec := { name := "fnRuleBytes", fn := fun _ => fun
  | [d] => { results := [.lit (.bool false)], args := [d] }
  | _ => none }
def FnRuleBytesWrongFalsely : Prop := fnRuleBytesRow.holds Try.pinned (OpenSpec.ofChange fnRuleBytesWrong)

/-- 'laws.FnExactEncodeVarint': WHATEVER THE INPUT: true; the input reads as it did. -/
def fnExactEncodeVarintSpec : ChangeSpec := { name := "fnExactEncodeVarint", fn := fun _ => fun
  | [d] => { results := [.lit (.bool true)], args := [d] }
  | _ => none }
def fnExactEncodeVarintRow : OpenClaim := { program := "ytfemkbdgbpgjgaa", sum := "c25aee6c8fdd0f9bff7a6b7010621ff5f6a3b6d43e88201ec54702f9ca453a9c", func := "loop.example/g03314/laws.FnExactEncodeVarint", spec := "fnExactEncodeVarint", apart := false }
def FnExactEncodeVarintSaid : Prop := fnExactEncodeVarintRow.holds Try.pinned (OpenSpec.ofChange fnExactEncodeVarintSpec)

/-- ITS FALSE NEIGHBOUR: 'it returns false'. Refute it at one input. -/
def fnExactEncodeVarintWrong : ChangeSpec := { name := "fnExactEncodeVarint", fn := fun _ => fun
  | [d] => { results := [.lit (.bool false)], args := [d] }
  | _ => none }
def FnExactEncodeVarintWrongFalsely : Prop := fnExactEncodeVarintRow.holds Try.pinned (OpenSpec.ofChange fnExactEncodeVarintWrong)

/-- 'laws.FnExactDecodeVarint': WHATEVER THE INPUT: true; the input reads as it did. -/
def fnExactDecodeVarintSpec : ChangeSpec := { name := "fnExactDecodeVarint", fn := fun _ => fun
  | [d1, d2] => { results := [.lit (.bool true)], args := [d1, d2] }
  | _ => none }
def fnExactDecodeVarintRow : OpenClaim := { program := "ytfemkbdgbpgjgaa", sum := "c25aee6c8fdd0f9bff7a6b7010621ff5f6a3b6d43e88201ec54702f9ca453a9c", func := "loop.example/g03314/laws.FnExactDecodeVarint", spec := "fnExactDecodeVarint", apart := false }
def FnExactDecodeVarintSaid : Prop := fnExactDecodeVarintRow.holds Try.pinned (OpenSpec.ofChange fnExactDecodeVarintSpec)

/-- ITS FALSE NEIGHBOUR: 'it returns false'. Refute it at one input. -/
def fnExactDecodeVarintWrong : ChangeSpec := { name := "fnExactDecodeVarint", fn := fun _ => fun
  | [d1, d2] => { results := [.lit (.bool false)], args := [d1, d2] }
  | _ => none }
def FnExactDecodeVarintWrongFalsely : Prop := fnExactDecodeVarintRow.holds Try.pinned (OpenSpec.ofChange fnExactDecodeVarintWrong)

/-- 'laws.FnExactSignless': WHATEVER THE INPUT: true; the input reads as it did. -/
def fnExactSignlessSpec : ChangeSpec := { name := "fnExactSignless", fn := fun _ => fun
  | [d] => { results := [.lit (.bool true)], args := [d] }
  | _ => none }
def fnExactSignlessRow : OpenClaim := { program := "ytfemkbdgbpgjgaa", sum := "c25aee6c8fdd0f9bff7a6b7010621ff5f6a3b6d43e88201ec54702f9ca453a9c", func := "loop.example/g03314/laws.FnExactSignless", spec := "fnExactSignless", apart := false }
def FnExactSignlessSaid : Prop := fnExactSignlessRow.holds Try.pinned (OpenSpec.ofChange fnExactSignlessSpec)

/-- ITS FALSE NEIGHBOUR: 'it returns false'. Refute it at one input. -/
def fnExactSignlessWrong : ChangeSpec := { name := "fnExactSignless", fn := fun _ => fun
  | [d] => { results := [.lit (.bool false)], args := [d] }
  | _ => none }
def FnExactSignlessWrongFalsely : Prop := fnExactSignlessRow.holds Try.pinned (OpenSpec.ofChange fnExactSignlessWrong)

/-- 'laws.FnExactSigned': WHATEVER THE INPUT: true; the input reads as it did. -/
def fnExactSignedSpec : ChangeSpec := { name := "fnExactSigned", fn := fun _ => fun
  | [d] => { results := [.lit (.bool true)], args := [d] }
  | _ => none }
def fnExactSignedRow : OpenClaim := { program := "ytfemkbdgbpgjgaa", sum := "c25aee6c8fdd0f9bff7a6b7010621ff5f6a3b6d43e88201ec54702f9ca453a9c", func := "loop.example/g03314/laws.FnExactSigned", spec := "fnExactSigned", apart := false }
def FnExactSignedSaid : Prop := fnExactSignedRow.holds Try.pinned (OpenSpec.ofChange fnExactSignedSpec)

/-- ITS FALSE NEIGHBOUR: 'it returns false'. Refute it at one input. -/
def fnExactSignedWrong : ChangeSpec := { name := "fnExactSigned", fn := fun _ => fun
  | [d] => { results := [.lit (.bool false)], args := [d] }
  | _ => none }
def FnExactSignedWrongFalsely : Prop := fnExactSignedRow.holds Try.pinned (OpenSpec.ofChange fnExactSignedWrong)

/-- 'laws.FnExactPackInts': WHATEVER THE INPUT: true; the input reads as it did. -/
def fnExactPackIntsSpec : ChangeSpec := { name := "fnExactPackInts", fn := fun _ => fun
  | [d] => { results := [.lit (.bool true)], args := [d] }
  | _ => none }
def fnExactPackIntsRow : OpenClaim := { program := "ytfemkbdgbpgjgaa", sum := "c25aee6c8fdd0f9bff7a6b7010621ff5f6a3b6d43e88201ec54702f9ca453a9c", func := "loop.example/g03314/laws.FnExactPackInts", spec := "fnExactPackInts", apart := false }
def FnExactPackIntsSaid : Prop := fnExactPackIntsRow.holds Try.pinned (OpenSpec.ofChange fnExactPackIntsSpec)

/-- ITS FALSE NEIGHBOUR: 'it returns false'. Refute it at one input. -/
def fnExactPackIntsWrong : ChangeSpec := { name := "fnExactPackInts", fn := fun _ => fun
  | [d] => { results := [.lit (.bool false)], args := [d] }
  | _ => none }
def FnExactPackIntsWrongFalsely : Prop := fnExactPackIntsRow.holds Try.pinned (OpenSpec.ofChange fnExactPackIntsWrong)

/-- 'laws.FnExactUnpackInts': WHATEVER THE INPUT: true; the input reads as it did. -/
def fnExactUnpackIntsSpec : ChangeSpec := { name := "fnExactUnpackInts", fn := fun _ => fun
  | [d1, d2] => { results := [.lit (.bool true)], args := [d1, d2] }
  | _ => none }
def fnExactUnpackIntsRow : OpenClaim := { program := "ytfemkbdgbpgjgaa", sum := "c25aee6c8fdd0f9bff7a6b7010621ff5f6a3b6d43e88201ec54702f9ca453a9c", func := "loop.example/g03314/laws.FnExactUnpackInts", spec := "fnExactUnpackInts", apart := false }
def FnExactUnpackIntsSaid : Prop := fnExactUnpackIntsRow.holds Try.pinned (OpenSpec.ofChange fnExactUnpackIntsSpec)

/-- ITS FALSE NEIGHBOUR: 'it returns false'. Refute it at one input. -/
def fnExactUnpackIntsWrong : ChangeSpec := { name := "fnExactUnpackInts", fn := fun _ => fun
  | [d1, d2] => { results := [.lit (.bool false)], args := [d1, d2] }
  | _ => none }
def FnExactUnpackIntsWrongFalsely : Prop := fnExactUnpackIntsRow.holds Try.pinned (OpenSpec.ofChange fnExactUnpackIntsWrong)

/-- 'laws.FnExactPackText': WHATEVER THE INPUT: true; the input reads as it did. -/
def fnExactPackTextSpec : ChangeSpec := { name := "fnExactPackText", fn := fun _ => fun
  | [d] => { results := [.lit (.bool true)], args := [d] }
  | _ => none }
def fnExactPackTextRow : OpenClaim := { program := "ytfemkbdgbpgjgaa", sum := "c25aee6c8fdd0f9bff7a6b7010621ff5f6a3b6d43e88201ec54702f9ca453a9c", func := "loop.example/g03314/laws.FnExactPackText", spec := "fnExactPackText", apart := false }
def FnExactPackTextSaid : Prop := fnExactPackTextRow.holds Try.pinned (OpenSpec.ofChange fnExactPackTextSpec)

/-- ITS FALSE NEIGHBOUR: 'it returns false'. Refute it at one input. -/
def fnExactPackTextWrong : ChangeSpec := { name := "fnExactPackText", fn := fun _ => fun
  | [d] => { results := [.lit (.bool false)], args := [d] }
  | _ => none }
def FnExactPackTextWrongFalsely : Prop := fnExactPackTextRow.holds Try.pinned (OpenSpec.ofChange fnExactPackTextWrong)

/-- 'laws.FnExactUnpackText': WHATEVER THE INPUT: true; the input reads as it did. -/
def fnExactUnpackTextSpec : ChangeSpec := { name := "fnExactUnpackText", fn := fun _ => fun
  | [d1, d2] => { results := [.lit (.bool true)], args := [d1, d2] }
  | _ => none }
def fnExactUnpackTextRow : OpenClaim := { program := "ytfemkbdgbpgjgaa", sum := "c25aee6c8fdd0f9bff7a6b7010621ff5f6a3b6d43e88201ec54702f9ca453a9c", func := "loop.example/g03314/laws.FnExactUnpackText", spec := "fnExactUnpackText", apart := false }
def FnExactUnpackTextSaid : Prop := fnExactUnpackTextRow.holds Try.pinned (OpenSpec.ofChange fnExactUnpackTextSpec)

/-- ITS FALSE NEIGHBOUR: 'it returns false'. Refute it at one input. -/
def fnExactUnpackTextWrong : ChangeSpec := { name := "fnExactUnpackText", fn := fun _ => fun
  | [d1, d2] => { results := [.lit (.bool false)], args := [d1, d2] }
  | _ => none }
def FnExactUnpackTextWrongFalsely : Prop := fnExactUnpackTextRow.holds Try.pinned (OpenSpec.ofChange fnExactUnpackTextWrong)

/-- 'laws.FnExactEncodeRules': WHATEVER THE INPUT: true; the input reads as it did. -/
def fnExactEncodeRulesSpec : ChangeSpec := { name := "fnExactEncodeRules", fn := fun _ => fun
  | [d] => { results := [.lit (.bool true)], args := [d] }
  | _ => none }
def fnExactEncodeRulesRow : OpenClaim := { program := "ytfemkbdgbpgjgaa", sum := "c25aee6c8fdd0f9bff7a6b7010621ff5f6a3b6d43e88201ec54702f9ca453a9c", func := "loop.example/g03314/laws.FnExactEncodeRules", spec := "fnExactEncodeRules", apart := false }
def FnExactEncodeRulesSaid : Prop := fnExactEncodeRulesRow.holds Try.pinned (OpenSpec.ofChange fnExactEncodeRulesSpec)

/-- ITS FALSE NEIGHBOUR: 'it returns false'. Refute it at one input. -/
def fnExactEncodeRulesWrong : ChangeSpec := { name := "fnExactEncodeRules", fn := fun _ => fun
  | [d] => { results := [.lit (.bool false)], args := [d] }
  | _ => none }
def FnExactEncodeRulesWrongFalsely : Prop := fnExactEncodeRulesRow.holds Try.pinned (OpenSpec.ofChange fnExactEncodeRulesWrong)

/-- 'laws.FnExactDecodeRules': WHATEVER THE INPUT: true; the input reads as it did. -/
def fnExactDecodeRulesSpec : ChangeSpec := { name := "fnExactDecodeRules", fn := fun _ => fun
  | [d] => { results := [.lit (.bool true)], args := [d] }
  | _ => none }
def fnExactDecodeRulesRow : OpenClaim := { program := "ytfemkbdgbpgjgaa", sum := "c25aee6c8fdd0f9bff7a6b7010621ff5f6a3b6d43e88201ec54702f9ca453a9c", func := "loop.example/g03314/laws.FnExactDecodeRules", spec := "fnExactDecodeRules", unfollowed := true, recurses := true, apart := false }
def FnExactDecodeRulesSaid : Prop := fnExactDecodeRulesRow.holds Try.pinned (OpenSpec.ofChange fnExactDecodeRulesSpec)

/-- ITS FALSE NEIGHBOUR: 'it returns false'. Refute it at one input. -/
def fnExactDecodeRulesWrong : ChangeSpec := { name := "fnExactDecodeRules", fn := fun _ => fun
  | [d] => { results := [.lit (.bool false)], args := [d] }
  | _ => none }
def FnExactDecodeRulesWrongFalsely : Prop := fnExactDecodeRulesRow.holds Try.pinned (OpenSpec.ofChange fnExactDecodeRulesWrong)

/- THE SECOND FORM. 'bulk': how many values and letters a reading holds, each counted each time it is reached (what is shared counts as often as it is met; a slice's spare places count too). A statement '..UptoSaid' is the law's where the arguments, and the package variables that the reading takes, are together of bulk at most 1048576: NARROWER than '..Said'. Prove '..Said' where nothing that the law and all that it calls make is longer than what came in: it says more and counts as full. Else prove '..UptoSaid'. A law counts once. -/
mutual
def uptoBulk {H : Type} : DataW H → Nat
  | .lit (.string bytes) => bytes.length + 1
  | .lit _ => 1
  | .nil => 1
  | .ptr d => uptoBulk d + 1
  | .slice elems spare => uptoBulkAll elems + uptoBulkAll spare + 1
  | .agg parts => uptoBulkAll parts + 1
  | .iface _ d => uptoBulk d + 1
  | .map entries => uptoBulkEntries entries + 1
  | .held _ => 1
def uptoBulkAll {H : Type} : List (DataW H) → Nat
  | [] => 0
  | d :: r => uptoBulk d + uptoBulkAll r
def uptoBulkEntries {H : Type} : List (Lit × DataW H) → Nat
  | [] => 0
  | x :: r => uptoBulkEntry x + uptoBulkEntries r
def uptoBulkEntry {H : Type} : Lit × DataW H → Nat
  | (.string bytes, d) => bytes.length + uptoBulk d + 1
  | (_, d) => uptoBulk d + 1
 end
def uptoSmall : (H : Type) → List (DataW H) → Bool := fun _ ds => decide (uptoBulkAll ds ≤ 1048576)
def OpenSpec.upto (s : _root_.Go.ChangeSpec) : _root_.Go.OpenSpec := { _root_.Go.OpenSpec.ofChange s with cond := some uptoSmall }

/-- 'laws.FnVarints', WHERE WHAT IT READS IS OF BULK AT MOST 1048576: true; the input reads as it did. -/
def fnVarintsUptoRow : OpenClaim := { program := "ytfemkbdgbpgjgaa", sum := "c25aee6c8fdd0f9bff7a6b7010621ff5f6a3b6d43e88201ec54702f9ca453a9c", func := "loop.example/g03314/laws.FnVarints", spec := "fnVarints", apart := false, narrowed := true }
def FnVarintsUptoSaid : Prop := fnVarintsUptoRow.holds Try.pinned (OpenSpec.upto fnVarintsSpec)

/-- 'laws.FnRuleBytes', WHERE WHAT IT READS IS OF BULK AT MOST 1048576: true; the input reads as it did. -/
def fnRuleBytesUptoRow : OpenClaim := { program := "ytfemkbdgbpgjgaa", sum := "c25aee6c8fdd0f9bff7a6b7010621ff5f6a3b6d43e88201ec54702f9ca453a9c", func := "loop.example/g03314/laws.FnRuleBytes", spec := "fnRuleBytes", unfollowed := true, recurses := true, apart := false, narrowed := true }
def FnRuleBytesUptoSaid : Prop := fnRuleBytesUptoRow.holds Try.pinned (OpenSpec.upto fnRuleBytesSpec)

/-- 'laws.FnExactEncodeVarint', WHERE WHAT IT READS IS OF BULK AT MOST 1048576: true; the input reads as it did. -/
def fnExactEncodeVarintUptoRow : OpenClaim := { program := "ytfemkbdgbpgjgaa", sum := "c25aee6c8fdd0f9bff7a6b7010621ff5f6a3b6d43e88201ec54702f9ca453a9c", func := "loop.example/g03314/laws.FnExactEncodeVarint", spec := "fnExactEncodeVarint", apart := false, narrowed := true }
def FnExactEncodeVarintUptoSaid : Prop := fnExactEncodeVarintUptoRow.holds Try.pinned (OpenSpec.upto fnExactEncodeVarintSpec)

/-- 'laws.FnExactDecodeVarint', WHERE WHAT IT READS IS OF BULK AT MOST 1048576: true; the input reads as it did. -/
def fnExactDecodeVarintUptoRow : OpenClaim := { program := "ytfemkbdgbpgjgaa", sum := "c25aee6c8fdd0f9bff7a6b7010621ff5f6a3b6d43e88201ec54702f9ca453a9c", func := "loop.example/g03314/laws.FnExactDecodeVarint", spec := "fnExactDecodeVarint", apart := false, narrowed := true }
def FnExactDecodeVarintUptoSaid : Prop := fnExactDecodeVarintUptoRow.holds Try.pinned (OpenSpec.upto fnExactDecodeVarintSpec)

/-- 'laws.FnExactSignless', WHERE WHAT IT READS IS OF BULK AT MOST 1048576: true; the input reads as it did. -/
def fnExactSignlessUptoRow : OpenClaim := { program := "ytfemkbdgbpgjgaa", sum := "c25aee6c8fdd0f9bff7a6b7010621ff5f6a3b6d43e88201ec54702f9ca453a9c", func := "loop.example/g03314/laws.FnExactSignless", spec := "fnExactSignless", apart := false, narrowed := true }
def FnExactSignlessUptoSaid : Prop := fnExactSignlessUptoRow.holds Try.pinned (OpenSpec.upto fnExactSignlessSpec)

/-- 'laws.FnExactSigned', WHERE WHAT IT READS IS OF BULK AT MOST 1048576: true; the input reads as it did. -/
def fnExactSignedUptoRow : OpenClaim := { program := "ytfemkbdgbpgjgaa", sum := "c25aee6c8fdd0f9bff7a6b7010621ff5f6a3b6d43e88201ec54702f9ca453a9c", func := "loop.example/g03314/laws.FnExactSigned", spec := "fnExactSigned", apart := false, narrowed := true }
def FnExactSignedUptoSaid : Prop := fnExactSignedUptoRow.holds Try.pinned (OpenSpec.upto fnExactSignedSpec)

/-- 'laws.FnExactPackInts', WHERE WHAT IT READS IS OF BULK AT MOST 1048576: true; the input reads as it did. -/
def fnExactPackIntsUptoRow : OpenClaim := { program := "ytfemkbdgbpgjgaa", sum := "c25aee6c8fdd0f9bff7a6b7010621ff5f6a3b6d43e88201ec54702f9ca453a9c", func := "loop.example/g03314/laws.FnExactPackInts", spec := "fnExactPackInts", apart := false, narrowed := true }
def FnExactPackIntsUptoSaid : Prop := fnExactPackIntsUptoRow.holds Try.pinned (OpenSpec.upto fnExactPackIntsSpec)

/-- 'laws.FnExactUnpackInts', WHERE WHAT IT READS IS OF BULK AT MOST 1048576: true; the input reads as it did. -/
def fnExactUnpackIntsUptoRow : OpenClaim := { program := "ytfemkbdgbpgjgaa", sum := "c25aee6c8fdd0f9bff7a6b7010621ff5f6a3b6d43e88201ec54702f9ca453a9c", func := "loop.example/g03314/laws.FnExactUnpackInts", spec := "fnExactUnpackInts", apart := false, narrowed := true }
def FnExactUnpackIntsUptoSaid : Prop := fnExactUnpackIntsUptoRow.holds Try.pinned (OpenSpec.upto fnExactUnpackIntsSpec)

/-- 'laws.FnExactPackText', WHERE WHAT IT READS IS OF BULK AT MOST 1048576: true; the input reads as it did. -/
def fnExactPackTextUptoRow : OpenClaim := { program := "ytfemkbdgbpgjgaa", sum := "c25aee6c8fdd0f9bff7a6b7010621ff5f6a3b6d43e88201ec54702f9ca453a9c", func := "loop.example/g03314/laws.FnExactPackText", spec := "fnExactPackText", apart := false, narrowed := true }
def FnExactPackTextUptoSaid : Prop := fnExactPackTextUptoRow.holds Try.pinned (OpenSpec.upto fnExactPackTextSpec)

/-- 'laws.FnExactUnpackText', WHERE WHAT IT READS IS OF BULK AT MOST 1048576: true; the input reads as it did. -/
def fnExactUnpackTextUptoRow : OpenClaim := { program := "ytfemkbdgbpgjgaa", sum := "c25aee6c8fdd0f9bff7a6b7010621ff5f6a3b6d43e88201ec54702f9ca453a9c", func := "loop.example/g03314/laws.FnExactUnpackText", spec := "fnExactUnpackText", apart := false, narrowed := true }
def FnExactUnpackTextUptoSaid : Prop := fnExactUnpackTextUptoRow.holds Try.pinned (OpenSpec.upto fnExactUnpackTextSpec)

/-- 'laws.FnExactEncodeRules', WHERE WHAT IT READS IS OF BULK AT MOST 1048576: true; the input reads as it did. -/
def fnExactEncodeRulesUptoRow : OpenClaim := { program := "ytfemkbdgbpgjgaa", sum := "c25aee6c8fdd0f9bff7a6b7010621ff5f6a3b6d43e88201ec54702f9ca453a9c", func := "loop.example/g03314/laws.FnExactEncodeRules", spec := "fnExactEncodeRules", apart := false, narrowed := true }
def FnExactEncodeRulesUptoSaid : Prop := fnExactEncodeRulesUptoRow.holds Try.pinned (OpenSpec.upto fnExactEncodeRulesSpec)

/-- 'laws.FnExactDecodeRules', WHERE WHAT IT READS IS OF BULK AT MOST 1048576: true; the input reads as it did. -/
def fnExactDecodeRulesUptoRow : OpenClaim := { program := "ytfemkbdgbpgjgaa", sum := "c25aee6c8fdd0f9bff7a6b7010621ff5f6a3b6d43e88201ec54702f9ca453a9c", func := "loop.example/g03314/laws.FnExactDecodeRules", spec := "fnExactDecodeRules", unfollowed := true, recurses := true, apart := false, narrowed := true }
def FnExactDecodeRulesUptoSaid : Prop := fnExactDecodeRulesUptoRow.holds Try.pinned (OpenSpec.upto fnExactDecodeRulesSpec)

end Rows
end Go.Proofs.Ytfemkbdgbpgjgaa
