/-
  No cell of these rows narrows 'for every input' (looked for: loops, veiled, ifaces, maps, wideKeys, modest, calm, conditions, laid).
  DERIVED. THE GIVEN ROWS OF THIS SEAT. 5 by the template 'for every input the law returns true; each argument reads behind the call as it read before'; 0 by the template 'total and deterministic' (their statements: YtkpfcaipbhfgkaaTotals.lean).
  GIVEN WITH THE SEED: the statements are not yours to turn. If you find one false, say at which input.
  Laid BY PROGRAM, IN A SANDBOX (cutbox-rows.mjs): the forced cells as the released guide's own fill.sh prints them over the translation 9466e511b84d6a25… (all of the seat's roots in one cut). By AI agents, Wed Nov 11 2026. No macro, syntax, notation, axiom, sorry.
-/
import Derived.Test.YtkpfcaipbhfgkaaChecked
import GoSem.Claim
import GoSem.ClaimJoined
import GoSem.ClaimMapViews
import Derived.JoinedTies
import Derived.KernelRfl
namespace Go.Proofs.Ytkpfcaipbhfgkaa
/- THE CELL 'sum', in the pinned program and in every row, IS THE sha256 OF THE DUMP (.gsa) THAT YtkpfcaipbhfgkaaProg.lean LOADS. Nothing in Lean hashes anything: it is a label: what it is worth is what the hold of that sum in a sandbox is worth. -/
noncomputable def Try.pinned : Pinned := { name := "ytkpfcaipbhfgkaa", sum := "9466e511b84d6a25feb07be5272c56bed4c79ba72b66ed6ddb15ed1250102f5f", checked := Try.checked }
namespace Rows
def none {H : Type} : Left H := { results := [], args := [] }

/-- 'laws.FnExactAreParts': WHATEVER THE INPUT: true; the input reads as it did. -/
def fnExactArePartsSpec : ChangeSpec := { name := "fnExactAreParts", fn := fun _ => fun
  | [d] => { results := [.lit (.bool true)], args := [d] }
  | _ => none }
def fnExactArePartsRow : OpenClaim := { program := "ytkpfcaipbhfgkaa", sum := "9466e511b84d6a25feb07be5272c56bed4c79ba72b66ed6ddb15ed1250102f5f", func := "loop.example/g01198/laws.FnExactAreParts", spec := "fnExactAreParts", apart := false }
def FnExactArePartsSaid : Prop := fnExactArePartsRow.holds Try.pinned (OpenSpec.ofChange fnExactArePartsSpec)

/-- ITS FALSE NEIGHBOUR: 'it returns false'. Refute it at one input. -/
def fnExactArePartsWrong : ChangeSpec := { name := "fnExactAreParts", fn := fun _ => fun
  | [d] => { results := [.lit (.bool false)], args := [d] }
  | _ => none }
def FnExactArePartsWrongFalsely : Prop := fnExactArePartsRow.holds Try.pinned (OpenSpec.ofChange fnExactArePartsWrong)

/-- 'laws.FnExactShiftOfChain': WHATEVER THE INPUT: true; the input reads as it did. -/
def fnExactShiftOfChainSpec : ChangeSpec := { name := "fnExactShiftOfChain", fn := fun _ => fun
  | [d] => { results := [.lit (.bool true)], args := [d] }
  | _ => none }
def fnExactShiftOfChainRow : OpenClaim := { program := "ytkpfcaipbhfgkaa", sum := "9466e511b84d6a25feb07be5272c56bed4c79ba72b66ed6ddb15ed1250102f5f", func := "loop.example/g01198/laws.FnExactShiftOfChain", spec := "fnExactShiftOfChain", apart := false }
def FnExactShiftOfChainSaid : Prop := fnExactShiftOfChainRow.holds Try.pinned (OpenSpec.ofChange fnExactShiftOfChainSpec)

/-- ITS FALSE NEIGHBOUR: 'it returns false'. Refute it at one input. -/
def fnExactShiftOfChainWrong : ChangeSpec := { name := "fnExactShiftOfChain", fn := fun _ => fun
  | [d] => { results := [.lit (.bool false)], args := [d] }
  | _ => none }
def FnExactShiftOfChainWrongFalsely : Prop := fnExactShiftOfChainRow.holds Try.pinned (OpenSpec.ofChange fnExactShiftOfChainWrong)

/-- 'laws.FnExactOrderParts': WHATEVER THE INPUT: true; the input reads as it did. -/
def fnExactOrderPartsSpec : ChangeSpec := { name := "fnExactOrderParts", fn := fun _ => fun
  | [d1, d2] => { results := [.lit (.bool true)], args := [d1, d2] }
  | _ => none }
def fnExactOrderPartsRow : OpenClaim := { program := "ytkpfcaipbhfgkaa", sum := "9466e511b84d6a25feb07be5272c56bed4c79ba72b66ed6ddb15ed1250102f5f", func := "loop.example/g01198/laws.FnExactOrderParts", spec := "fnExactOrderParts", apart := false }
def FnExactOrderPartsSaid : Prop := fnExactOrderPartsRow.holds Try.pinned (OpenSpec.ofChange fnExactOrderPartsSpec)

/-- ITS FALSE NEIGHBOUR: 'it returns false'. Refute it at one input. -/
def fnExactOrderPartsWrong : ChangeSpec := { name := "fnExactOrderParts", fn := fun _ => fun
  | [d1, d2] => { results := [.lit (.bool false)], args := [d1, d2] }
  | _ => none }
def FnExactOrderPartsWrongFalsely : Prop := fnExactOrderPartsRow.holds Try.pinned (OpenSpec.ofChange fnExactOrderPartsWrong)

/-- 'laws.FnExactInverseAnswer': WHATEVER THE INPUT: true; the input reads as it did. -/
def fnExactInverseAnswerSpec : ChangeSpec := { name := "fnExactInverseAnswer", fn := fun _ => fun
  | [d1, d2] => { results := [.lit (.bool true)], args := [d1, d2] }
  | _ => none }
def fnExactInverseAnswerRow : OpenClaim := { program := "ytkpfcaipbhfgkaa", sum := "9466e511b84d6a25feb07be5272c56bed4c79ba72b66ed6ddb15ed1250102f5f", func := "loop.example/g01198/laws.FnExactInverseAnswer", spec := "fnExactInverseAnswer", unfollowed := true, recurses := true, apart := false }
def FnExactInverseAnswerSaid : Prop := fnExactInverseAnswerRow.holds Try.pinned (OpenSpec.ofChange fnExactInverseAnswerSpec)

/-- ITS FALSE NEIGHBOUR: 'it returns false'. Refute it at one input. -/
def fnExactInverseAnswerWrong : ChangeSpec := { name := "fnExactInverseAnswer", fn := fun _ => fun
  | [d1, d2] => { results := [.lit (.bool false)], args := [d1, d2] }
  | _ => none }
def FnExactInverseAnswerWrongFalsely : Prop := fnExactInverseAnswerRow.holds Try.pinned (OpenSpec.ofChange fnExactInverseAnswerWrong)

/-- 'laws.FnExactImpulseOf': WHATEVER THE INPUT: true; the input reads as it did. -/
def fnExactImpulseOfSpec : ChangeSpec := { name := "fnExactImpulseOf", fn := fun _ => fun
  | [d1, d2, d3] => { results := [.lit (.bool true)], args := [d1, d2, d3] }
  | _ => none }
def fnExactImpulseOfRow : OpenClaim := { program := "ytkpfcaipbhfgkaa", sum := "9466e511b84d6a25feb07be5272c56bed4c79ba72b66ed6ddb15ed1250102f5f", func := "loop.example/g01198/laws.FnExactImpulseOf", spec := "fnExactImpulseOf", unfollowed := true, recurses := true, apart := false }
def FnExactImpulseOfSaid : Prop := fnExactImpulseOfRow.holds Try.pinned (OpenSpec.ofChange fnExactImpulseOfSpec)

/-- ITS FALSE NEIGHBOUR: 'it returns false'. Refute it at one input. -/
def fnExactImpulseOfWrong : ChangeSpec := { name := "fnExactImpulseOf", fn := fun _ => fun
  | [d1, d2, d3] => { results := [.lit (.bool false)], args := [d1, d2, d3] }
  | _ => none }
def FnExactImpulseOfWrongFalsely : Prop := fnExactImpulseOfRow.holds Try.pinned (OpenSpec.ofChange fnExactImpulseOfWrong)

/- THE SECOND FORM. 'bulk': how many values and letters a reading holds, each counted each time it is reached (what is shared counts as often as it is met; a slice's spare places count too). A statement '..UptoSaid' is the law's where the arguments, and the package variables that the reading takes, are together of bulk at most 1048576: NARROWER than '..Said'. Prove '..Said' where nothing that the law and all that it calls make is longer than what came in: it says more and counts as full. Else prove '..UptoSaid'. A law counts once. -/
mutual
def uptoBulk {H : Type} : DataW H → Nat
  | .lit (.string bytes) => bytes.length + 1
  | .lit _ => 1
  | .nil => 1
  | .ptr d => uptoBulk d + 1
  | .slice elems spare => uptoBulkAll elems + uptoBulkAll spare + 1
  | .agg parts => uptoBulkAll parts + 1
  | .iface _ d => uptoBulk d + 1
  | .map entries => uptoBulkEntries entries + 1
  | .held _ => 1
def uptoBulkAll {H : Type} : List (DataW H) → Nat
  | [] => 0
  | d :: r => uptoBulk d + uptoBulkAll r
def uptoBulkEntries {H : Type} : List (Lit × DataW H) → Nat
  | [] => 0
  | x :: r => uptoBulkEntry x + uptoBulkEntries r
def uptoBulkEntry {H : Type} : Lit × DataW H → Nat
  | (.string bytes, d) => bytes.length + uptoBulk d + 1
  | (_, d) => uptoBulk d + 1
 end
def uptoSmall : (H : Type) → List (DataW H) → Bool := fun _ ds => decide (uptoBulkAll ds ≤ 1048576)
def OpenSpec.upto (s : _root_.Go.ChangeSpec) : _root_.Go.OpenSpec := { _root_.Go.OpenSpec.ofChange s with cond := some uptoSmall }

/-- 'laws.FnExactAreParts', WHERE WHAT IT READS IS OF BULK AT MOST 1048576: true; the input reads as it did. -/
def fnExactArePartsUptoRow : OpenClaim := { program := "ytkpfcaipbhfgkaa", sum := "9466e511b84d6a25feb07be5272c56bed4c79ba72b66ed6ddb15ed1250102f5f", func := "loop.example/g01198/laws.FnExactAreParts", spec := "fnExactAreParts", apart := false, narrowed := true }
def FnExactArePartsUptoSaid : Prop := fnExactArePartsUptoRow.holds Try.pinned (OpenSpec.upto fnExactArePartsSpec)

/-- 'laws.FnExactShiftOfChain', WHERE WHAT IT READS IS OF BULK AT MOST 1048576: true; the input reads as it did. -/
def fnExactShiftOfChainUptoRow : OpenClaim := { program := "ytkpfcaipbhfgkaa", sum := "9466e511b84d6a25feb07be5272c56bed4c79ba72b66ed6ddb15ed1250102f5f", func := "loop.example/g01198/laws.FnExactShiftOfChain", spec := "fnExactShiftOfChain", apart := false, narrowed := true }
def FnExactShiftOfChainUptoSaid : Prop := fnExactShiftOfChainUptoRow.holds Try.pinned (OpenSpec.upto fnExactShiftOfChainSpec)

/-- 'laws.FnExactOrderParts', WHERE WHAT IT READS IS OF BULK AT MOST 1048576: true; the input reads as it did. -/
def fnExactOrderPartsUptoRow : OpenClaim := { program := "ytkpfcaipbhfgkaa", sum := "9466e511b84d6a25feb07be5272c56bed4c79ba72b66ed6ddb15ed1250102f5f", func := "loop.example/g01198/laws.FnExactOrderParts", spec := "fnExactOrderParts", apart := false, narrowed := true }
def FnExactOrderPartsUptoSaid : Prop := fnExactOrderPartsUptoRow.holds Try.pinned (OpenSpec.upto fnExactOrderPartsSpec)

/-- 'laws.FnExactInverseAnswer', WHERE WHAT IT READS IS OF BULK AT MOST 1048576: true; the input reads as it did. -/
def fnExactInverseAnswerUptoRow : OpenClaim := { program := "ytkpfcaipbhfgkaa", sum := "9466e511b84d6a25feb07be5272c56bed4c79ba72b66ed6ddb15ed1250102f5f", func := "loop.example/g01198/laws.FnExactInverseAnswer", spec := "fnExactInverseAnswer", unfollowed := true, recurses := true, apart := false, narrowed := true }
def FnExactInverseAnswerUptoSaid : Prop := fnExactInverseAnswerUptoRow.holds Try.pinned (OpenSpec.upto fnExactInverseAnswerSpec)

/-- 'laws.FnExactImpulseOf', WHERE WHAT IT READS IS OF BULK AT MOST 1048576: true; the input reads as it did. -/
def fnExactImpulseOfUptoRow : OpenClaim := { program := "ytkpfcaipbhfgkaa", sum := "9466e511b84d6a25feb07be5272c56bed4c79ba72b66ed6ddb15ed1250102f5f", func := "loop.example/g01198/laws.FnExactImpulseOf", spec := "fnExactImpulseOf", unfollowed := true, recurses := true, apart := false, narrowed := true }
def FnExactImpulseOfUptoSaid : Prop := fnExactImpulseOfUptoRow.holds Try.pinned (OpenSpec.upto fnExactImpulseOfSpec)

end Rows
end Go.Proofs.Ytkpfcaipbhfgkaa
