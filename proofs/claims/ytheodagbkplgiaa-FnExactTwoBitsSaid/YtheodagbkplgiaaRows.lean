/-
  No cell of these rows narrows 'for every input' (looked for: loops, veiled, ifaces, maps, wideKeys, modest, calm, conditions, laid).
  DERIVED. THE GIVEN ROWS OF THIS SEAT. 7 by the template 'for every input the law returns true; each argument reads behind the call as it read before'; 0 by the template 'total and deterministic' (their statements: YtheodagbkplgiaaTotals.lean).
  GIVEN WITH THE SEED: the statements are not yours to turn. If you find one false, say at which input.
  Laid BY PROGRAM, IN A SANDBOX (cutbox-rows.mjs): the forced cells as the released guide's own fill.sh prints them over the translation 3e606815fde95658… (all of the seat's roots in one cut). By AI agents, Wed Nov 11 2026. No macro, syntax, notation, axiom, sorry.
-/
import Derived.Test.YtheodagbkplgiaaChecked
import GoSem.Claim
import GoSem.ClaimJoined
import GoSem.ClaimMapViews
import Derived.JoinedTies
import Derived.KernelRfl
namespace Go.Proofs.Ytheodagbkplgiaa
/- THE CELL 'sum', in the pinned program and in every row, IS THE sha256 OF THE DUMP (.gsa) THAT YtheodagbkplgiaaProg.lean LOADS. Nothing in Lean hashes anything: it is a label: what it is worth is what the hold of that sum in a sandbox is worth. -/
noncomputable def Try.pinned : Pinned := { name := "ytheodagbkplgiaa", sum := "3e606815fde95658357a590bbbe9b575f42b721e2d93cbb9ee77f039670e58e6", checked := Try.checked }
namespace Rows
def none {H : Type} : Left H := { results := [], args := [] }

/-- 'laws.FnExactIsScaled': WHATEVER THE INPUT: true; the input reads as it did. -/
def fnExactIsScaledSpec : ChangeSpec := { name := "fnExactIsScaled", fn := fun _ => fun
  | [d1, d2] => { results := [.lit (.bool true)], args := [d1, d2] }
  | _ => none }
def fnExactIsScaledRow : OpenClaim := { program := "ytheodagbkplgiaa", sum := "3e606815fde95658357a590bbbe9b575f42b721e2d93cbb9ee77f039670e58e6", func := "loop.example/g01198/laws.FnExactIsScaled", spec := "fnExactIsScaled", apart := false }
def FnExactIsScaledSaid : Prop := fnExactIsScaledRow.holds Try.pinned (OpenSpec.ofChange fnExactIsScaledSpec)

/-- ITS FALSE NEIGHBOUR: 'it returns false'. Refute it at one input. -/
def fnExactIsScaledWrong : ChangeSpec := { name := "fnExactIsScaled", fn := fun _ => fun
  | [d1, d2] => { results := [.lit (.bool false)], args := [d1, d2] }
  | _ => none }
def FnExactIsScaledWrongFalsely : Prop := fnExactIsScaledRow.holds Try.pinned (OpenSpec.ofChange fnExactIsScaledWrong)

/-- 'laws.FnExactOneBits': WHATEVER THE INPUT: true; the input reads as it did. -/
def fnExactOneBitsSpec : ChangeSpec := { name := "fnExactOneBits", fn := fun _ => fun
  | [d1, d2] => { results := [.lit (.bool true)], args := [d1, d2] }
  | _ => none }
def fnExactOneBitsRow : OpenClaim := { program := "ytheodagbkplgiaa", sum := "3e606815fde95658357a590bbbe9b575f42b721e2d93cbb9ee77f039670e58e6", func := "loop.example/g01198/laws.FnExactOneBits", spec := "fnExactOneBits", unfollowed := true, recurses := true, apart := false }
def FnExactOneBitsSaid : Prop := fnExactOneBitsRow.holds Try.pinned (OpenSpec.ofChange fnExactOneBitsSpec)

/-- ITS FALSE NEIGHBOUR: 'it returns false'. Refute it at one input. -/
def fnExactOneBitsWrong : ChangeSpec := { name := "fnExactOneBits", fn := fun _ => fun
  | [d1, d2] => { results := [.lit (.bool false)], args := [d1, d2] }
  | _ => none }
def FnExactOneBitsWrongFalsely : Prop := fnExactOneBitsRow.holds Try.pinned (OpenSpec.ofChange fnExactOneBitsWrong)

/-- 'laws.FnExactStatesOfBits': WHATEVER THE INPUT: true; the input reads as it did. -/
def fnExactStatesOfBitsSpec : ChangeSpec := { name := "fnExactStatesOfBits", fn := fun _ => fun
  | [d1, d2] => { results := [.lit (.bool true)], args := [d1, d2] }
  | _ => none }
def fnExactStatesOfBitsRow : OpenClaim := { program := "ytheodagbkplgiaa", sum := "3e606815fde95658357a590bbbe9b575f42b721e2d93cbb9ee77f039670e58e6", func := "loop.example/g01198/laws.FnExactStatesOfBits", spec := "fnExactStatesOfBits", unfollowed := true, recurses := true, apart := false }
def FnExactStatesOfBitsSaid : Prop := fnExactStatesOfBitsRow.holds Try.pinned (OpenSpec.ofChange fnExactStatesOfBitsSpec)

/-- ITS FALSE NEIGHBOUR: 'it returns false'. Refute it at one input. -/
def fnExactStatesOfBitsWrong : ChangeSpec := { name := "fnExactStatesOfBits", fn := fun _ => fun
  | [d1, d2] => { results := [.lit (.bool false)], args := [d1, d2] }
  | _ => none }
def FnExactStatesOfBitsWrongFalsely : Prop := fnExactStatesOfBitsRow.holds Try.pinned (OpenSpec.ofChange fnExactStatesOfBitsWrong)

/-- 'laws.FnExactSumGap': WHATEVER THE INPUT: true; the input reads as it did. -/
def fnExactSumGapSpec : ChangeSpec := { name := "fnExactSumGap", fn := fun _ => fun
  | [d1, d2] => { results := [.lit (.bool true)], args := [d1, d2] }
  | _ => none }
def fnExactSumGapRow : OpenClaim := { program := "ytheodagbkplgiaa", sum := "3e606815fde95658357a590bbbe9b575f42b721e2d93cbb9ee77f039670e58e6", func := "loop.example/g01198/laws.FnExactSumGap", spec := "fnExactSumGap", unfollowed := true, recurses := true, apart := false }
def FnExactSumGapSaid : Prop := fnExactSumGapRow.holds Try.pinned (OpenSpec.ofChange fnExactSumGapSpec)

/-- ITS FALSE NEIGHBOUR: 'it returns false'. Refute it at one input. -/
def fnExactSumGapWrong : ChangeSpec := { name := "fnExactSumGap", fn := fun _ => fun
  | [d1, d2] => { results := [.lit (.bool false)], args := [d1, d2] }
  | _ => none }
def FnExactSumGapWrongFalsely : Prop := fnExactSumGapRow.holds Try.pinned (OpenSpec.ofChange fnExactSumGapWrong)

/-- 'laws.FnExactConstantBits': WHATEVER THE INPUT: true; the input reads as it did. -/
def fnExactConstantBitsSpec : ChangeSpec := { name := "fnExactConstantBits", fn := fun _ => fun
  | [d1, d2, d3] => { results := [.lit (.bool true)], args := [d1, d2, d3] }
  | _ => none }
def fnExactConstantBitsRow : OpenClaim := { program := "ytheodagbkplgiaa", sum := "3e606815fde95658357a590bbbe9b575f42b721e2d93cbb9ee77f039670e58e6", func := "loop.example/g01198/laws.FnExactConstantBits", spec := "fnExactConstantBits", unfollowed := true, recurses := true, apart := false }
def FnExactConstantBitsSaid : Prop := fnExactConstantBitsRow.holds Try.pinned (OpenSpec.ofChange fnExactConstantBitsSpec)

/-- ITS FALSE NEIGHBOUR: 'it returns false'. Refute it at one input. -/
def fnExactConstantBitsWrong : ChangeSpec := { name := "fnExactConstantBits", fn := fun _ => fun
  | [d1, d2, d3] => { results := [.lit (.bool false)], args := [d1, d2, d3] }
  | _ => none }
def FnExactConstantBitsWrongFalsely : Prop := fnExactConstantBitsRow.holds Try.pinned (OpenSpec.ofChange fnExactConstantBitsWrong)

/-- 'laws.FnExactTwoBits': WHATEVER THE INPUT: true; the input reads as it did. -/
def fnExactTwoBitsSpec : ChangeSpec := { name := "fnExactTwoBits", fn := fun _ => fun
  | [d1, d2] => { results := [.lit (.bool true)], args := [d1, d2] }
  | _ => none }
def fnExactTwoBitsRow : OpenClaim := { program := "ytheodagbkplgiaa", sum := "3e606815fde95658357a590bbbe9b575f42b721e2d93cbb9ee77f039670e58e6", func := "loop.example/g01198/laws.FnExactTwoBits", spec := "fnExactTwoBits", unfollowed := true, recurses := true, apart := false }
def FnExactTwoBitsSaid : Prop := fnExactTwoBitsRow.holds Try.pinned (OpenSpec.ofChange fnExactTwoBitsSpec)

/-- ITS FALSE NEIGHBOUR: 'it returns false'. Refute it at one input. -/
def fnExactTwoBitsWrong : ChangeSpec := { name := "fnExactTwoBits", fn := fun _ => fun
  | [d1, d2] => { results := [.lit (.bool false)], args := [d1, d2] }
  | _ => none }
def FnExactTwoBitsWrongFalsely : Prop := fnExactTwoBitsRow.holds Try.pinned (OpenSpec.ofChange fnExactTwoBitsWrong)

/-- 'laws.FnExactTwoStates': WHATEVER THE INPUT: true; the input reads as it did. -/
def fnExactTwoStatesSpec : ChangeSpec := { name := "fnExactTwoStates", fn := fun _ => fun
  | [d1, d2] => { results := [.lit (.bool true)], args := [d1, d2] }
  | _ => none }
def fnExactTwoStatesRow : OpenClaim := { program := "ytheodagbkplgiaa", sum := "3e606815fde95658357a590bbbe9b575f42b721e2d93cbb9ee77f039670e58e6", func := "loop.example/g01198/laws.FnExactTwoStates", spec := "fnExactTwoStates", unfollowed := true, recurses := true, apart := false }
def FnExactTwoStatesSaid : Prop := fnExactTwoStatesRow.holds Try.pinned (OpenSpec.ofChange fnExactTwoStatesSpec)

/-- ITS FALSE NEIGHBOUR: 'it returns false'. Refute it at one input. -/
def fnExactTwoStatesWrong : ChangeSpec := { name := "fnExactTwoStates", fn := fun _ => fun
  | [d1, d2] => { results := [.lit (.bool false)], args := [d1, d2] }
  | _ => none }
def FnExactTwoStatesWrongFalsely : Prop := fnExactTwoStatesRow.holds Try.pinned (OpenSpec.ofChange fnExactTwoStatesWrong)

/- THE SECOND FORM. 'bulk': how many values and letters a reading holds, each counted each time it is reached (what is shared counts as often as it is met; a slice's spare places count too). A statement '..UptoSaid' is the law's where the arguments, and the package variables that the reading takes, are together of bulk at most 1048576: NARROWER than '..Said'. Prove '..Said' where nothing that the law and all that it calls make is longer than what came in: it says more and counts as full. Else prove '..UptoSaid'. A law counts once. -/
mutual
def uptoBulk {H : Type} : DataW H → Nat
  | .lit (.string bytes) => bytes.length + 1
  | .lit _ => 1
  | .nil => 1
  | .ptr d => uptoBulk d + 1
  | .slice elems spare => uptoBulkAll elems + uptoBulkAll spare + 1
  | .agg parts => uptoBulkAll parts + 1
  | .iface _ d => uptoBulk d + 1
  | .map entries => uptoBulkEntries entries + 1
  | .held _ => 1
def uptoBulkAll {H : Type} : List (DataW H) → Nat
  | [] => 0
  | d :: r => uptoBulk d + uptoBulkAll r
def uptoBulkEntries {H : Type} : List (Lit × DataW H) → Nat
  | [] => 0
  | x :: r => uptoBulkEntry x + uptoBulkEntries r
def uptoBulkEntry {H : Type} : Lit × DataW H → Nat
  | (.string bytes, d) => bytes.length + uptoBulk d + 1
  | (_, d) => uptoBulk d + 1
 end
def uptoSmall : (H : Type) → List (DataW H) → Bool := fun _ ds => decide (uptoBulkAll ds ≤ 1048576)
def OpenSpec.upto (s : _root_.Go.ChangeSpec) : _root_.Go.OpenSpec := { _root_.Go.OpenSpec.ofChange s with cond := some uptoSmall }

/-- 'laws.FnExactIsScaled', WHERE WHAT IT READS IS OF BULK AT MOST 1048576: true; the input reads as it did. -/
def fnExactIsScaledUptoRow : OpenClaim := { program := "ytheodagbkplgiaa", sum := "3e606815fde95658357a590bbbe9b575f42b721e2d93cbb9ee77f039670e58e6", func := "loop.example/g01198/laws.FnExactIsScaled", spec := "fnExactIsScaled", apart := false, narrowed := true }
def FnExactIsScaledUptoSaid : Prop := fnExactIsScaledUptoRow.holds Try.pinned (OpenSpec.upto fnExactIsScaledSpec)

/-- 'laws.FnExactOneBits', WHERE WHAT IT READS IS OF BULK AT MOST 1048576: true; the input reads as it did. -/
def fnExactOneBitsUptoRow : OpenClaim := { program := "ytheodagbkplgiaa", sum := "3e606815fde95658357a590bbbe9b575f42b721e2d93cbb9ee77f039670e58e6", func := "loop.example/g01198/laws.FnExactOneBits", spec := "fnExactOneBits", unfollowed := true, recurses := true, apart := false, narrowed := true }
def FnExactOneBitsUptoSaid : Prop := fnExactOneBitsUptoRow.holds Try.pinned (OpenSpec.upto fnExactOneBitsSpec)

/-- 'laws.FnExactStatesOfBits', WHERE WHAT IT READS IS OF BULK AT MOST 1048576: true; the input reads as it did. -/
def fnExactStatesOfBitsUptoRow : OpenClaim := { program := "ytheodagbkplgiaa", sum := "3e606815fde95658357a590bbbe9b575f42b721e2d93cbb9ee77f039670e58e6", func := "loop.example/g01198/laws.FnExactStatesOfBits", spec := "fnExactStatesOfBits", unfollowed := true, recurses := true, apart := false, narrowed := true }
def FnExactStatesOfBitsUptoSaid : Prop := fnExactStatesOfBitsUptoRow.holds Try.pinned (OpenSpec.upto fnExactStatesOfBitsSpec)

/-- 'laws.FnExactSumGap', WHERE WHAT IT READS IS OF BULK AT MOST 1048576: true; the input reads as it did. -/
def fnExactSumGapUptoRow : OpenClaim := { program := "ytheodagbkplgiaa", sum := "3e606815fde95658357a590bbbe9b575f42b721e2d93cbb9ee77f039670e58e6", func := "loop.example/g01198/laws.FnExactSumGap", spec := "fnExactSumGap", unfollowed := true, recurses := true, apart := false, narrowed := true }
def FnExactSumGapUptoSaid : Prop := fnExactSumGapUptoRow.holds Try.pinned (OpenSpec.upto fnExactSumGapSpec)

/-- 'laws.FnExactConstantBits', WHERE WHAT IT READS IS OF BULK AT MOST 1048576: true; the input reads as it did. -/
def fnExactConstantBitsUptoRow : OpenClaim := { program := "ytheodagbkplgiaa", sum := "3e606815fde95658357a590bbbe9b575f42b721e2d93cbb9ee77f039670e58e6", func := "loop.example/g01198/laws.FnExactConstantBits", spec := "fnExactConstantBits", unfollowed := true, recurses := true, apart := false, narrowed := true }
def FnExactConstantBitsUptoSaid : Prop := fnExactConstantBitsUptoRow.holds Try.pinned (OpenSpec.upto fnExactConstantBitsSpec)

/-- 'laws.FnExactTwoBits', WHERE WHAT IT READS IS OF BULK AT MOST 1048576: true; the input reads as it did. -/
def fnExactTwoBitsUptoRow : OpenClaim := { program := "ytheodagbkplgiaa", sum := "3e606815fde95658357a590bbbe9b575f42b721e2d93cbb9ee77f039670e58e6", func := "loop.example/g01198/laws.FnExactTwoBits", spec := "fnExactTwoBits", unfollowed := true, recurses := true, apart := false, narrowed := true }
def FnExactTwoBitsUptoSaid : Prop := fnExactTwoBitsUptoRow.holds Try.pinned (OpenSpec.upto fnExactTwoBitsSpec)

/-- 'laws.FnExactTwoStates', WHERE WHAT IT READS IS OF BULK AT MOST 1048576: true; the input reads as it did. -/
def fnExactTwoStatesUptoRow : OpenClaim := { program := "ytheodagbkplgiaa", sum := "3e606815fde95658357a590bbbe9b575f42b721e2d93cbb9ee77f039670e58e6", func := "loop.example/g01198/laws.FnExactTwoStates", spec := "fnExactTwoStates", unfollowed := true, recurses := true, apart := false, narrowed := true }
def FnExactTwoStatesUptoSaid : Prop := fnExactTwoStatesUptoRow.holds Try.pinned (OpenSpec.upto fnExactTwoStatesSpec)

end Rows
end Go.Proofs.Ytheodagbkplgiaa
