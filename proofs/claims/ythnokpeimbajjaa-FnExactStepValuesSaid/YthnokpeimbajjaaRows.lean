/-
  No cell of these rows narrows 'for every input' (looked for: loops, veiled, ifaces, maps, wideKeys, modest, calm, conditions, laid).
  DERIVED. THE GIVEN ROWS OF THIS SEAT. 7 by the template 'for every input the law returns true; each argument reads behind the call as it read before'; 0 by the template 'total and deterministic' (their statements: YthnokpeimbajjaaTotals.lean).
  GIVEN WITH THE SEED: the statements are not yours to turn. If you find one false, say at which input.
  Laid BY PROGRAM, IN A SANDBOX (cutbox-rows.mjs): the forced cells as the released guide's own fill.sh prints them over the translation 83ae7a2e79c82759… (all of the seat's roots in one cut). By AI agents, Wed Nov 11 2026. No macro, syntax, notation, axiom, sorry.
-/
import Derived.Test.YthnokpeimbajjaaChecked
import GoSem.Claim
import GoSem.ClaimJoined
import GoSem.ClaimMapViews
import Derived.JoinedTies
import Derived.KernelRfl
namespace Go.Proofs.Ythnokpeimbajjaa
/- THE CELL 'sum', in the pinned program and in every row, IS THE sha256 OF THE DUMP (.gsa) THAT YthnokpeimbajjaaProg.lean LOADS. Nothing in Lean hashes anything: it is a label: what it is worth is what the hold of that sum in a sandbox is worth. -/
noncomputable def Try.pinned : Pinned := { name := "ythnokpeimbajjaa", sum := "83ae7a2e79c8275944527341fc446ec1cf4450cc33360b8e2280890552cf2f54", checked := Try.checked }
namespace Rows
def none {H : Type} : Left H := { results := [], args := [] }

/-- 'laws.FnExactStepBits': WHATEVER THE INPUT: true; the input reads as it did. -/
def fnExactStepBitsSpec : ChangeSpec := { name := "fnExactStepBits", fn := fun _ => fun
  | [d1, d2] => { results := [.lit (.bool true)], args := [d1, d2] }
  | _ => none }
def fnExactStepBitsRow : OpenClaim := { program := "ythnokpeimbajjaa", sum := "83ae7a2e79c8275944527341fc446ec1cf4450cc33360b8e2280890552cf2f54", func := "loop.example/g01198/laws.FnExactStepBits", spec := "fnExactStepBits", unfollowed := true, recurses := true, apart := false }
def FnExactStepBitsSaid : Prop := fnExactStepBitsRow.holds Try.pinned (OpenSpec.ofChange fnExactStepBitsSpec)

/-- ITS FALSE NEIGHBOUR: 'it returns false'. Refute it at one input. -/
def fnExactStepBitsWrong : ChangeSpec := { name := "fnExactStepBits", fn := fun _ => fun
  | [d1, d2] => { results := [.lit (.bool false)], args := [d1, d2] }
  | _ => none }
def FnExactStepBitsWrongFalsely : Prop := fnExactStepBitsRow.holds Try.pinned (OpenSpec.ofChange fnExactStepBitsWrong)

/-- 'laws.FnExactStepsOfBits': WHATEVER THE INPUT: true; the input reads as it did. -/
def fnExactStepsOfBitsSpec : ChangeSpec := { name := "fnExactStepsOfBits", fn := fun _ => fun
  | [d1, d2] => { results := [.lit (.bool true)], args := [d1, d2] }
  | _ => none }
def fnExactStepsOfBitsRow : OpenClaim := { program := "ythnokpeimbajjaa", sum := "83ae7a2e79c8275944527341fc446ec1cf4450cc33360b8e2280890552cf2f54", func := "loop.example/g01198/laws.FnExactStepsOfBits", spec := "fnExactStepsOfBits", unfollowed := true, recurses := true, apart := false }
def FnExactStepsOfBitsSaid : Prop := fnExactStepsOfBitsRow.holds Try.pinned (OpenSpec.ofChange fnExactStepsOfBitsSpec)

/-- ITS FALSE NEIGHBOUR: 'it returns false'. Refute it at one input. -/
def fnExactStepsOfBitsWrong : ChangeSpec := { name := "fnExactStepsOfBits", fn := fun _ => fun
  | [d1, d2] => { results := [.lit (.bool false)], args := [d1, d2] }
  | _ => none }
def FnExactStepsOfBitsWrongFalsely : Prop := fnExactStepsOfBitsRow.holds Try.pinned (OpenSpec.ofChange fnExactStepsOfBitsWrong)

/-- 'laws.FnExactStepValues': WHATEVER THE INPUT: true; the input reads as it did. -/
def fnExactStepValuesSpec : ChangeSpec := { name := "fnExactStepValues", fn := fun _ => fun
  | [d1, d2] => { results := [.lit (.bool true)], args := [d1, d2] }
  | _ => none }
def fnExactStepValuesRow : OpenClaim := { program := "ythnokpeimbajjaa", sum := "83ae7a2e79c8275944527341fc446ec1cf4450cc33360b8e2280890552cf2f54", func := "loop.example/g01198/laws.FnExactStepValues", spec := "fnExactStepValues", unfollowed := true, recurses := true, apart := false }
def FnExactStepValuesSaid : Prop := fnExactStepValuesRow.holds Try.pinned (OpenSpec.ofChange fnExactStepValuesSpec)

/-- ITS FALSE NEIGHBOUR: 'it returns false'. Refute it at one input. -/
def fnExactStepValuesWrong : ChangeSpec := { name := "fnExactStepValues", fn := fun _ => fun
  | [d1, d2] => { results := [.lit (.bool false)], args := [d1, d2] }
  | _ => none }
def FnExactStepValuesWrongFalsely : Prop := fnExactStepValuesRow.holds Try.pinned (OpenSpec.ofChange fnExactStepValuesWrong)

/-- 'laws.FnExactStepGaps': WHATEVER THE INPUT: true; the input reads as it did. -/
def fnExactStepGapsSpec : ChangeSpec := { name := "fnExactStepGaps", fn := fun _ => fun
  | [d1, d2] => { results := [.lit (.bool true)], args := [d1, d2] }
  | _ => none }
def fnExactStepGapsRow : OpenClaim := { program := "ythnokpeimbajjaa", sum := "83ae7a2e79c8275944527341fc446ec1cf4450cc33360b8e2280890552cf2f54", func := "loop.example/g01198/laws.FnExactStepGaps", spec := "fnExactStepGaps", unfollowed := true, recurses := true, apart := false }
def FnExactStepGapsSaid : Prop := fnExactStepGapsRow.holds Try.pinned (OpenSpec.ofChange fnExactStepGapsSpec)

/-- ITS FALSE NEIGHBOUR: 'it returns false'. Refute it at one input. -/
def fnExactStepGapsWrong : ChangeSpec := { name := "fnExactStepGaps", fn := fun _ => fun
  | [d1, d2] => { results := [.lit (.bool false)], args := [d1, d2] }
  | _ => none }
def FnExactStepGapsWrongFalsely : Prop := fnExactStepGapsRow.holds Try.pinned (OpenSpec.ofChange fnExactStepGapsWrong)

/-- 'laws.FnExactGreatestGap': WHATEVER THE INPUT: true; the input reads as it did. -/
def fnExactGreatestGapSpec : ChangeSpec := { name := "fnExactGreatestGap", fn := fun _ => fun
  | [d1, d2] => { results := [.lit (.bool true)], args := [d1, d2] }
  | _ => none }
def fnExactGreatestGapRow : OpenClaim := { program := "ythnokpeimbajjaa", sum := "83ae7a2e79c8275944527341fc446ec1cf4450cc33360b8e2280890552cf2f54", func := "loop.example/g01198/laws.FnExactGreatestGap", spec := "fnExactGreatestGap", unfollowed := true, recurses := true, apart := false }
def FnExactGreatestGapSaid : Prop := fnExactGreatestGapRow.holds Try.pinned (OpenSpec.ofChange fnExactGreatestGapSpec)

/-- ITS FALSE NEIGHBOUR: 'it returns false'. Refute it at one input. -/
def fnExactGreatestGapWrong : ChangeSpec := { name := "fnExactGreatestGap", fn := fun _ => fun
  | [d1, d2] => { results := [.lit (.bool false)], args := [d1, d2] }
  | _ => none }
def FnExactGreatestGapWrongFalsely : Prop := fnExactGreatestGapRow.holds Try.pinned (OpenSpec.ofChange fnExactGreatestGapWrong)

/-- 'laws.FnExactFixedBits': WHATEVER THE INPUT: true; the input reads as it did. -/
def fnExactFixedBitsSpec : ChangeSpec := { name := "fnExactFixedBits", fn := fun _ => fun
  | [d1, d2] => { results := [.lit (.bool true)], args := [d1, d2] }
  | _ => none }
def fnExactFixedBitsRow : OpenClaim := { program := "ythnokpeimbajjaa", sum := "83ae7a2e79c8275944527341fc446ec1cf4450cc33360b8e2280890552cf2f54", func := "loop.example/g01198/laws.FnExactFixedBits", spec := "fnExactFixedBits", unfollowed := true, recurses := true, apart := false }
def FnExactFixedBitsSaid : Prop := fnExactFixedBitsRow.holds Try.pinned (OpenSpec.ofChange fnExactFixedBitsSpec)

/-- ITS FALSE NEIGHBOUR: 'it returns false'. Refute it at one input. -/
def fnExactFixedBitsWrong : ChangeSpec := { name := "fnExactFixedBits", fn := fun _ => fun
  | [d1, d2] => { results := [.lit (.bool false)], args := [d1, d2] }
  | _ => none }
def FnExactFixedBitsWrongFalsely : Prop := fnExactFixedBitsRow.holds Try.pinned (OpenSpec.ofChange fnExactFixedBitsWrong)

/-- 'laws.FnExactFixedValues': WHATEVER THE INPUT: true; the input reads as it did. -/
def fnExactFixedValuesSpec : ChangeSpec := { name := "fnExactFixedValues", fn := fun _ => fun
  | [d1, d2] => { results := [.lit (.bool true)], args := [d1, d2] }
  | _ => none }
def fnExactFixedValuesRow : OpenClaim := { program := "ythnokpeimbajjaa", sum := "83ae7a2e79c8275944527341fc446ec1cf4450cc33360b8e2280890552cf2f54", func := "loop.example/g01198/laws.FnExactFixedValues", spec := "fnExactFixedValues", unfollowed := true, recurses := true, apart := false }
def FnExactFixedValuesSaid : Prop := fnExactFixedValuesRow.holds Try.pinned (OpenSpec.ofChange fnExactFixedValuesSpec)

/-- ITS FALSE NEIGHBOUR: 'it returns false'. Refute it at one input. -/
def fnExactFixedValuesWrong : ChangeSpec := { name := "fnExactFixedValues", fn := fun _ => fun
  | [d1, d2] => { results := [.lit (.bool false)], args := [d1, d2] }
  | _ => none }
def FnExactFixedValuesWrongFalsely : Prop := fnExactFixedValuesRow.holds Try.pinned (OpenSpec.ofChange fnExactFixedValuesWrong)

/- THE SECOND FORM. 'bulk': how many values and letters a reading holds, each counted each time it is reached (what is shared counts as often as it is met; a slice's spare places count too). A statement '..UptoSaid' is the law's where the arguments, and the package variables that the reading takes, are together of bulk at most 1048576: NARROWER than '..Said'. Prove '..Said' where nothing that the law and all that it calls make is longer than what came in: it says more and counts as full. Else prove '..UptoSaid'. A law counts once. -/
mutual
def uptoBulk {H : Type} : DataW H → Nat
  | .lit (.string bytes) => bytes.length + 1
  | .lit _ => 1
  | .nil => 1
  | .ptr d => uptoBulk d + 1
  | .slice elems spare => uptoBulkAll elems + uptoBulkAll spare + 1
  | .agg parts => uptoBulkAll parts + 1
  | .iface _ d => uptoBulk d + 1
  | .map entries => uptoBulkEntries entries + 1
  | .held _ => 1
def uptoBulkAll {H : Type} : List (DataW H) → Nat
  | [] => 0
  | d :: r => uptoBulk d + uptoBulkAll r
def uptoBulkEntries {H : Type} : List (Lit × DataW H) → Nat
  | [] => 0
  | x :: r => uptoBulkEntry x + uptoBulkEntries r
def uptoBulkEntry {H : Type} : Lit × DataW H → Nat
  | (.string bytes, d) => bytes.length + uptoBulk d + 1
  | (_, d) => uptoBulk d + 1
 end
def uptoSmall : (H : Type) → List (DataW H) → Bool := fun _ ds => decide (uptoBulkAll ds ≤ 1048576)
def OpenSpec.upto (s : _root_.Go.ChangeSpec) : _root_.Go.OpenSpec := { _root_.Go.OpenSpec.ofChange s with cond := some uptoSmall }

/-- 'laws.FnExactStepBits', WHERE WHAT IT READS IS OF BULK AT MOST 1048576: true; the input reads as it did. -/
def fnExactStepBitsUptoRow : OpenClaim := { program := "ythnokpeimbajjaa", sum := "83ae7a2e79c8275944527341fc446ec1cf4450cc33360b8e2280890552cf2f54", func := "loop.example/g01198/laws.FnExactStepBits", spec := "fnExactStepBits", unfollowed := true, recurses := true, apart := false, narrowed := true }
def FnExactStepBitsUptoSaid : Prop := fnExactStepBitsUptoRow.holds Try.pinned (OpenSpec.upto fnExactStepBitsSpec)

/-- 'laws.FnExactStepsOfBits', WHERE WHAT IT READS IS OF BULK AT MOST 1048576: true; the input reads as it did. -/
def fnExactStepsOfBitsUptoRow : OpenClaim := { program := "ythnokpeimbajjaa", sum := "83ae7a2e79c8275944527341fc446ec1cf4450cc33360b8e2280890552cf2f54", func := "loop.example/g01198/laws.FnExactStepsOfBits", spec := "fnExactStepsOfBits", unfollowed := true, recurses := true, apart := false, narrowed := true }
def FnExactStepsOfBitsUptoSaid : Prop := fnExactStepsOfBitsUptoRow.holds Try.pinned (OpenSpec.upto fnExactStepsOfBitsSpec)

/-- 'laws.FnExactStepValues', WHERE WHAT IT READS IS OF BULK AT MOST 1048576: true; the input reads as it did. -/
def fnExactStepValuesUptoRow : OpenClaim := { program := "ythnokpeimbajjaa", sum := "83ae7a2e79c8275944527341fc446ec1cf4450cc33360b8e2280890552cf2f54", func := "loop.example/g01198/laws.FnExactStepValues", spec := "fnExactStepValues", unfollowed := true, recurses := true, apart := false, narrowed := true }
def FnExactStepValuesUptoSaid : Prop := fnExactStepValuesUptoRow.holds Try.pinned (OpenSpec.upto fnExactStepValuesSpec)

/-- 'laws.FnExactStepGaps', WHERE WHAT IT READS IS OF BULK AT MOST 1048576: true; the input reads as it did. -/
def fnExactStepGapsUptoRow : OpenClaim := { program := "ythnokpeimbajjaa", sum := "83ae7a2e79c8275944527341fc446ec1cf4450cc33360b8e2280890552cf2f54", func := "loop.example/g01198/laws.FnExactStepGaps", spec := "fnExactStepGaps", unfollowed := true, recurses := true, apart := false, narrowed := true }
def FnExactStepGapsUptoSaid : Prop := fnExactStepGapsUptoRow.holds Try.pinned (OpenSpec.upto fnExactStepGapsSpec)

/-- 'laws.FnExactGreatestGap', WHERE WHAT IT READS IS OF BULK AT MOST 1048576: true; the input reads as it did. -/
def fnExactGreatestGapUptoRow : OpenClaim := { program := "ythnokpeimbajjaa", sum := "83ae7a2e79c8275944527341fc446ec1cf4450cc33360b8e2280890552cf2f54", func := "loop.example/g01198/laws.FnExactGreatestGap", spec := "fnExactGreatestGap", unfollowed := true, recurses := true, apart := false, narrowed := true }
def FnExactGreatestGapUptoSaid : Prop := fnExactGreatestGapUptoRow.holds Try.pinned (OpenSpec.upto fnExactGreatestGapSpec)

/-- 'laws.FnExactFixedBits', WHERE WHAT IT READS IS OF BULK AT MOST 1048576: true; the input reads as it did. -/
def fnExactFixedBitsUptoRow : OpenClaim := { program := "ythnokpeimbajjaa", sum := "83ae7a2e79c8275944527341fc446ec1cf4450cc33360b8e2280890552cf2f54", func := "loop.example/g01198/laws.FnExactFixedBits", spec := "fnExactFixedBits", unfollowed := true, recurses := true, apart := false, narrowed := true }
def FnExactFixedBitsUptoSaid : Prop := fnExactFixedBitsUptoRow.holds Try.pinned (OpenSpec.upto fnExactFixedBitsSpec)

/-- 'laws.FnExactFixedValues', WHERE WHAT IT READS IS OF BULK AT MOST 1048576: true; the input reads as it did. -/
def fnExactFixedValuesUptoRow : OpenClaim := { program := "ythnokpeimbajjaa", sum := "83ae7a2e79c8275944527341fc446ec1cf4450cc33360b8e2280890552cf2f54", func := "loop.example/g01198/laws.FnExactFixedValues", spec := "fnExactFixedValues", unfollowed := true, recurses := true, apart := false, narrowed := true }
def FnExactFixedValuesUptoSaid : Prop := fnExactFixedValuesUptoRow.holds Try.pinned (OpenSpec.upto fnExactFixedValuesSpec)

end Rows
end Go.Proofs.Ythnokpeimbajjaa
