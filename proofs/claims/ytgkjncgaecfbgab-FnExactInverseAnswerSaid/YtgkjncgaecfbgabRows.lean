/-
  No cell of these rows narrows 'for every input' (looked for: loops, veiled, ifaces, maps, wideKeys, modest, calm, conditions, laid).
  DERIVED. THE GIVEN ROWS OF THIS SEAT. 7 by the template 'for every input the law returns true; each argument reads behind the call as it read before'; 0 by the template 'total and deterministic' (their statements: YtgkjncgaecfbgabTotals.lean).
  GIVEN WITH THE SEED: the statements are not yours to turn. If you find one false, say at which input.
  Laid BY PROGRAM, IN A SANDBOX (cutbox-rows.mjs): the forced cells as the released guide's own fill.sh prints them over the translation 31135b9233e6b805… (all of the seat's roots in one cut). By AI agents, Wed Nov 11 2026. No macro, syntax, notation, axiom, sorry.
-/
import Derived.Test.YtgkjncgaecfbgabChecked
import GoSem.Claim
import GoSem.ClaimJoined
import GoSem.ClaimMapViews
import Derived.JoinedTies
import Derived.KernelRfl
namespace Go.Proofs.Ytgkjncgaecfbgab
/- THE CELL 'sum', in the pinned program and in every row, IS THE sha256 OF THE DUMP (.gsa) THAT YtgkjncgaecfbgabProg.lean LOADS. Nothing in Lean hashes anything: it is a label: what it is worth is what the hold of that sum in a sandbox is worth. -/
noncomputable def Try.pinned : Pinned := { name := "ytgkjncgaecfbgab", sum := "31135b9233e6b805c960a395e3e6bab36bf2c2437ee95aad5d210808f6a7226a", checked := Try.checked }
namespace Rows
def none {H : Type} : Left H := { results := [], args := [] }

/-- 'laws.FnExactFilterSignal': WHATEVER THE INPUT: true; the input reads as it did. -/
def fnExactFilterSignalSpec : ChangeSpec := { name := "fnExactFilterSignal", fn := fun _ => fun
  | [d1, d2] => { results := [.lit (.bool true)], args := [d1, d2] }
  | _ => none }
def fnExactFilterSignalRow : OpenClaim := { program := "ytgkjncgaecfbgab", sum := "31135b9233e6b805c960a395e3e6bab36bf2c2437ee95aad5d210808f6a7226a", func := "loop.example/g01198/laws.FnExactFilterSignal", spec := "fnExactFilterSignal", unfollowed := true, recurses := true, apart := false }
def FnExactFilterSignalSaid : Prop := fnExactFilterSignalRow.holds Try.pinned (OpenSpec.ofChange fnExactFilterSignalSpec)

/-- ITS FALSE NEIGHBOUR: 'it returns false'. Refute it at one input. -/
def fnExactFilterSignalWrong : ChangeSpec := { name := "fnExactFilterSignal", fn := fun _ => fun
  | [d1, d2] => { results := [.lit (.bool false)], args := [d1, d2] }
  | _ => none }
def FnExactFilterSignalWrongFalsely : Prop := fnExactFilterSignalRow.holds Try.pinned (OpenSpec.ofChange fnExactFilterSignalWrong)

/-- 'laws.FnExactFilterShort': WHATEVER THE INPUT: true; the input reads as it did. -/
def fnExactFilterShortSpec : ChangeSpec := { name := "fnExactFilterShort", fn := fun _ => fun
  | [d1, d2] => { results := [.lit (.bool true)], args := [d1, d2] }
  | _ => none }
def fnExactFilterShortRow : OpenClaim := { program := "ytgkjncgaecfbgab", sum := "31135b9233e6b805c960a395e3e6bab36bf2c2437ee95aad5d210808f6a7226a", func := "loop.example/g01198/laws.FnExactFilterShort", spec := "fnExactFilterShort", unfollowed := true, recurses := true, apart := false }
def FnExactFilterShortSaid : Prop := fnExactFilterShortRow.holds Try.pinned (OpenSpec.ofChange fnExactFilterShortSpec)

/-- ITS FALSE NEIGHBOUR: 'it returns false'. Refute it at one input. -/
def fnExactFilterShortWrong : ChangeSpec := { name := "fnExactFilterShort", fn := fun _ => fun
  | [d1, d2] => { results := [.lit (.bool false)], args := [d1, d2] }
  | _ => none }
def FnExactFilterShortWrongFalsely : Prop := fnExactFilterShortRow.holds Try.pinned (OpenSpec.ofChange fnExactFilterShortWrong)

/-- 'laws.FnExactTimesWeights': WHATEVER THE INPUT: true; the input reads as it did. -/
def fnExactTimesWeightsSpec : ChangeSpec := { name := "fnExactTimesWeights", fn := fun _ => fun
  | [d1, d2] => { results := [.lit (.bool true)], args := [d1, d2] }
  | _ => none }
def fnExactTimesWeightsRow : OpenClaim := { program := "ytgkjncgaecfbgab", sum := "31135b9233e6b805c960a395e3e6bab36bf2c2437ee95aad5d210808f6a7226a", func := "loop.example/g01198/laws.FnExactTimesWeights", spec := "fnExactTimesWeights", unfollowed := true, recurses := true, apart := false }
def FnExactTimesWeightsSaid : Prop := fnExactTimesWeightsRow.holds Try.pinned (OpenSpec.ofChange fnExactTimesWeightsSpec)

/-- ITS FALSE NEIGHBOUR: 'it returns false'. Refute it at one input. -/
def fnExactTimesWeightsWrong : ChangeSpec := { name := "fnExactTimesWeights", fn := fun _ => fun
  | [d1, d2] => { results := [.lit (.bool false)], args := [d1, d2] }
  | _ => none }
def FnExactTimesWeightsWrongFalsely : Prop := fnExactTimesWeightsRow.holds Try.pinned (OpenSpec.ofChange fnExactTimesWeightsWrong)

/-- 'laws.FnExactPowerWeights': WHATEVER THE INPUT: true; the input reads as it did. -/
def fnExactPowerWeightsSpec : ChangeSpec := { name := "fnExactPowerWeights", fn := fun _ => fun
  | [d1, d2] => { results := [.lit (.bool true)], args := [d1, d2] }
  | _ => none }
def fnExactPowerWeightsRow : OpenClaim := { program := "ytgkjncgaecfbgab", sum := "31135b9233e6b805c960a395e3e6bab36bf2c2437ee95aad5d210808f6a7226a", func := "loop.example/g01198/laws.FnExactPowerWeights", spec := "fnExactPowerWeights", unfollowed := true, recurses := true, apart := false }
def FnExactPowerWeightsSaid : Prop := fnExactPowerWeightsRow.holds Try.pinned (OpenSpec.ofChange fnExactPowerWeightsSpec)

/-- ITS FALSE NEIGHBOUR: 'it returns false'. Refute it at one input. -/
def fnExactPowerWeightsWrong : ChangeSpec := { name := "fnExactPowerWeights", fn := fun _ => fun
  | [d1, d2] => { results := [.lit (.bool false)], args := [d1, d2] }
  | _ => none }
def FnExactPowerWeightsWrongFalsely : Prop := fnExactPowerWeightsRow.holds Try.pinned (OpenSpec.ofChange fnExactPowerWeightsWrong)

/-- 'laws.FnExactDivideWeights': WHATEVER THE INPUT: true; the input reads as it did. -/
def fnExactDivideWeightsSpec : ChangeSpec := { name := "fnExactDivideWeights", fn := fun _ => fun
  | [d1, d2] => { results := [.lit (.bool true)], args := [d1, d2] }
  | _ => none }
def fnExactDivideWeightsRow : OpenClaim := { program := "ytgkjncgaecfbgab", sum := "31135b9233e6b805c960a395e3e6bab36bf2c2437ee95aad5d210808f6a7226a", func := "loop.example/g01198/laws.FnExactDivideWeights", spec := "fnExactDivideWeights", unfollowed := true, recurses := true, apart := false }
def FnExactDivideWeightsSaid : Prop := fnExactDivideWeightsRow.holds Try.pinned (OpenSpec.ofChange fnExactDivideWeightsSpec)

/-- ITS FALSE NEIGHBOUR: 'it returns false'. Refute it at one input. -/
def fnExactDivideWeightsWrong : ChangeSpec := { name := "fnExactDivideWeights", fn := fun _ => fun
  | [d1, d2] => { results := [.lit (.bool false)], args := [d1, d2] }
  | _ => none }
def FnExactDivideWeightsWrongFalsely : Prop := fnExactDivideWeightsRow.holds Try.pinned (OpenSpec.ofChange fnExactDivideWeightsWrong)

/-- 'laws.FnExactInverseAnswer': WHATEVER THE INPUT: true; the input reads as it did. -/
def fnExactInverseAnswerSpec : ChangeSpec := { name := "fnExactInverseAnswer", fn := fun _ => fun
  | [d1, d2] => { results := [.lit (.bool true)], args := [d1, d2] }
  | _ => none }
def fnExactInverseAnswerRow : OpenClaim := { program := "ytgkjncgaecfbgab", sum := "31135b9233e6b805c960a395e3e6bab36bf2c2437ee95aad5d210808f6a7226a", func := "loop.example/g01198/laws.FnExactInverseAnswer", spec := "fnExactInverseAnswer", unfollowed := true, recurses := true, apart := false }
def FnExactInverseAnswerSaid : Prop := fnExactInverseAnswerRow.holds Try.pinned (OpenSpec.ofChange fnExactInverseAnswerSpec)

/-- ITS FALSE NEIGHBOUR: 'it returns false'. Refute it at one input. -/
def fnExactInverseAnswerWrong : ChangeSpec := { name := "fnExactInverseAnswer", fn := fun _ => fun
  | [d1, d2] => { results := [.lit (.bool false)], args := [d1, d2] }
  | _ => none }
def FnExactInverseAnswerWrongFalsely : Prop := fnExactInverseAnswerRow.holds Try.pinned (OpenSpec.ofChange fnExactInverseAnswerWrong)

/-- 'laws.FnExactSpreadWeights': WHATEVER THE INPUT: true; the input reads as it did. -/
def fnExactSpreadWeightsSpec : ChangeSpec := { name := "fnExactSpreadWeights", fn := fun _ => fun
  | [d1, d2] => { results := [.lit (.bool true)], args := [d1, d2] }
  | _ => none }
def fnExactSpreadWeightsRow : OpenClaim := { program := "ytgkjncgaecfbgab", sum := "31135b9233e6b805c960a395e3e6bab36bf2c2437ee95aad5d210808f6a7226a", func := "loop.example/g01198/laws.FnExactSpreadWeights", spec := "fnExactSpreadWeights", apart := false }
def FnExactSpreadWeightsSaid : Prop := fnExactSpreadWeightsRow.holds Try.pinned (OpenSpec.ofChange fnExactSpreadWeightsSpec)

/-- ITS FALSE NEIGHBOUR: 'it returns false'. Refute it at one input. -/
def fnExactSpreadWeightsWrong : ChangeSpec := { name := "fnExactSpreadWeights", fn := fun _ => fun
  | [d1, d2] => { results := [.lit (.bool false)], args := [d1, d2] }
  | _ => none }
def FnExactSpreadWeightsWrongFalsely : Prop := fnExactSpreadWeightsRow.holds Try.pinned (OpenSpec.ofChange fnExactSpreadWeightsWrong)

/- THE SECOND FORM. 'bulk': how many values and letters a reading holds, each counted each time it is reached (what is shared counts as often as it is met; a slice's spare places count too). A statement '..UptoSaid' is the law's where the arguments, and the package variables that the reading takes, are together of bulk at most 1048576: NARROWER than '..Said'. Prove '..Said' where nothing that the law and all that it calls make is longer than what came in: it says more and counts as full. Else prove '..UptoSaid'. A law counts once. -/
mutual
def uptoBulk {H : Type} : DataW H → Nat
  | .lit (.string bytes) => bytes.length + 1
  | .lit _ => 1
  | .nil => 1
  | .ptr d => uptoBulk d + 1
  | .slice elems spare => uptoBulkAll elems + uptoBulkAll spare + 1
  | .agg parts => uptoBulkAll parts + 1
  | .iface _ d => uptoBulk d + 1
  | .map entries => uptoBulkEntries entries + 1
  | .held _ => 1
def uptoBulkAll {H : Type} : List (DataW H) → Nat
  | [] => 0
  | d :: r => uptoBulk d + uptoBulkAll r
def uptoBulkEntries {H : Type} : List (Lit × DataW H) → Nat
  | [] => 0
  | x :: r => uptoBulkEntry x + uptoBulkEntries r
def uptoBulkEntry {H : Type} : Lit × DataW H → Nat
  | (.string bytes, d) => bytes.length + uptoBulk d + 1
  | (_, d) => uptoBulk d + 1
 end
def uptoSmall : (H : Type) → List (DataW H) → Bool := fun _ ds => decide (uptoBulkAll ds ≤ 1048576)
def OpenSpec.upto (s : _root_.Go.ChangeSpec) : _root_.Go.OpenSpec := { _root_.Go.OpenSpec.ofChange s with cond := some uptoSmall }

/-- 'laws.FnExactFilterSignal', WHERE WHAT IT READS IS OF BULK AT MOST 1048576: true; the input reads as it did. -/
def fnExactFilterSignalUptoRow : OpenClaim := { program := "ytgkjncgaecfbgab", sum := "31135b9233e6b805c960a395e3e6bab36bf2c2437ee95aad5d210808f6a7226a", func := "loop.example/g01198/laws.FnExactFilterSignal", spec := "fnExactFilterSignal", unfollowed := true, recurses := true, apart := false, narrowed := true }
def FnExactFilterSignalUptoSaid : Prop := fnExactFilterSignalUptoRow.holds Try.pinned (OpenSpec.upto fnExactFilterSignalSpec)

/-- 'laws.FnExactFilterShort', WHERE WHAT IT READS IS OF BULK AT MOST 1048576: true; the input reads as it did. -/
def fnExactFilterShortUptoRow : OpenClaim := { program := "ytgkjncgaecfbgab", sum := "31135b9233e6b805c960a395e3e6bab36bf2c2437ee95aad5d210808f6a7226a", func := "loop.example/g01198/laws.FnExactFilterShort", spec := "fnExactFilterShort", unfollowed := true, recurses := true, apart := false, narrowed := true }
def FnExactFilterShortUptoSaid : Prop := fnExactFilterShortUptoRow.holds Try.pinned (OpenSpec.upto fnExactFilterShortSpec)

/-- 'laws.FnExactTimesWeights', WHERE WHAT IT READS IS OF BULK AT MOST 1048576: true; the input reads as it did. -/
def fnExactTimesWeightsUptoRow : OpenClaim := { program := "ytgkjncgaecfbgab", sum := "31135b9233e6b805c960a395e3e6bab36bf2c2437ee95aad5d210808f6a7226a", func := "loop.example/g01198/laws.FnExactTimesWeights", spec := "fnExactTimesWeights", unfollowed := true, recurses := true, apart := false, narrowed := true }
def FnExactTimesWeightsUptoSaid : Prop := fnExactTimesWeightsUptoRow.holds Try.pinned (OpenSpec.upto fnExactTimesWeightsSpec)

/-- 'laws.FnExactPowerWeights', WHERE WHAT IT READS IS OF BULK AT MOST 1048576: true; the input reads as it did. -/
def fnExactPowerWeightsUptoRow : OpenClaim := { program := "ytgkjncgaecfbgab", sum := "31135b9233e6b805c960a395e3e6bab36bf2c2437ee95aad5d210808f6a7226a", func := "loop.example/g01198/laws.FnExactPowerWeights", spec := "fnExactPowerWeights", unfollowed := true, recurses := true, apart := false, narrowed := true }
def FnExactPowerWeightsUptoSaid : Prop := fnExactPowerWeightsUptoRow.holds Try.pinned (OpenSpec.upto fnExactPowerWeightsSpec)

/-- 'laws.FnExactDivideWeights', WHERE WHAT IT READS IS OF BULK AT MOST 1048576: true; the input reads as it did. -/
def fnExactDivideWeightsUptoRow : OpenClaim := { program := "ytgkjncgaecfbgab", sum := "31135b9233e6b805c960a395e3e6bab36bf2c2437ee95aad5d210808f6a7226a", func := "loop.example/g01198/laws.FnExactDivideWeights", spec := "fnExactDivideWeights", unfollowed := true, recurses := true, apart := false, narrowed := true }
def FnExactDivideWeightsUptoSaid : Prop := fnExactDivideWeightsUptoRow.holds Try.pinned (OpenSpec.upto fnExactDivideWeightsSpec)

/-- 'laws.FnExactInverseAnswer', WHERE WHAT IT READS IS OF BULK AT MOST 1048576: true; the input reads as it did. -/
def fnExactInverseAnswerUptoRow : OpenClaim := { program := "ytgkjncgaecfbgab", sum := "31135b9233e6b805c960a395e3e6bab36bf2c2437ee95aad5d210808f6a7226a", func := "loop.example/g01198/laws.FnExactInverseAnswer", spec := "fnExactInverseAnswer", unfollowed := true, recurses := true, apart := false, narrowed := true }
def FnExactInverseAnswerUptoSaid : Prop := fnExactInverseAnswerUptoRow.holds Try.pinned (OpenSpec.upto fnExactInverseAnswerSpec)

/-- 'laws.FnExactSpreadWeights', WHERE WHAT IT READS IS OF BULK AT MOST 1048576: true; the input reads as it did. -/
def fnExactSpreadWeightsUptoRow : OpenClaim := { program := "ytgkjncgaecfbgab", sum := "31135b9233e6b805c960a395e3e6bab36bf2c2437ee95aad5d210808f6a7226a", func := "loop.example/g01198/laws.FnExactSpreadWeights", spec := "fnExactSpreadWeights", apart := false, narrowed := true }
def FnExactSpreadWeightsUptoSaid : Prop := fnExactSpreadWeightsUptoRow.holds Try.pinned (OpenSpec.upto fnExactSpreadWeightsSpec)

end Rows
end Go.Proofs.Ytgkjncgaecfbgab
