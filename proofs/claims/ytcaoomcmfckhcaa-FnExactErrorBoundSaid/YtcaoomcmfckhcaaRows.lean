/-
  No cell of these rows narrows 'for every input' (looked for: loops, veiled, ifaces, maps, wideKeys, modest, calm, conditions, laid).
  DERIVED. THE GIVEN ROWS OF THIS SEAT. 7 by the template 'for every input the law returns true; each argument reads behind the call as it read before'; 0 by the template 'total and deterministic' (their statements: YtcaoomcmfckhcaaTotals.lean).
  GIVEN WITH THE SEED: the statements are not yours to turn. If you find one false, say at which input.
  Laid BY PROGRAM, IN A SANDBOX (cutbox-rows.mjs): the forced cells as the released guide's own fill.sh prints them over the translation 3b40b4bb03ff5528… (all of the seat's roots in one cut). By AI agents, Wed Nov 11 2026. No macro, syntax, notation, axiom, sorry.
-/
import Derived.Test.YtcaoomcmfckhcaaChecked
import GoSem.Claim
import GoSem.ClaimJoined
import GoSem.ClaimMapViews
import Derived.JoinedTies
import Derived.KernelRfl
namespace Go.Proofs.Ytcaoomcmfckhcaa
/- THE CELL 'sum', in the pinned program and in every row, IS THE sha256 OF THE DUMP (.gsa) THAT YtcaoomcmfckhcaaProg.lean LOADS. Nothing in Lean hashes anything: it is a label: what it is worth is what the hold of that sum in a sandbox is worth. -/
noncomputable def Try.pinned : Pinned := { name := "ytcaoomcmfckhcaa", sum := "3b40b4bb03ff552819d4bb7d6dfd0d3b406dca4723dd49aaa5be4bf8d07b80bf", checked := Try.checked }
namespace Rows
def none {H : Type} : Left H := { results := [], args := [] }

/-- 'laws.FnExactIsFirst': WHATEVER THE INPUT: true; the input reads as it did. -/
def fnExactIsFirstSpec : ChangeSpec := { name := "fnExactIsFirst", fn := fun _ => fun
  | [d] => { results := [.lit (.bool true)], args := [d] }
  | _ => none }
def fnExactIsFirstRow : OpenClaim := { program := "ytcaoomcmfckhcaa", sum := "3b40b4bb03ff552819d4bb7d6dfd0d3b406dca4723dd49aaa5be4bf8d07b80bf", func := "loop.example/g01198/laws.FnExactIsFirst", spec := "fnExactIsFirst", apart := false }
def FnExactIsFirstSaid : Prop := fnExactIsFirstRow.holds Try.pinned (OpenSpec.ofChange fnExactIsFirstSpec)

/-- ITS FALSE NEIGHBOUR: 'it returns false'. Refute it at one input. -/
def fnExactIsFirstWrong : ChangeSpec := { name := "fnExactIsFirst", fn := fun _ => fun
  | [d] => { results := [.lit (.bool false)], args := [d] }
  | _ => none }
def FnExactIsFirstWrongFalsely : Prop := fnExactIsFirstRow.holds Try.pinned (OpenSpec.ofChange fnExactIsFirstWrong)

/-- 'laws.FnExactIsShrinking': WHATEVER THE INPUT: true; the input reads as it did. -/
def fnExactIsShrinkingSpec : ChangeSpec := { name := "fnExactIsShrinking", fn := fun _ => fun
  | [d] => { results := [.lit (.bool true)], args := [d] }
  | _ => none }
def fnExactIsShrinkingRow : OpenClaim := { program := "ytcaoomcmfckhcaa", sum := "3b40b4bb03ff552819d4bb7d6dfd0d3b406dca4723dd49aaa5be4bf8d07b80bf", func := "loop.example/g01198/laws.FnExactIsShrinking", spec := "fnExactIsShrinking", apart := false }
def FnExactIsShrinkingSaid : Prop := fnExactIsShrinkingRow.holds Try.pinned (OpenSpec.ofChange fnExactIsShrinkingSpec)

/-- ITS FALSE NEIGHBOUR: 'it returns false'. Refute it at one input. -/
def fnExactIsShrinkingWrong : ChangeSpec := { name := "fnExactIsShrinking", fn := fun _ => fun
  | [d] => { results := [.lit (.bool false)], args := [d] }
  | _ => none }
def FnExactIsShrinkingWrongFalsely : Prop := fnExactIsShrinkingRow.holds Try.pinned (OpenSpec.ofChange fnExactIsShrinkingWrong)

/-- 'laws.FnExactGainOfFirst': WHATEVER THE INPUT: true; the input reads as it did. -/
def fnExactGainOfFirstSpec : ChangeSpec := { name := "fnExactGainOfFirst", fn := fun _ => fun
  | [d] => { results := [.lit (.bool true)], args := [d] }
  | _ => none }
def fnExactGainOfFirstRow : OpenClaim := { program := "ytcaoomcmfckhcaa", sum := "3b40b4bb03ff552819d4bb7d6dfd0d3b406dca4723dd49aaa5be4bf8d07b80bf", func := "loop.example/g01198/laws.FnExactGainOfFirst", spec := "fnExactGainOfFirst", apart := false }
def FnExactGainOfFirstSaid : Prop := fnExactGainOfFirstRow.holds Try.pinned (OpenSpec.ofChange fnExactGainOfFirstSpec)

/-- ITS FALSE NEIGHBOUR: 'it returns false'. Refute it at one input. -/
def fnExactGainOfFirstWrong : ChangeSpec := { name := "fnExactGainOfFirst", fn := fun _ => fun
  | [d] => { results := [.lit (.bool false)], args := [d] }
  | _ => none }
def FnExactGainOfFirstWrongFalsely : Prop := fnExactGainOfFirstRow.holds Try.pinned (OpenSpec.ofChange fnExactGainOfFirstWrong)

/-- 'laws.FnExactErrorBound': WHATEVER THE INPUT: true; the input reads as it did. -/
def fnExactErrorBoundSpec : ChangeSpec := { name := "fnExactErrorBound", fn := fun _ => fun
  | [d] => { results := [.lit (.bool true)], args := [d] }
  | _ => none }
def fnExactErrorBoundRow : OpenClaim := { program := "ytcaoomcmfckhcaa", sum := "3b40b4bb03ff552819d4bb7d6dfd0d3b406dca4723dd49aaa5be4bf8d07b80bf", func := "loop.example/g01198/laws.FnExactErrorBound", spec := "fnExactErrorBound", apart := false }
def FnExactErrorBoundSaid : Prop := fnExactErrorBoundRow.holds Try.pinned (OpenSpec.ofChange fnExactErrorBoundSpec)

/-- ITS FALSE NEIGHBOUR: 'it returns false'. Refute it at one input. -/
def fnExactErrorBoundWrong : ChangeSpec := { name := "fnExactErrorBound", fn := fun _ => fun
  | [d] => { results := [.lit (.bool false)], args := [d] }
  | _ => none }
def FnExactErrorBoundWrongFalsely : Prop := fnExactErrorBoundRow.holds Try.pinned (OpenSpec.ofChange fnExactErrorBoundWrong)

/-- 'laws.FnExactFirstStep': WHATEVER THE INPUT: true; the input reads as it did. -/
def fnExactFirstStepSpec : ChangeSpec := { name := "fnExactFirstStep", fn := fun _ => fun
  | [d1, d2, d3] => { results := [.lit (.bool true)], args := [d1, d2, d3] }
  | _ => none }
def fnExactFirstStepRow : OpenClaim := { program := "ytcaoomcmfckhcaa", sum := "3b40b4bb03ff552819d4bb7d6dfd0d3b406dca4723dd49aaa5be4bf8d07b80bf", func := "loop.example/g01198/laws.FnExactFirstStep", spec := "fnExactFirstStep", unfollowed := true, recurses := true, apart := false }
def FnExactFirstStepSaid : Prop := fnExactFirstStepRow.holds Try.pinned (OpenSpec.ofChange fnExactFirstStepSpec)

/-- ITS FALSE NEIGHBOUR: 'it returns false'. Refute it at one input. -/
def fnExactFirstStepWrong : ChangeSpec := { name := "fnExactFirstStep", fn := fun _ => fun
  | [d1, d2, d3] => { results := [.lit (.bool false)], args := [d1, d2, d3] }
  | _ => none }
def FnExactFirstStepWrongFalsely : Prop := fnExactFirstStepRow.holds Try.pinned (OpenSpec.ofChange fnExactFirstStepWrong)

/-- 'laws.FnExactExactFirst': WHATEVER THE INPUT: true; the input reads as it did. -/
def fnExactExactFirstSpec : ChangeSpec := { name := "fnExactExactFirst", fn := fun _ => fun
  | [d1, d2, d3] => { results := [.lit (.bool true)], args := [d1, d2, d3] }
  | _ => none }
def fnExactExactFirstRow : OpenClaim := { program := "ytcaoomcmfckhcaa", sum := "3b40b4bb03ff552819d4bb7d6dfd0d3b406dca4723dd49aaa5be4bf8d07b80bf", func := "loop.example/g01198/laws.FnExactExactFirst", spec := "fnExactExactFirst", apart := false }
def FnExactExactFirstSaid : Prop := fnExactExactFirstRow.holds Try.pinned (OpenSpec.ofChange fnExactExactFirstSpec)

/-- ITS FALSE NEIGHBOUR: 'it returns false'. Refute it at one input. -/
def fnExactExactFirstWrong : ChangeSpec := { name := "fnExactExactFirst", fn := fun _ => fun
  | [d1, d2, d3] => { results := [.lit (.bool false)], args := [d1, d2, d3] }
  | _ => none }
def FnExactExactFirstWrongFalsely : Prop := fnExactExactFirstRow.holds Try.pinned (OpenSpec.ofChange fnExactExactFirstWrong)

/-- 'laws.FnExactCountFits': WHATEVER THE INPUT: true; the input reads as it did. -/
def fnExactCountFitsSpec : ChangeSpec := { name := "fnExactCountFits", fn := fun _ => fun
  | [d1, d2, d3] => { results := [.lit (.bool true)], args := [d1, d2, d3] }
  | _ => none }
def fnExactCountFitsRow : OpenClaim := { program := "ytcaoomcmfckhcaa", sum := "3b40b4bb03ff552819d4bb7d6dfd0d3b406dca4723dd49aaa5be4bf8d07b80bf", func := "loop.example/g01198/laws.FnExactCountFits", spec := "fnExactCountFits", unfollowed := true, recurses := true, apart := false }
def FnExactCountFitsSaid : Prop := fnExactCountFitsRow.holds Try.pinned (OpenSpec.ofChange fnExactCountFitsSpec)

/-- ITS FALSE NEIGHBOUR: 'it returns false'. Refute it at one input. -/
def fnExactCountFitsWrong : ChangeSpec := { name := "fnExactCountFits", fn := fun _ => fun
  | [d1, d2, d3] => { results := [.lit (.bool false)], args := [d1, d2, d3] }
  | _ => none }
def FnExactCountFitsWrongFalsely : Prop := fnExactCountFitsRow.holds Try.pinned (OpenSpec.ofChange fnExactCountFitsWrong)

/- THE SECOND FORM. 'bulk': how many values and letters a reading holds, each counted each time it is reached (what is shared counts as often as it is met; a slice's spare places count too). A statement '..UptoSaid' is the law's where the arguments, and the package variables that the reading takes, are together of bulk at most 1048576: NARROWER than '..Said'. Prove '..Said' where nothing that the law and all that it calls make is longer than what came in: it says more and counts as full. Else prove '..UptoSaid'. A law counts once. -/
mutual
def uptoBulk {H : Type} : DataW H → Nat
  | .lit (.string bytes) => bytes.length + 1
  | .lit _ => 1
  | .nil => 1
  | .ptr d => uptoBulk d + 1
  | .slice elems spare => uptoBulkAll elems + uptoBulkAll spare + 1
  | .agg parts => uptoBulkAll parts + 1
  | .iface _ d => uptoBulk d + 1
  | .map entries => uptoBulkEntries entries + 1
  | .held _ => 1
def uptoBulkAll {H : Type} : List (DataW H) → Nat
  | [] => 0
  | d :: r => uptoBulk d + uptoBulkAll r
def uptoBulkEntries {H : Type} : List (Lit × DataW H) → Nat
  | [] => 0
  | x :: r => uptoBulkEntry x + uptoBulkEntries r
def uptoBulkEntry {H : Type} : Lit × DataW H → Nat
  | (.string bytes, d) => bytes.length + uptoBulk d + 1
  | (_, d) => uptoBulk d + 1
 end
def uptoSmall : (H : Type) → List (DataW H) → Bool := fun _ ds => decide (uptoBulkAll ds ≤ 1048576)
def OpenSpec.upto (s : _root_.Go.ChangeSpec) : _root_.Go.OpenSpec := { _root_.Go.OpenSpec.ofChange s with cond := some uptoSmall }

/-- 'laws.FnExactIsFirst', WHERE WHAT IT READS IS OF BULK AT MOST 1048576: true; the input reads as it did. -/
def fnExactIsFirstUptoRow : OpenClaim := { program := "ytcaoomcmfckhcaa", sum := "3b40b4bb03ff552819d4bb7d6dfd0d3b406dca4723dd49aaa5be4bf8d07b80bf", func := "loop.example/g01198/laws.FnExactIsFirst", spec := "fnExactIsFirst", apart := false, narrowed := true }
def FnExactIsFirstUptoSaid : Prop := fnExactIsFirstUptoRow.holds Try.pinned (OpenSpec.upto fnExactIsFirstSpec)

/-- 'laws.FnExactIsShrinking', WHERE WHAT IT READS IS OF BULK AT MOST 1048576: true; the input reads as it did. -/
def fnExactIsShrinkingUptoRow : OpenClaim := { program := "ytcaoomcmfckhcaa", sum := "3b40b4bb03ff552819d4bb7d6dfd0d3b406dca4723dd49aaa5be4bf8d07b80bf", func := "loop.example/g01198/laws.FnExactIsShrinking", spec := "fnExactIsShrinking", apart := false, narrowed := true }
def FnExactIsShrinkingUptoSaid : Prop := fnExactIsShrinkingUptoRow.holds Try.pinned (OpenSpec.upto fnExactIsShrinkingSpec)

/-- 'laws.FnExactGainOfFirst', WHERE WHAT IT READS IS OF BULK AT MOST 1048576: true; the input reads as it did. -/
def fnExactGainOfFirstUptoRow : OpenClaim := { program := "ytcaoomcmfckhcaa", sum := "3b40b4bb03ff552819d4bb7d6dfd0d3b406dca4723dd49aaa5be4bf8d07b80bf", func := "loop.example/g01198/laws.FnExactGainOfFirst", spec := "fnExactGainOfFirst", apart := false, narrowed := true }
def FnExactGainOfFirstUptoSaid : Prop := fnExactGainOfFirstUptoRow.holds Try.pinned (OpenSpec.upto fnExactGainOfFirstSpec)

/-- 'laws.FnExactErrorBound', WHERE WHAT IT READS IS OF BULK AT MOST 1048576: true; the input reads as it did. -/
def fnExactErrorBoundUptoRow : OpenClaim := { program := "ytcaoomcmfckhcaa", sum := "3b40b4bb03ff552819d4bb7d6dfd0d3b406dca4723dd49aaa5be4bf8d07b80bf", func := "loop.example/g01198/laws.FnExactErrorBound", spec := "fnExactErrorBound", apart := false, narrowed := true }
def FnExactErrorBoundUptoSaid : Prop := fnExactErrorBoundUptoRow.holds Try.pinned (OpenSpec.upto fnExactErrorBoundSpec)

/-- 'laws.FnExactFirstStep', WHERE WHAT IT READS IS OF BULK AT MOST 1048576: true; the input reads as it did. -/
def fnExactFirstStepUptoRow : OpenClaim := { program := "ytcaoomcmfckhcaa", sum := "3b40b4bb03ff552819d4bb7d6dfd0d3b406dca4723dd49aaa5be4bf8d07b80bf", func := "loop.example/g01198/laws.FnExactFirstStep", spec := "fnExactFirstStep", unfollowed := true, recurses := true, apart := false, narrowed := true }
def FnExactFirstStepUptoSaid : Prop := fnExactFirstStepUptoRow.holds Try.pinned (OpenSpec.upto fnExactFirstStepSpec)

/-- 'laws.FnExactExactFirst', WHERE WHAT IT READS IS OF BULK AT MOST 1048576: true; the input reads as it did. -/
def fnExactExactFirstUptoRow : OpenClaim := { program := "ytcaoomcmfckhcaa", sum := "3b40b4bb03ff552819d4bb7d6dfd0d3b406dca4723dd49aaa5be4bf8d07b80bf", func := "loop.example/g01198/laws.FnExactExactFirst", spec := "fnExactExactFirst", apart := false, narrowed := true }
def FnExactExactFirstUptoSaid : Prop := fnExactExactFirstUptoRow.holds Try.pinned (OpenSpec.upto fnExactExactFirstSpec)

/-- 'laws.FnExactCountFits', WHERE WHAT IT READS IS OF BULK AT MOST 1048576: true; the input reads as it did. -/
def fnExactCountFitsUptoRow : OpenClaim := { program := "ytcaoomcmfckhcaa", sum := "3b40b4bb03ff552819d4bb7d6dfd0d3b406dca4723dd49aaa5be4bf8d07b80bf", func := "loop.example/g01198/laws.FnExactCountFits", spec := "fnExactCountFits", unfollowed := true, recurses := true, apart := false, narrowed := true }
def FnExactCountFitsUptoSaid : Prop := fnExactCountFitsUptoRow.holds Try.pinned (OpenSpec.upto fnExactCountFitsSpec)

end Rows
end Go.Proofs.Ytcaoomcmfckhcaa
