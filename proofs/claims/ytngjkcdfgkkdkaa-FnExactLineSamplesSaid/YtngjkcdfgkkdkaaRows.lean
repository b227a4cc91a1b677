/-
  No cell of these rows narrows 'for every input' (looked for: loops, veiled, ifaces, maps, wideKeys, modest, calm, conditions, laid).
  DERIVED. THE GIVEN ROWS OF THIS SEAT. 5 by the template 'for every input the law returns true; each argument reads behind the call as it read before'; 0 by the template 'total and deterministic' (their statements: YtngjkcdfgkkdkaaTotals.lean).
  GIVEN WITH THE SEED: the statements are not yours to turn. If you find one false, say at which input.
  Laid BY PROGRAM, IN A SANDBOX (cutbox-rows.mjs): the forced cells as the released guide's own fill.sh prints them over the translation 597dd2c0c0db02b9… (all of the seat's roots in one cut). By AI agents, Wed Nov 11 2026. No macro, syntax, notation, axiom, sorry.
-/
import Derived.Test.YtngjkcdfgkkdkaaChecked
import GoSem.Claim
import GoSem.ClaimJoined
import GoSem.ClaimMapViews
import Derived.JoinedTies
import Derived.KernelRfl
namespace Go.Proofs.Ytngjkcdfgkkdkaa
/- THE CELL 'sum', in the pinned program and in every row, IS THE sha256 OF THE DUMP (.gsa) THAT YtngjkcdfgkkdkaaProg.lean LOADS. Nothing in Lean hashes anything: it is a label: what it is worth is what the hold of that sum in a sandbox is worth. -/
noncomputable def Try.pinned : Pinned := { name := "ytngjkcdfgkkdkaa", sum := "597dd2c0c0db02b954608af02a0c70e0e3b6c3e4b5270b9a2fa83084ba8496c6", checked := Try.checked }
namespace Rows
def none {H : Type} : Left H := { results := [], args := [] }

/-- 'laws.FnExactHoldSamples': WHATEVER THE INPUT: true; the input reads as it did. -/
def fnExactHoldSamplesSpec : ChangeSpec := { name := "fnExactHoldSamples", fn := fun _ => fun
  | [d1, d2, d3] => { results := [.lit (.bool true)], args := [d1, d2, d3] }
  | _ => none }
def fnExactHoldSamplesRow : OpenClaim := { program := "ytngjkcdfgkkdkaa", sum := "597dd2c0c0db02b954608af02a0c70e0e3b6c3e4b5270b9a2fa83084ba8496c6", func := "loop.example/g01198/laws.FnExactHoldSamples", spec := "fnExactHoldSamples", unfollowed := true, recurses := true, apart := false }
def FnExactHoldSamplesSaid : Prop := fnExactHoldSamplesRow.holds Try.pinned (OpenSpec.ofChange fnExactHoldSamplesSpec)

/-- ITS FALSE NEIGHBOUR: 'it returns false'. Refute it at one input. -/
def fnExactHoldSamplesWrong : ChangeSpec := { name := "fnExactHoldSamples", fn := fun _ => fun
  | [d1, d2, d3] => { results := [.lit (.bool false)], args := [d1, d2, d3] }
  | _ => none }
def FnExactHoldSamplesWrongFalsely : Prop := fnExactHoldSamplesRow.holds Try.pinned (OpenSpec.ofChange fnExactHoldSamplesWrong)

/-- 'laws.FnExactNearSamples': WHATEVER THE INPUT: true; the input reads as it did. -/
def fnExactNearSamplesSpec : ChangeSpec := { name := "fnExactNearSamples", fn := fun _ => fun
  | [d1, d2, d3] => { results := [.lit (.bool true)], args := [d1, d2, d3] }
  | _ => none }
def fnExactNearSamplesRow : OpenClaim := { program := "ytngjkcdfgkkdkaa", sum := "597dd2c0c0db02b954608af02a0c70e0e3b6c3e4b5270b9a2fa83084ba8496c6", func := "loop.example/g01198/laws.FnExactNearSamples", spec := "fnExactNearSamples", unfollowed := true, recurses := true, apart := false }
def FnExactNearSamplesSaid : Prop := fnExactNearSamplesRow.holds Try.pinned (OpenSpec.ofChange fnExactNearSamplesSpec)

/-- ITS FALSE NEIGHBOUR: 'it returns false'. Refute it at one input. -/
def fnExactNearSamplesWrong : ChangeSpec := { name := "fnExactNearSamples", fn := fun _ => fun
  | [d1, d2, d3] => { results := [.lit (.bool false)], args := [d1, d2, d3] }
  | _ => none }
def FnExactNearSamplesWrongFalsely : Prop := fnExactNearSamplesRow.holds Try.pinned (OpenSpec.ofChange fnExactNearSamplesWrong)

/-- 'laws.FnExactLineSamples': WHATEVER THE INPUT: true; the input reads as it did. -/
def fnExactLineSamplesSpec : ChangeSpec := { name := "fnExactLineSamples", fn := fun _ => fun
  | [d1, d2, d3] => { results := [.lit (.bool true)], args := [d1, d2, d3] }
  | _ => none }
def fnExactLineSamplesRow : OpenClaim := { program := "ytngjkcdfgkkdkaa", sum := "597dd2c0c0db02b954608af02a0c70e0e3b6c3e4b5270b9a2fa83084ba8496c6", func := "loop.example/g01198/laws.FnExactLineSamples", spec := "fnExactLineSamples", unfollowed := true, recurses := true, apart := false }
def FnExactLineSamplesSaid : Prop := fnExactLineSamplesRow.holds Try.pinned (OpenSpec.ofChange fnExactLineSamplesSpec)

/-- ITS FALSE NEIGHBOUR: 'it returns false'. Refute it at one input. -/
def fnExactLineSamplesWrong : ChangeSpec := { name := "fnExactLineSamples", fn := fun _ => fun
  | [d1, d2, d3] => { results := [.lit (.bool false)], args := [d1, d2, d3] }
  | _ => none }
def FnExactLineSamplesWrongFalsely : Prop := fnExactLineSamplesRow.holds Try.pinned (OpenSpec.ofChange fnExactLineSamplesWrong)

/-- 'laws.FnExactLinesOfSame': WHATEVER THE INPUT: true; the input reads as it did. -/
def fnExactLinesOfSameSpec : ChangeSpec := { name := "fnExactLinesOfSame", fn := fun _ => fun
  | [d1, d2] => { results := [.lit (.bool true)], args := [d1, d2] }
  | _ => none }
def fnExactLinesOfSameRow : OpenClaim := { program := "ytngjkcdfgkkdkaa", sum := "597dd2c0c0db02b954608af02a0c70e0e3b6c3e4b5270b9a2fa83084ba8496c6", func := "loop.example/g01198/laws.FnExactLinesOfSame", spec := "fnExactLinesOfSame", unfollowed := true, recurses := true, apart := false }
def FnExactLinesOfSameSaid : Prop := fnExactLinesOfSameRow.holds Try.pinned (OpenSpec.ofChange fnExactLinesOfSameSpec)

/-- ITS FALSE NEIGHBOUR: 'it returns false'. Refute it at one input. -/
def fnExactLinesOfSameWrong : ChangeSpec := { name := "fnExactLinesOfSame", fn := fun _ => fun
  | [d1, d2] => { results := [.lit (.bool false)], args := [d1, d2] }
  | _ => none }
def FnExactLinesOfSameWrongFalsely : Prop := fnExactLinesOfSameRow.holds Try.pinned (OpenSpec.ofChange fnExactLinesOfSameWrong)

/-- 'laws.FnExactJoinPhases': WHATEVER THE INPUT: true; the input reads as it did. -/
def fnExactJoinPhasesSpec : ChangeSpec := { name := "fnExactJoinPhases", fn := fun _ => fun
  | [d] => { results := [.lit (.bool true)], args := [d] }
  | _ => none }
def fnExactJoinPhasesRow : OpenClaim := { program := "ytngjkcdfgkkdkaa", sum := "597dd2c0c0db02b954608af02a0c70e0e3b6c3e4b5270b9a2fa83084ba8496c6", func := "loop.example/g01198/laws.FnExactJoinPhases", spec := "fnExactJoinPhases", unfollowed := true, recurses := true, apart := false }
def FnExactJoinPhasesSaid : Prop := fnExactJoinPhasesRow.holds Try.pinned (OpenSpec.ofChange fnExactJoinPhasesSpec)

/-- ITS FALSE NEIGHBOUR: 'it returns false'. Refute it at one input. -/
def fnExactJoinPhasesWrong : ChangeSpec := { name := "fnExactJoinPhases", fn := fun _ => fun
  | [d] => { results := [.lit (.bool false)], args := [d] }
  | _ => none }
def FnExactJoinPhasesWrongFalsely : Prop := fnExactJoinPhasesRow.holds Try.pinned (OpenSpec.ofChange fnExactJoinPhasesWrong)

/- THE SECOND FORM. 'bulk': how many values and letters a reading holds, each counted each time it is reached (what is shared counts as often as it is met; a slice's spare places count too). A statement '..UptoSaid' is the law's where the arguments, and the package variables that the reading takes, are together of bulk at most 1048576: NARROWER than '..Said'. Prove '..Said' where nothing that the law and all that it calls make is longer than what came in: it says more and counts as full. Else prove '..UptoSaid'. A law counts once. -/
mutual
def uptoBulk {H : Type} : DataW H → Nat
  | .lit (.string bytes) => bytes.length + 1
  | .lit _ => 1
  | .nil => 1
  | .ptr d => uptoBulk d + 1
  | .slice elems spare => uptoBulkAll elems + uptoBulkAll spare + 1
  | .agg parts => uptoBulkAll parts + 1
  | .iface _ d => uptoBulk d + 1
  | .map entries => uptoBulkEntries entries + 1
  | .held _ => 1
def uptoBulkAll {H : Type} : List (DataW H) → Nat
  | [] => 0
  | d :: r => uptoBulk d + uptoBulkAll r
def uptoBulkEntries {H : Type} : List (Lit × DataW H) → Nat
  | [] => 0
  | x :: r => uptoBulkEntry x + uptoBulkEntries r
def uptoBulkEntry {H : Type} : Lit × DataW H → Nat
  | (.string bytes, d) => bytes.length + uptoBulk d + 1
  | (_, d) => uptoBulk d + 1
 end
def uptoSmall : (H : Type) → List (DataW H) → Bool := fun _ ds => decide (uptoBulkAll ds ≤ 1048576)
def OpenSpec.upto (s : _root_.Go.ChangeSpec) : _root_.Go.OpenSpec := { _root_.Go.OpenSpec.ofChange s with cond := some uptoSmall }

/-- 'laws.FnExactHoldSamples', WHERE WHAT IT READS IS OF BULK AT MOST 1048576: true; the input reads as it did. -/
def fnExactHoldSamplesUptoRow : OpenClaim := { program := "ytngjkcdfgkkdkaa", sum := "597dd2c0c0db02b954608af02a0c70e0e3b6c3e4b5270b9a2fa83084ba8496c6", func := "loop.example/g01198/laws.FnExactHoldSamples", spec := "fnExactHoldSamples", unfollowed := true, recurses := true, apart := false, narrowed := true }
def FnExactHoldSamplesUptoSaid : Prop := fnExactHoldSamplesUptoRow.holds Try.pinned (OpenSpec.upto fnExactHoldSamplesSpec)

/-- 'laws.FnExactNearSamples', WHERE WHAT IT READS IS OF BULK AT MOST 1048576: true; the input reads as it did. -/
def fnExactNearSamplesUptoRow : OpenClaim := { program := "ytngjkcdfgkkdkaa", sum := "597dd2c0c0db02b954608af02a0c70e0e3b6c3e4b5270b9a2fa83084ba8496c6", func := "loop.example/g01198/laws.FnExactNearSamples", spec := "fnExactNearSamples", unfollowed := true, recurses := true, apart := false, narrowed := true }
def FnExactNearSamplesUptoSaid : Prop := fnExactNearSamplesUptoRow.holds Try.pinned (OpenSpec.upto fnExactNearSamplesSpec)

/-- 'laws.FnExactLineSamples', WHERE WHAT IT READS IS OF BULK AT MOST 1048576: true; the input reads as it did. -/
def fnExactLineSamplesUptoRow : OpenClaim := { program := "ytngjkcdfgkkdkaa", sum := "597dd2c0c0db02b954608af02a0c70e0e3b6c3e4b5270b9a2fa83084ba8496c6", func := "loop.example/g01198/laws.FnExactLineSamples", spec := "fnExactLineSamples", unfollowed := true, recurses := true, apart := false, narrowed := true }
def FnExactLineSamplesUptoSaid : Prop := fnExactLineSamplesUptoRow.holds Try.pinned (OpenSpec.upto fnExactLineSamplesSpec)

/-- 'laws.FnExactLinesOfSame', WHERE WHAT IT READS IS OF BULK AT MOST 1048576: true; the input reads as it did. -/
def fnExactLinesOfSameUptoRow : OpenClaim := { program := "ytngjkcdfgkkdkaa", sum := "597dd2c0c0db02b954608af02a0c70e0e3b6c3e4b5270b9a2fa83084ba8496c6", func := "loop.example/g01198/laws.FnExactLinesOfSame", spec := "fnExactLinesOfSame", unfollowed := true, recurses := true, apart := false, narrowed := true }
def FnExactLinesOfSameUptoSaid : Prop := fnExactLinesOfSameUptoRow.holds Try.pinned (OpenSpec.upto fnExactLinesOfSameSpec)

/-- 'laws.FnExactJoinPhases', WHERE WHAT IT READS IS OF BULK AT MOST 1048576: true; the input reads as it did. -/
def fnExactJoinPhasesUptoRow : OpenClaim := { program := "ytngjkcdfgkkdkaa", sum := "597dd2c0c0db02b954608af02a0c70e0e3b6c3e4b5270b9a2fa83084ba8496c6", func := "loop.example/g01198/laws.FnExactJoinPhases", spec := "fnExactJoinPhases", unfollowed := true, recurses := true, apart := false, narrowed := true }
def FnExactJoinPhasesUptoSaid : Prop := fnExactJoinPhasesUptoRow.holds Try.pinned (OpenSpec.upto fnExactJoinPhasesSpec)

end Rows
end Go.Proofs.Ytngjkcdfgkkdkaa
