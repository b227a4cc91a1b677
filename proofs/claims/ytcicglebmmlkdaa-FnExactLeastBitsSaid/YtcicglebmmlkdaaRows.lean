/-
  No cell of these rows narrows 'for every input' (looked for: loops, veiled, ifaces, maps, wideKeys, modest, calm, conditions, laid).
  DERIVED. THE GIVEN ROWS OF THIS SEAT. 6 by the template 'for every input the law returns true; each argument reads behind the call as it read before'; 0 by the template 'total and deterministic' (their statements: YtcicglebmmlkdaaTotals.lean).
  GIVEN WITH THE SEED: the statements are not yours to turn. If you find one false, say at which input.
  Laid BY PROGRAM, IN A SANDBOX (cutbox-rows.mjs): the forced cells as the released guide's own fill.sh prints them over the translation a71b8c8a1eef5bca… (all of the seat's roots in one cut). By AI agents, Wed Nov 11 2026. No macro, syntax, notation, axiom, sorry.
-/
import Derived.Test.YtcicglebmmlkdaaChecked
import GoSem.Claim
import GoSem.ClaimJoined
import GoSem.ClaimMapViews
import Derived.JoinedTies
import Derived.KernelRfl
namespace Go.Proofs.Ytcicglebmmlkdaa
/- THE CELL 'sum', in the pinned program and in every row, IS THE sha256 OF THE DUMP (.gsa) THAT YtcicglebmmlkdaaProg.lean LOADS. Nothing in Lean hashes anything: it is a label: what it is worth is what the hold of that sum in a sandbox is worth. -/
noncomputable def Try.pinned : Pinned := { name := "ytcicglebmmlkdaa", sum := "a71b8c8a1eef5bca448a34c583233f36dc745485b7bcf6e66c82f32b84b6dab4", checked := Try.checked }
namespace Rows
def none {H : Type} : Left H := { results := [], args := [] }

/-- 'laws.FnExactWrappedSums': WHATEVER THE INPUT: true; the input reads as it did. -/
def fnExactWrappedSumsSpec : ChangeSpec := { name := "fnExactWrappedSums", fn := fun _ => fun
  | [d1, d2, d3] => { results := [.lit (.bool true)], args := [d1, d2, d3] }
  | _ => none }
def fnExactWrappedSumsRow : OpenClaim := { program := "ytcicglebmmlkdaa", sum := "a71b8c8a1eef5bca448a34c583233f36dc745485b7bcf6e66c82f32b84b6dab4", func := "loop.example/g01198/laws.FnExactWrappedSums", spec := "fnExactWrappedSums", apart := false }
def FnExactWrappedSumsSaid : Prop := fnExactWrappedSumsRow.holds Try.pinned (OpenSpec.ofChange fnExactWrappedSumsSpec)

/-- ITS FALSE NEIGHBOUR: 'it returns false'. Refute it at one input. -/
def fnExactWrappedSumsWrong : ChangeSpec := { name := "fnExactWrappedSums", fn := fun _ => fun
  | [d1, d2, d3] => { results := [.lit (.bool false)], args := [d1, d2, d3] }
  | _ => none }
def FnExactWrappedSumsWrongFalsely : Prop := fnExactWrappedSumsRow.holds Try.pinned (OpenSpec.ofChange fnExactWrappedSumsWrong)

/-- 'laws.FnExactWrappedCombs': WHATEVER THE INPUT: true; the input reads as it did. -/
def fnExactWrappedCombsSpec : ChangeSpec := { name := "fnExactWrappedCombs", fn := fun _ => fun
  | [d1, d2, d3] => { results := [.lit (.bool true)], args := [d1, d2, d3] }
  | _ => none }
def fnExactWrappedCombsRow : OpenClaim := { program := "ytcicglebmmlkdaa", sum := "a71b8c8a1eef5bca448a34c583233f36dc745485b7bcf6e66c82f32b84b6dab4", func := "loop.example/g01198/laws.FnExactWrappedCombs", spec := "fnExactWrappedCombs", apart := false }
def FnExactWrappedCombsSaid : Prop := fnExactWrappedCombsRow.holds Try.pinned (OpenSpec.ofChange fnExactWrappedCombsSpec)

/-- ITS FALSE NEIGHBOUR: 'it returns false'. Refute it at one input. -/
def fnExactWrappedCombsWrong : ChangeSpec := { name := "fnExactWrappedCombs", fn := fun _ => fun
  | [d1, d2, d3] => { results := [.lit (.bool false)], args := [d1, d2, d3] }
  | _ => none }
def FnExactWrappedCombsWrongFalsely : Prop := fnExactWrappedCombsRow.holds Try.pinned (OpenSpec.ofChange fnExactWrappedCombsWrong)

/-- 'laws.FnExactCountWraps': WHATEVER THE INPUT: true; the input reads as it did. -/
def fnExactCountWrapsSpec : ChangeSpec := { name := "fnExactCountWraps", fn := fun _ => fun
  | [d1, d2, d3] => { results := [.lit (.bool true)], args := [d1, d2, d3] }
  | _ => none }
def fnExactCountWrapsRow : OpenClaim := { program := "ytcicglebmmlkdaa", sum := "a71b8c8a1eef5bca448a34c583233f36dc745485b7bcf6e66c82f32b84b6dab4", func := "loop.example/g01198/laws.FnExactCountWraps", spec := "fnExactCountWraps", apart := false }
def FnExactCountWrapsSaid : Prop := fnExactCountWrapsRow.holds Try.pinned (OpenSpec.ofChange fnExactCountWrapsSpec)

/-- ITS FALSE NEIGHBOUR: 'it returns false'. Refute it at one input. -/
def fnExactCountWrapsWrong : ChangeSpec := { name := "fnExactCountWraps", fn := fun _ => fun
  | [d1, d2, d3] => { results := [.lit (.bool false)], args := [d1, d2, d3] }
  | _ => none }
def FnExactCountWrapsWrongFalsely : Prop := fnExactCountWrapsRow.holds Try.pinned (OpenSpec.ofChange fnExactCountWrapsWrong)

/-- 'laws.FnExactWrappedComb': WHATEVER THE INPUT: true; the input reads as it did. -/
def fnExactWrappedCombSpec : ChangeSpec := { name := "fnExactWrappedComb", fn := fun _ => fun
  | [d1, d2, d3, d4] => { results := [.lit (.bool true)], args := [d1, d2, d3, d4] }
  | _ => none }
def fnExactWrappedCombRow : OpenClaim := { program := "ytcicglebmmlkdaa", sum := "a71b8c8a1eef5bca448a34c583233f36dc745485b7bcf6e66c82f32b84b6dab4", func := "loop.example/g01198/laws.FnExactWrappedComb", spec := "fnExactWrappedComb", apart := false }
def FnExactWrappedCombSaid : Prop := fnExactWrappedCombRow.holds Try.pinned (OpenSpec.ofChange fnExactWrappedCombSpec)

/-- ITS FALSE NEIGHBOUR: 'it returns false'. Refute it at one input. -/
def fnExactWrappedCombWrong : ChangeSpec := { name := "fnExactWrappedComb", fn := fun _ => fun
  | [d1, d2, d3, d4] => { results := [.lit (.bool false)], args := [d1, d2, d3, d4] }
  | _ => none }
def FnExactWrappedCombWrongFalsely : Prop := fnExactWrappedCombRow.holds Try.pinned (OpenSpec.ofChange fnExactWrappedCombWrong)

/-- 'laws.FnExactWrappedRise': WHATEVER THE INPUT: true; the input reads as it did. -/
def fnExactWrappedRiseSpec : ChangeSpec := { name := "fnExactWrappedRise", fn := fun _ => fun
  | [d1, d2, d3, d4] => { results := [.lit (.bool true)], args := [d1, d2, d3, d4] }
  | _ => none }
def fnExactWrappedRiseRow : OpenClaim := { program := "ytcicglebmmlkdaa", sum := "a71b8c8a1eef5bca448a34c583233f36dc745485b7bcf6e66c82f32b84b6dab4", func := "loop.example/g01198/laws.FnExactWrappedRise", spec := "fnExactWrappedRise", apart := false }
def FnExactWrappedRiseSaid : Prop := fnExactWrappedRiseRow.holds Try.pinned (OpenSpec.ofChange fnExactWrappedRiseSpec)

/-- ITS FALSE NEIGHBOUR: 'it returns false'. Refute it at one input. -/
def fnExactWrappedRiseWrong : ChangeSpec := { name := "fnExactWrappedRise", fn := fun _ => fun
  | [d1, d2, d3, d4] => { results := [.lit (.bool false)], args := [d1, d2, d3, d4] }
  | _ => none }
def FnExactWrappedRiseWrongFalsely : Prop := fnExactWrappedRiseRow.holds Try.pinned (OpenSpec.ofChange fnExactWrappedRiseWrong)

/-- 'laws.FnExactLeastBits': WHATEVER THE INPUT: true; the input reads as it did. -/
def fnExactLeastBitsSpec : ChangeSpec := { name := "fnExactLeastBits", fn := fun _ => fun
  | [d1, d2, d3] => { results := [.lit (.bool true)], args := [d1, d2, d3] }
  | _ => none }
def fnExactLeastBitsRow : OpenClaim := { program := "ytcicglebmmlkdaa", sum := "a71b8c8a1eef5bca448a34c583233f36dc745485b7bcf6e66c82f32b84b6dab4", func := "loop.example/g01198/laws.FnExactLeastBits", spec := "fnExactLeastBits", unfollowed := true, recurses := true, apart := false }
def FnExactLeastBitsSaid : Prop := fnExactLeastBitsRow.holds Try.pinned (OpenSpec.ofChange fnExactLeastBitsSpec)

/-- ITS FALSE NEIGHBOUR: 'it returns false'. Refute it at one input. -/
def fnExactLeastBitsWrong : ChangeSpec := { name := "fnExactLeastBits", fn := fun _ => fun
  | [d1, d2, d3] => { results := [.lit (.bool false)], args := [d1, d2, d3] }
  | _ => none }
def FnExactLeastBitsWrongFalsely : Prop := fnExactLeastBitsRow.holds Try.pinned (OpenSpec.ofChange fnExactLeastBitsWrong)

/- THE SECOND FORM. 'bulk': how many values and letters a reading holds, each counted each time it is reached (what is shared counts as often as it is met; a slice's spare places count too). A statement '..UptoSaid' is the law's where the arguments, and the package variables that the reading takes, are together of bulk at most 1048576: NARROWER than '..Said'. Prove '..Said' where nothing that the law and all that it calls make is longer than what came in: it says more and counts as full. Else prove '..UptoSaid'. A law counts once. -/
mutual
def uptoBulk {H : Type} : DataW H → Nat
  | .lit (.string bytes) => bytes.length + 1
  | .lit _ => 1
  | .nil => 1
  | .ptr d => uptoBulk d + 1
  | .slice elems spare => uptoBulkAll elems + uptoBulkAll spare + 1
  | .agg parts => uptoBulkAll parts + 1
  | .iface _ d => uptoBulk d + 1
  | .map entries => uptoBulkEntries entries + 1
  | .held _ => 1
def uptoBulkAll {H : Type} : List (DataW H) → Nat
  | [] => 0
  | d :: r => uptoBulk d + uptoBulkAll r
def uptoBulkEntries {H : Type} : List (Lit × DataW H) → Nat
  | [] => 0
  | x :: r => uptoBulkEntry x + uptoBulkEntries r
def uptoBulkEntry {H : Type} : Lit × DataW H → Nat
  | (.string bytes, d) => bytes.length + uptoBulk d + 1
  | (_, d) => uptoBulk d + 1
 end
def uptoSmall : (H : Type) → List (DataW H) → Bool := fun _ ds => decide (uptoBulkAll ds ≤ 1048576)
def OpenSpec.upto (s : _root_.Go.ChangeSpec) : _root_.Go.OpenSpec := { _root_.Go.OpenSpec.ofChange s with cond := some uptoSmall }

/-- 'laws.FnExactWrappedSums', WHERE WHAT IT READS IS OF BULK AT MOST 1048576: true; the input reads as it did. -/
def fnExactWrappedSumsUptoRow : OpenClaim := { program := "ytcicglebmmlkdaa", sum := "a71b8c8a1eef5bca448a34c583233f36dc745485b7bcf6e66c82f32b84b6dab4", func := "loop.example/g01198/laws.FnExactWrappedSums", spec := "fnExactWrappedSums", apart := false, narrowed := true }
def FnExactWrappedSumsUptoSaid : Prop := fnExactWrappedSumsUptoRow.holds Try.pinned (OpenSpec.upto fnExactWrappedSumsSpec)

/-- 'laws.FnExactWrappedCombs', WHERE WHAT IT READS IS OF BULK AT MOST 1048576: true; the input reads as it did. -/
def fnExactWrappedCombsUptoRow : OpenClaim := { program := "ytcicglebmmlkdaa", sum := "a71b8c8a1eef5bca448a34c583233f36dc745485b7bcf6e66c82f32b84b6dab4", func := "loop.example/g01198/laws.FnExactWrappedCombs", spec := "fnExactWrappedCombs", apart := false, narrowed := true }
def FnExactWrappedCombsUptoSaid : Prop := fnExactWrappedCombsUptoRow.holds Try.pinned (OpenSpec.upto fnExactWrappedCombsSpec)

/-- 'laws.FnExactCountWraps', WHERE WHAT IT READS IS OF BULK AT MOST 1048576: true; the input reads as it did. -/
def fnExactCountWrapsUptoRow : OpenClaim := { program := "ytcicglebmmlkdaa", sum := "a71b8c8a1eef5bca448a34c583233f36dc745485b7bcf6e66c82f32b84b6dab4", func := "loop.example/g01198/laws.FnExactCountWraps", spec := "fnExactCountWraps", apart := false, narrowed := true }
def FnExactCountWrapsUptoSaid : Prop := fnExactCountWrapsUptoRow.holds Try.pinned (OpenSpec.upto fnExactCountWrapsSpec)

/-- 'laws.FnExactWrappedComb', WHERE WHAT IT READS IS OF BULK AT MOST 1048576: true; the input reads as it did. -/
def fnExactWrappedCombUptoRow : OpenClaim := { program := "ytcicglebmmlkdaa", sum := "a71b8c8a1eef5bca448a34c583233f36dc745485b7bcf6e66c82f32b84b6dab4", func := "loop.example/g01198/laws.FnExactWrappedComb", spec := "fnExactWrappedComb", apart := false, narrowed := true }
def FnExactWrappedCombUptoSaid : Prop := fnExactWrappedCombUptoRow.holds Try.pinned (OpenSpec.upto fnExactWrappedCombSpec)

/-- 'laws.FnExactWrappedRise', WHERE WHAT IT READS IS OF BULK AT MOST 1048576: true; the input reads as it did. -/
def fnExactWrappedRiseUptoRow : OpenClaim := { program := "ytcicglebmmlkdaa", sum := "a71b8c8a1eef5bca448a34c583233f36dc745485b7bcf6e66c82f32b84b6dab4", func := "loop.example/g01198/laws.FnExactWrappedRise", spec := "fnExactWrappedRise", apart := false, narrowed := true }
def FnExactWrappedRiseUptoSaid : Prop := fnExactWrappedRiseUptoRow.holds Try.pinned (OpenSpec.upto fnExactWrappedRiseSpec)

/-- 'laws.FnExactLeastBits', WHERE WHAT IT READS IS OF BULK AT MOST 1048576: true; the input reads as it did. -/
def fnExactLeastBitsUptoRow : OpenClaim := { program := "ytcicglebmmlkdaa", sum := "a71b8c8a1eef5bca448a34c583233f36dc745485b7bcf6e66c82f32b84b6dab4", func := "loop.example/g01198/laws.FnExactLeastBits", spec := "fnExactLeastBits", unfollowed := true, recurses := true, apart := false, narrowed := true }
def FnExactLeastBitsUptoSaid : Prop := fnExactLeastBitsUptoRow.holds Try.pinned (OpenSpec.upto fnExactLeastBitsSpec)

end Rows
end Go.Proofs.Ytcicglebmmlkdaa
