/-
  No cell of these rows narrows 'for every input' (looked for: loops, veiled, ifaces, maps, wideKeys, modest, calm, conditions, laid).
  DERIVED. THE GIVEN ROWS OF THIS SEAT. 5 by the template 'for every input the law returns true; each argument reads behind the call as it read before'; 0 by the template 'total and deterministic' (their statements: YtfbgmbbckiefoaaTotals.lean).
  GIVEN WITH THE SEED: the statements are not yours to turn. If you find one false, say at which input.
  Laid BY PROGRAM, IN A SANDBOX (cutbox-rows.mjs): the forced cells as the released guide's own fill.sh prints them over the translation 807643128104d0f4… (all of the seat's roots in one cut). By AI agents, Wed Nov 11 2026. No macro, syntax, notation, axiom, sorry.
-/
import Derived.Test.YtfbgmbbckiefoaaChecked
import GoSem.Claim
import GoSem.ClaimJoined
import GoSem.ClaimMapViews
import Derived.JoinedTies
import Derived.KernelRfl
namespace Go.Proofs.Ytfbgmbbckiefoaa
/- THE CELL 'sum', in the pinned program and in every row, IS THE sha256 OF THE DUMP (.gsa) THAT YtfbgmbbckiefoaaProg.lean LOADS. Nothing in Lean hashes anything: it is a label: what it is worth is what the hold of that sum in a sandbox is worth. -/
noncomputable def Try.pinned : Pinned := { name := "ytfbgmbbckiefoaa", sum := "807643128104d0f4b6b5b914d3bb94e9b73dc0637a86c9955898a8f71034f3c9", checked := Try.checked }
namespace Rows
def none {H : Type} : Left H := { results := [], args := [] }

/-- 'laws.FnExactDropSamples': WHATEVER THE INPUT: true; the input reads as it did. -/
def fnExactDropSamplesSpec : ChangeSpec := { name := "fnExactDropSamples", fn := fun _ => fun
  | [d1, d2, d3] => { results := [.lit (.bool true)], args := [d1, d2, d3] }
  | _ => none }
def fnExactDropSamplesRow : OpenClaim := { program := "ytfbgmbbckiefoaa", sum := "807643128104d0f4b6b5b914d3bb94e9b73dc0637a86c9955898a8f71034f3c9", func := "loop.example/g01198/laws.FnExactDropSamples", spec := "fnExactDropSamples", apart := false }
def FnExactDropSamplesSaid : Prop := fnExactDropSamplesRow.holds Try.pinned (OpenSpec.ofChange fnExactDropSamplesSpec)

/-- ITS FALSE NEIGHBOUR: 'it returns false'. Refute it at one input. -/
def fnExactDropSamplesWrong : ChangeSpec := { name := "fnExactDropSamples", fn := fun _ => fun
  | [d1, d2, d3] => { results := [.lit (.bool false)], args := [d1, d2, d3] }
  | _ => none }
def FnExactDropSamplesWrongFalsely : Prop := fnExactDropSamplesRow.holds Try.pinned (OpenSpec.ofChange fnExactDropSamplesWrong)

/-- 'laws.FnExactStuffZeros': WHATEVER THE INPUT: true; the input reads as it did. -/
def fnExactStuffZerosSpec : ChangeSpec := { name := "fnExactStuffZeros", fn := fun _ => fun
  | [d1, d2] => { results := [.lit (.bool true)], args := [d1, d2] }
  | _ => none }
def fnExactStuffZerosRow : OpenClaim := { program := "ytfbgmbbckiefoaa", sum := "807643128104d0f4b6b5b914d3bb94e9b73dc0637a86c9955898a8f71034f3c9", func := "loop.example/g01198/laws.FnExactStuffZeros", spec := "fnExactStuffZeros", apart := false }
def FnExactStuffZerosSaid : Prop := fnExactStuffZerosRow.holds Try.pinned (OpenSpec.ofChange fnExactStuffZerosSpec)

/-- ITS FALSE NEIGHBOUR: 'it returns false'. Refute it at one input. -/
def fnExactStuffZerosWrong : ChangeSpec := { name := "fnExactStuffZeros", fn := fun _ => fun
  | [d1, d2] => { results := [.lit (.bool false)], args := [d1, d2] }
  | _ => none }
def FnExactStuffZerosWrongFalsely : Prop := fnExactStuffZerosRow.holds Try.pinned (OpenSpec.ofChange fnExactStuffZerosWrong)

/-- 'laws.FnExactMeanBlocks': WHATEVER THE INPUT: true; the input reads as it did. -/
def fnExactMeanBlocksSpec : ChangeSpec := { name := "fnExactMeanBlocks", fn := fun _ => fun
  | [d1, d2, d3] => { results := [.lit (.bool true)], args := [d1, d2, d3] }
  | _ => none }
def fnExactMeanBlocksRow : OpenClaim := { program := "ytfbgmbbckiefoaa", sum := "807643128104d0f4b6b5b914d3bb94e9b73dc0637a86c9955898a8f71034f3c9", func := "loop.example/g01198/laws.FnExactMeanBlocks", spec := "fnExactMeanBlocks", unfollowed := true, recurses := true, apart := false }
def FnExactMeanBlocksSaid : Prop := fnExactMeanBlocksRow.holds Try.pinned (OpenSpec.ofChange fnExactMeanBlocksSpec)

/-- ITS FALSE NEIGHBOUR: 'it returns false'. Refute it at one input. -/
def fnExactMeanBlocksWrong : ChangeSpec := { name := "fnExactMeanBlocks", fn := fun _ => fun
  | [d1, d2, d3] => { results := [.lit (.bool false)], args := [d1, d2, d3] }
  | _ => none }
def FnExactMeanBlocksWrongFalsely : Prop := fnExactMeanBlocksRow.holds Try.pinned (OpenSpec.ofChange fnExactMeanBlocksWrong)

/-- 'laws.FnExactExactComb': WHATEVER THE INPUT: true; the input reads as it did. -/
def fnExactExactCombSpec : ChangeSpec := { name := "fnExactExactComb", fn := fun _ => fun
  | [d1, d2, d3] => { results := [.lit (.bool true)], args := [d1, d2, d3] }
  | _ => none }
def fnExactExactCombRow : OpenClaim := { program := "ytfbgmbbckiefoaa", sum := "807643128104d0f4b6b5b914d3bb94e9b73dc0637a86c9955898a8f71034f3c9", func := "loop.example/g01198/laws.FnExactExactComb", spec := "fnExactExactComb", unfollowed := true, recurses := true, apart := false }
def FnExactExactCombSaid : Prop := fnExactExactCombRow.holds Try.pinned (OpenSpec.ofChange fnExactExactCombSpec)

/-- ITS FALSE NEIGHBOUR: 'it returns false'. Refute it at one input. -/
def fnExactExactCombWrong : ChangeSpec := { name := "fnExactExactComb", fn := fun _ => fun
  | [d1, d2, d3] => { results := [.lit (.bool false)], args := [d1, d2, d3] }
  | _ => none }
def FnExactExactCombWrongFalsely : Prop := fnExactExactCombRow.holds Try.pinned (OpenSpec.ofChange fnExactExactCombWrong)

/-- 'laws.FnExactExactRise': WHATEVER THE INPUT: true; the input reads as it did. -/
def fnExactExactRiseSpec : ChangeSpec := { name := "fnExactExactRise", fn := fun _ => fun
  | [d1, d2, d3] => { results := [.lit (.bool true)], args := [d1, d2, d3] }
  | _ => none }
def fnExactExactRiseRow : OpenClaim := { program := "ytfbgmbbckiefoaa", sum := "807643128104d0f4b6b5b914d3bb94e9b73dc0637a86c9955898a8f71034f3c9", func := "loop.example/g01198/laws.FnExactExactRise", spec := "fnExactExactRise", unfollowed := true, recurses := true, apart := false }
def FnExactExactRiseSaid : Prop := fnExactExactRiseRow.holds Try.pinned (OpenSpec.ofChange fnExactExactRiseSpec)

/-- ITS FALSE NEIGHBOUR: 'it returns false'. Refute it at one input. -/
def fnExactExactRiseWrong : ChangeSpec := { name := "fnExactExactRise", fn := fun _ => fun
  | [d1, d2, d3] => { results := [.lit (.bool false)], args := [d1, d2, d3] }
  | _ => none }
def FnExactExactRiseWrongFalsely : Prop := fnExactExactRiseRow.holds Try.pinned (OpenSpec.ofChange fnExactExactRiseWrong)

/- THE SECOND FORM. 'bulk': how many values and letters a reading holds, each counted each time it is reached (what is shared counts as often as it is met; a slice's spare places count too). A statement '..UptoSaid' is the law's where the arguments, and the package variables that the reading takes, are together of bulk at most 1048576: NARROWER than '..Said'. Prove '..Said' where nothing that the law and all that it calls make is longer than what came in: it says more and counts as full. Else prove '..UptoSaid'. A law counts once. -/
mutual
def uptoBulk {H : Type} : DataW H → Nat
  | .lit (.string bytes) => bytes.length + 1
  | .lit _ => 1
  | .nil => 1
  | .ptr d => uptoBulk d + 1
  | .slice elems spare => uptoBulkAll elems + uptoBulkAll spare + 1
  | .agg parts => uptoBulkAll parts + 1
  | .iface _ d => uptoBulk d + 1
  | .map entries => uptoBulkEntries entries + 1
  | .held _ => 1
def uptoBulkAll {H : Type} : List (DataW H) → Nat
  | [] => 0
  | d :: r => uptoBulk d + uptoBulkAll r
def uptoBulkEntries {H : Type} : List (Lit × DataW H) → Nat
  | [] => 0
  | x :: r => uptoBulkEntry x + uptoBulkEntries r
def uptoBulkEntry {H : Type} : Lit × DataW H → Nat
  | (.string bytes, d) => bytes.length + uptoBulk d + 1
  | (_, d) => uptoBulk d + 1
 end
def uptoSmall : (H : Type) → List (DataW H) → Bool := fun _ ds => decide (uptoBulkAll ds ≤ 1048576)
def OpenSpec.upto (s : _root_.Go.ChangeSpec) : _root_.Go.OpenSpec := { _root_.Go.OpenSpec.ofChange s with cond := some uptoSmall }

/-- 'laws.FnExactDropSamples', WHERE WHAT IT READS IS OF BULK AT MOST 1048576: true; the input reads as it did. -/
def fnExactDropSamplesUptoRow : OpenClaim := { program := "ytfbgmbbckiefoaa", sum := "807643128104d0f4b6b5b914d3bb94e9b73dc0637a86c9955898a8f71034f3c9", func := "loop.example/g01198/laws.FnExactDropSamples", spec := "fnExactDropSamples", apart := false, narrowed := true }
def FnExactDropSamplesUptoSaid : Prop := fnExactDropSamplesUptoRow.holds Try.pinned (OpenSpec.upto fnExactDropSamplesSpec)

/-- 'laws.FnExactStuffZeros', WHERE WHAT IT READS IS OF BULK AT MOST 1048576: true; the input reads as it did. -/
def fnExactStuffZerosUptoRow : OpenClaim := { program := "ytfbgmbbckiefoaa", sum := "807643128104d0f4b6b5b914d3bb94e9b73dc0637a86c9955898a8f71034f3c9", func := "loop.example/g01198/laws.FnExactStuffZeros", spec := "fnExactStuffZeros", apart := false, narrowed := true }
def FnExactStuffZerosUptoSaid : Prop := fnExactStuffZerosUptoRow.holds Try.pinned (OpenSpec.upto fnExactStuffZerosSpec)

/-- 'laws.FnExactMeanBlocks', WHERE WHAT IT READS IS OF BULK AT MOST 1048576: true; the input reads as it did. -/
def fnExactMeanBlocksUptoRow : OpenClaim := { program := "ytfbgmbbckiefoaa", sum := "807643128104d0f4b6b5b914d3bb94e9b73dc0637a86c9955898a8f71034f3c9", func := "loop.example/g01198/laws.FnExactMeanBlocks", spec := "fnExactMeanBlocks", unfollowed := true, recurses := true, apart := false, narrowed := true }
def FnExactMeanBlocksUptoSaid : Prop := fnExactMeanBlocksUptoRow.holds Try.pinned (OpenSpec.upto fnExactMeanBlocksSpec)

/-- 'laws.FnExactExactComb', WHERE WHAT IT READS IS OF BULK AT MOST 1048576: true; the input reads as it did. -/
def fnExactExactCombUptoRow : OpenClaim := { program := "ytfbgmbbckiefoaa", sum := "807643128104d0f4b6b5b914d3bb94e9b73dc0637a86c9955898a8f71034f3c9", func := "loop.example/g01198/laws.FnExactExactComb", spec := "fnExactExactComb", unfollowed := true, recurses := true, apart := false, narrowed := true }
def FnExactExactCombUptoSaid : Prop := fnExactExactCombUptoRow.holds Try.pinned (OpenSpec.upto fnExactExactCombSpec)

/-- 'laws.FnExactExactRise', WHERE WHAT IT READS IS OF BULK AT MOST 1048576: true; the input reads as it did. -/
def fnExactExactRiseUptoRow : OpenClaim := { program := "ytfbgmbbckiefoaa", sum := "807643128104d0f4b6b5b914d3bb94e9b73dc0637a86c9955898a8f71034f3c9", func := "loop.example/g01198/laws.FnExactExactRise", spec := "fnExactExactRise", unfollowed := true, recurses := true, apart := false, narrowed := true }
def FnExactExactRiseUptoSaid : Prop := fnExactExactRiseUptoRow.holds Try.pinned (OpenSpec.upto fnExactExactRiseSpec)

end Rows
end Go.Proofs.Ytfbgmbbckiefoaa
