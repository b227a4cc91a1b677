/-
  No cell of these rows narrows 'for every input' (looked for: loops, veiled, ifaces, maps, wideKeys, modest, calm, conditions, laid).
  DERIVED. THE GIVEN ROWS OF THIS SEAT. 6 by the template 'for every input the law returns true; each argument reads behind the call as it read before'; 0 by the template 'total and deterministic' (their statements: YtfeihplfcbjigaaTotals.lean).
  GIVEN WITH THE SEED: the statements are not yours to turn. If you find one false, say at which input.
  Laid BY PROGRAM, IN A SANDBOX (cutbox-rows.mjs): the forced cells as the released guide's own fill.sh prints them over the translation d6bb6e00bf1df475… (all of the seat's roots in one cut). By AI agents, Wed Nov 11 2026. No macro, syntax, notation, axiom, sorry.
-/
import Derived.Test.YtfeihplfcbjigaaChecked
import GoSem.Claim
import GoSem.ClaimJoined
import GoSem.ClaimMapViews
import Derived.JoinedTies
import Derived.KernelRfl
namespace Go.Proofs.Ytfeihplfcbjigaa
/- THE CELL 'sum', in the pinned program and in every row, IS THE sha256 OF THE DUMP (.gsa) THAT YtfeihplfcbjigaaProg.lean LOADS. Nothing in Lean hashes anything: it is a label: what it is worth is what the hold of that sum in a sandbox is worth. -/
noncomputable def Try.pinned : Pinned := { name := "ytfeihplfcbjigaa", sum := "d6bb6e00bf1df4754646af885e3d65627fbcee047e15c295953bcc944021d617", checked := Try.checked }
namespace Rows
def none {H : Type} : Left H := { results := [], args := [] }

/-- 'laws.FnExactLengthAfter': WHATEVER THE INPUT: true; the input reads as it did. -/
def fnExactLengthAfterSpec : ChangeSpec := { name := "fnExactLengthAfter", fn := fun _ => fun
  | [d1, d2, d3] => { results := [.lit (.bool true)], args := [d1, d2, d3] }
  | _ => none }
def fnExactLengthAfterRow : OpenClaim := { program := "ytfeihplfcbjigaa", sum := "d6bb6e00bf1df4754646af885e3d65627fbcee047e15c295953bcc944021d617", func := "loop.example/g01198/laws.FnExactLengthAfter", spec := "fnExactLengthAfter", apart := false }
def FnExactLengthAfterSaid : Prop := fnExactLengthAfterRow.holds Try.pinned (OpenSpec.ofChange fnExactLengthAfterSpec)

/-- ITS FALSE NEIGHBOUR: 'it returns false'. Refute it at one input. -/
def fnExactLengthAfterWrong : ChangeSpec := { name := "fnExactLengthAfter", fn := fun _ => fun
  | [d1, d2, d3] => { results := [.lit (.bool false)], args := [d1, d2, d3] }
  | _ => none }
def FnExactLengthAfterWrongFalsely : Prop := fnExactLengthAfterRow.holds Try.pinned (OpenSpec.ofChange fnExactLengthAfterWrong)

/-- 'laws.FnExactSourceOf': WHATEVER THE INPUT: true; the input reads as it did. -/
def fnExactSourceOfSpec : ChangeSpec := { name := "fnExactSourceOf", fn := fun _ => fun
  | [d1, d2, d3] => { results := [.lit (.bool true)], args := [d1, d2, d3] }
  | _ => none }
def fnExactSourceOfRow : OpenClaim := { program := "ytfeihplfcbjigaa", sum := "d6bb6e00bf1df4754646af885e3d65627fbcee047e15c295953bcc944021d617", func := "loop.example/g01198/laws.FnExactSourceOf", spec := "fnExactSourceOf", apart := false }
def FnExactSourceOfSaid : Prop := fnExactSourceOfRow.holds Try.pinned (OpenSpec.ofChange fnExactSourceOfSpec)

/-- ITS FALSE NEIGHBOUR: 'it returns false'. Refute it at one input. -/
def fnExactSourceOfWrong : ChangeSpec := { name := "fnExactSourceOf", fn := fun _ => fun
  | [d1, d2, d3] => { results := [.lit (.bool false)], args := [d1, d2, d3] }
  | _ => none }
def FnExactSourceOfWrongFalsely : Prop := fnExactSourceOfRow.holds Try.pinned (OpenSpec.ofChange fnExactSourceOfWrong)

/-- 'laws.FnExactLeastRatio': WHATEVER THE INPUT: true; the input reads as it did. -/
def fnExactLeastRatioSpec : ChangeSpec := { name := "fnExactLeastRatio", fn := fun _ => fun
  | [d1, d2] => { results := [.lit (.bool true)], args := [d1, d2] }
  | _ => none }
def fnExactLeastRatioRow : OpenClaim := { program := "ytfeihplfcbjigaa", sum := "d6bb6e00bf1df4754646af885e3d65627fbcee047e15c295953bcc944021d617", func := "loop.example/g01198/laws.FnExactLeastRatio", spec := "fnExactLeastRatio", apart := false }
def FnExactLeastRatioSaid : Prop := fnExactLeastRatioRow.holds Try.pinned (OpenSpec.ofChange fnExactLeastRatioSpec)

/-- ITS FALSE NEIGHBOUR: 'it returns false'. Refute it at one input. -/
def fnExactLeastRatioWrong : ChangeSpec := { name := "fnExactLeastRatio", fn := fun _ => fun
  | [d1, d2] => { results := [.lit (.bool false)], args := [d1, d2] }
  | _ => none }
def FnExactLeastRatioWrongFalsely : Prop := fnExactLeastRatioRow.holds Try.pinned (OpenSpec.ofChange fnExactLeastRatioWrong)

/-- 'laws.FnExactPhasesOf': WHATEVER THE INPUT: true; the input reads as it did. -/
def fnExactPhasesOfSpec : ChangeSpec := { name := "fnExactPhasesOf", fn := fun _ => fun
  | [d1, d2] => { results := [.lit (.bool true)], args := [d1, d2] }
  | _ => none }
def fnExactPhasesOfRow : OpenClaim := { program := "ytfeihplfcbjigaa", sum := "d6bb6e00bf1df4754646af885e3d65627fbcee047e15c295953bcc944021d617", func := "loop.example/g01198/laws.FnExactPhasesOf", spec := "fnExactPhasesOf", apart := false }
def FnExactPhasesOfSaid : Prop := fnExactPhasesOfRow.holds Try.pinned (OpenSpec.ofChange fnExactPhasesOfSpec)

/-- ITS FALSE NEIGHBOUR: 'it returns false'. Refute it at one input. -/
def fnExactPhasesOfWrong : ChangeSpec := { name := "fnExactPhasesOf", fn := fun _ => fun
  | [d1, d2] => { results := [.lit (.bool false)], args := [d1, d2] }
  | _ => none }
def FnExactPhasesOfWrongFalsely : Prop := fnExactPhasesOfRow.holds Try.pinned (OpenSpec.ofChange fnExactPhasesOfWrong)

/-- 'laws.FnExactProductsDirect': WHATEVER THE INPUT: true; the input reads as it did. -/
def fnExactProductsDirectSpec : ChangeSpec := { name := "fnExactProductsDirect", fn := fun _ => fun
  | [d1, d2, d3, d4] => { results := [.lit (.bool true)], args := [d1, d2, d3, d4] }
  | _ => none }
def fnExactProductsDirectRow : OpenClaim := { program := "ytfeihplfcbjigaa", sum := "d6bb6e00bf1df4754646af885e3d65627fbcee047e15c295953bcc944021d617", func := "loop.example/g01198/laws.FnExactProductsDirect", spec := "fnExactProductsDirect", apart := false }
def FnExactProductsDirectSaid : Prop := fnExactProductsDirectRow.holds Try.pinned (OpenSpec.ofChange fnExactProductsDirectSpec)

/-- ITS FALSE NEIGHBOUR: 'it returns false'. Refute it at one input. -/
def fnExactProductsDirectWrong : ChangeSpec := { name := "fnExactProductsDirect", fn := fun _ => fun
  | [d1, d2, d3, d4] => { results := [.lit (.bool false)], args := [d1, d2, d3, d4] }
  | _ => none }
def FnExactProductsDirectWrongFalsely : Prop := fnExactProductsDirectRow.holds Try.pinned (OpenSpec.ofChange fnExactProductsDirectWrong)

/-- 'laws.FnExactProductsByPhases': WHATEVER THE INPUT: true; the input reads as it did. -/
def fnExactProductsByPhasesSpec : ChangeSpec := { name := "fnExactProductsByPhases", fn := fun _ => fun
  | [d1, d2, d3, d4] => { results := [.lit (.bool true)], args := [d1, d2, d3, d4] }
  | _ => none }
def fnExactProductsByPhasesRow : OpenClaim := { program := "ytfeihplfcbjigaa", sum := "d6bb6e00bf1df4754646af885e3d65627fbcee047e15c295953bcc944021d617", func := "loop.example/g01198/laws.FnExactProductsByPhases", spec := "fnExactProductsByPhases", apart := false }
def FnExactProductsByPhasesSaid : Prop := fnExactProductsByPhasesRow.holds Try.pinned (OpenSpec.ofChange fnExactProductsByPhasesSpec)

/-- ITS FALSE NEIGHBOUR: 'it returns false'. Refute it at one input. -/
def fnExactProductsByPhasesWrong : ChangeSpec := { name := "fnExactProductsByPhases", fn := fun _ => fun
  | [d1, d2, d3, d4] => { results := [.lit (.bool false)], args := [d1, d2, d3, d4] }
  | _ => none }
def FnExactProductsByPhasesWrongFalsely : Prop := fnExactProductsByPhasesRow.holds Try.pinned (OpenSpec.ofChange fnExactProductsByPhasesWrong)

/- THE SECOND FORM. 'bulk': how many values and letters a reading holds, each counted each time it is reached (what is shared counts as often as it is met; a slice's spare places count too). A statement '..UptoSaid' is the law's where the arguments, and the package variables that the reading takes, are together of bulk at most 1048576: NARROWER than '..Said'. Prove '..Said' where nothing that the law and all that it calls make is longer than what came in: it says more and counts as full. Else prove '..UptoSaid'. A law counts once. -/
mutual
def uptoBulk {H : Type} : DataW H → Nat
  | .lit (.string bytes) => bytes.length + 1
  | .lit _ => 1
  | .nil => 1
  | .ptr d => uptoBulk d + 1
  | .slice elems spare => uptoBulkAll elems + uptoBulkAll spare + 1
  | .agg parts => uptoBulkAll parts + 1
  | .iface _ d => uptoBulk d + 1
  | .map entries => uptoBulkEntries entries + 1
  | .held _ => 1
def uptoBulkAll {H : Type} : List (DataW H) → Nat
  | [] => 0
  | d :: r => uptoBulk d + uptoBulkAll r
def uptoBulkEntries {H : Type} : List (Lit × DataW H) → Nat
  | [] => 0
  | x :: r => uptoBulkEntry x + uptoBulkEntries r
def uptoBulkEntry {H : Type} : Lit × DataW H → Nat
  | (.string bytes, d) => bytes.length + uptoBulk d + 1
  | (_, d) => uptoBulk d + 1
 end
def uptoSmall : (H : Type) → List (DataW H) → Bool := fun _ ds => decide (uptoBulkAll ds ≤ 1048576)
def OpenSpec.upto (s : _root_.Go.ChangeSpec) : _root_.Go.OpenSpec := { _root_.Go.OpenSpec.ofChange s with cond := some uptoSmall }

/-- 'laws.FnExactLengthAfter', WHERE WHAT IT READS IS OF BULK AT MOST 1048576: true; the input reads as it did. -/
def fnExactLengthAfterUptoRow : OpenClaim := { program := "ytfeihplfcbjigaa", sum := "d6bb6e00bf1df4754646af885e3d65627fbcee047e15c295953bcc944021d617", func := "loop.example/g01198/laws.FnExactLengthAfter", spec := "fnExactLengthAfter", apart := false, narrowed := true }
def FnExactLengthAfterUptoSaid : Prop := fnExactLengthAfterUptoRow.holds Try.pinned (OpenSpec.upto fnExactLengthAfterSpec)

/-- 'laws.FnExactSourceOf', WHERE WHAT IT READS IS OF BULK AT MOST 1048576: true; the input reads as it did. -/
def fnExactSourceOfUptoRow : OpenClaim := { program := "ytfeihplfcbjigaa", sum := "d6bb6e00bf1df4754646af885e3d65627fbcee047e15c295953bcc944021d617", func := "loop.example/g01198/laws.FnExactSourceOf", spec := "fnExactSourceOf", apart := false, narrowed := true }
def FnExactSourceOfUptoSaid : Prop := fnExactSourceOfUptoRow.holds Try.pinned (OpenSpec.upto fnExactSourceOfSpec)

/-- 'laws.FnExactLeastRatio', WHERE WHAT IT READS IS OF BULK AT MOST 1048576: true; the input reads as it did. -/
def fnExactLeastRatioUptoRow : OpenClaim := { program := "ytfeihplfcbjigaa", sum := "d6bb6e00bf1df4754646af885e3d65627fbcee047e15c295953bcc944021d617", func := "loop.example/g01198/laws.FnExactLeastRatio", spec := "fnExactLeastRatio", apart := false, narrowed := true }
def FnExactLeastRatioUptoSaid : Prop := fnExactLeastRatioUptoRow.holds Try.pinned (OpenSpec.upto fnExactLeastRatioSpec)

/-- 'laws.FnExactPhasesOf', WHERE WHAT IT READS IS OF BULK AT MOST 1048576: true; the input reads as it did. -/
def fnExactPhasesOfUptoRow : OpenClaim := { program := "ytfeihplfcbjigaa", sum := "d6bb6e00bf1df4754646af885e3d65627fbcee047e15c295953bcc944021d617", func := "loop.example/g01198/laws.FnExactPhasesOf", spec := "fnExactPhasesOf", apart := false, narrowed := true }
def FnExactPhasesOfUptoSaid : Prop := fnExactPhasesOfUptoRow.holds Try.pinned (OpenSpec.upto fnExactPhasesOfSpec)

/-- 'laws.FnExactProductsDirect', WHERE WHAT IT READS IS OF BULK AT MOST 1048576: true; the input reads as it did. -/
def fnExactProductsDirectUptoRow : OpenClaim := { program := "ytfeihplfcbjigaa", sum := "d6bb6e00bf1df4754646af885e3d65627fbcee047e15c295953bcc944021d617", func := "loop.example/g01198/laws.FnExactProductsDirect", spec := "fnExactProductsDirect", apart := false, narrowed := true }
def FnExactProductsDirectUptoSaid : Prop := fnExactProductsDirectUptoRow.holds Try.pinned (OpenSpec.upto fnExactProductsDirectSpec)

/-- 'laws.FnExactProductsByPhases', WHERE WHAT IT READS IS OF BULK AT MOST 1048576: true; the input reads as it did. -/
def fnExactProductsByPhasesUptoRow : OpenClaim := { program := "ytfeihplfcbjigaa", sum := "d6bb6e00bf1df4754646af885e3d65627fbcee047e15c295953bcc944021d617", func := "loop.example/g01198/laws.FnExactProductsByPhases", spec := "fnExactProductsByPhases", apart := false, narrowed := true }
def FnExactProductsByPhasesUptoSaid : Prop := fnExactProductsByPhasesUptoRow.holds Try.pinned (OpenSpec.upto fnExactProductsByPhasesSpec)

end Rows
end Go.Proofs.Ytfeihplfcbjigaa
