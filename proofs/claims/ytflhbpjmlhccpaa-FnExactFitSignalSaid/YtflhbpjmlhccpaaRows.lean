/-
  No cell of these rows narrows 'for every input' (looked for: loops, veiled, ifaces, maps, wideKeys, modest, calm, conditions, laid).
  DERIVED. THE GIVEN ROWS OF THIS SEAT. 6 by the template 'for every input the law returns true; each argument reads behind the call as it read before'; 0 by the template 'total and deterministic' (their statements: YtflhbpjmlhccpaaTotals.lean).
  GIVEN WITH THE SEED: the statements are not yours to turn. If you find one false, say at which input.
  Laid BY PROGRAM, IN A SANDBOX (cutbox-rows.mjs): the forced cells as the released guide's own fill.sh prints them over the translation 16549baf0f9e2178… (all of the seat's roots in one cut). By AI agents, Wed Nov 11 2026. No macro, syntax, notation, axiom, sorry.
-/
import Derived.Test.YtflhbpjmlhccpaaChecked
import GoSem.Claim
import GoSem.ClaimJoined
import GoSem.ClaimMapViews
import Derived.JoinedTies
import Derived.KernelRfl
namespace Go.Proofs.Ytflhbpjmlhccpaa
/- THE CELL 'sum', in the pinned program and in every row, IS THE sha256 OF THE DUMP (.gsa) THAT YtflhbpjmlhccpaaProg.lean LOADS. Nothing in Lean hashes anything: it is a label: what it is worth is what the hold of that sum in a sandbox is worth. -/
noncomputable def Try.pinned : Pinned := { name := "ytflhbpjmlhccpaa", sum := "16549baf0f9e217828c08e0034cb134736702073494f06b9174da3ff6ff7a01f", checked := Try.checked }
namespace Rows
def none {H : Type} : Left H := { results := [], args := [] }

/-- 'laws.FnExactIsSignal': WHATEVER THE INPUT: true; the input reads as it did. -/
def fnExactIsSignalSpec : ChangeSpec := { name := "fnExactIsSignal", fn := fun _ => fun
  | [d] => { results := [.lit (.bool true)], args := [d] }
  | _ => none }
def fnExactIsSignalRow : OpenClaim := { program := "ytflhbpjmlhccpaa", sum := "16549baf0f9e217828c08e0034cb134736702073494f06b9174da3ff6ff7a01f", func := "loop.example/g01198/laws.FnExactIsSignal", spec := "fnExactIsSignal", apart := false }
def FnExactIsSignalSaid : Prop := fnExactIsSignalRow.holds Try.pinned (OpenSpec.ofChange fnExactIsSignalSpec)

/-- ITS FALSE NEIGHBOUR: 'it returns false'. Refute it at one input. -/
def fnExactIsSignalWrong : ChangeSpec := { name := "fnExactIsSignal", fn := fun _ => fun
  | [d] => { results := [.lit (.bool false)], args := [d] }
  | _ => none }
def FnExactIsSignalWrongFalsely : Prop := fnExactIsSignalRow.holds Try.pinned (OpenSpec.ofChange fnExactIsSignalWrong)

/-- 'laws.FnExactFitSignal': WHATEVER THE INPUT: true; the input reads as it did. -/
def fnExactFitSignalSpec : ChangeSpec := { name := "fnExactFitSignal", fn := fun _ => fun
  | [d1, d2] => { results := [.lit (.bool true)], args := [d1, d2] }
  | _ => none }
def fnExactFitSignalRow : OpenClaim := { program := "ytflhbpjmlhccpaa", sum := "16549baf0f9e217828c08e0034cb134736702073494f06b9174da3ff6ff7a01f", func := "loop.example/g01198/laws.FnExactFitSignal", spec := "fnExactFitSignal", apart := false }
def FnExactFitSignalSaid : Prop := fnExactFitSignalRow.holds Try.pinned (OpenSpec.ofChange fnExactFitSignalSpec)

/-- ITS FALSE NEIGHBOUR: 'it returns false'. Refute it at one input. -/
def fnExactFitSignalWrong : ChangeSpec := { name := "fnExactFitSignal", fn := fun _ => fun
  | [d1, d2] => { results := [.lit (.bool false)], args := [d1, d2] }
  | _ => none }
def FnExactFitSignalWrongFalsely : Prop := fnExactFitSignalRow.holds Try.pinned (OpenSpec.ofChange fnExactFitSignalWrong)

/-- 'laws.FnExactCountUnfit': WHATEVER THE INPUT: true; the input reads as it did. -/
def fnExactCountUnfitSpec : ChangeSpec := { name := "fnExactCountUnfit", fn := fun _ => fun
  | [d1, d2] => { results := [.lit (.bool true)], args := [d1, d2] }
  | _ => none }
def fnExactCountUnfitRow : OpenClaim := { program := "ytflhbpjmlhccpaa", sum := "16549baf0f9e217828c08e0034cb134736702073494f06b9174da3ff6ff7a01f", func := "loop.example/g01198/laws.FnExactCountUnfit", spec := "fnExactCountUnfit", apart := false }
def FnExactCountUnfitSaid : Prop := fnExactCountUnfitRow.holds Try.pinned (OpenSpec.ofChange fnExactCountUnfitSpec)

/-- ITS FALSE NEIGHBOUR: 'it returns false'. Refute it at one input. -/
def fnExactCountUnfitWrong : ChangeSpec := { name := "fnExactCountUnfit", fn := fun _ => fun
  | [d1, d2] => { results := [.lit (.bool false)], args := [d1, d2] }
  | _ => none }
def FnExactCountUnfitWrongFalsely : Prop := fnExactCountUnfitRow.holds Try.pinned (OpenSpec.ofChange fnExactCountUnfitWrong)

/-- 'laws.FnExactSumOfSignal': WHATEVER THE INPUT: true; the input reads as it did. -/
def fnExactSumOfSignalSpec : ChangeSpec := { name := "fnExactSumOfSignal", fn := fun _ => fun
  | [d] => { results := [.lit (.bool true)], args := [d] }
  | _ => none }
def fnExactSumOfSignalRow : OpenClaim := { program := "ytflhbpjmlhccpaa", sum := "16549baf0f9e217828c08e0034cb134736702073494f06b9174da3ff6ff7a01f", func := "loop.example/g01198/laws.FnExactSumOfSignal", spec := "fnExactSumOfSignal", apart := false }
def FnExactSumOfSignalSaid : Prop := fnExactSumOfSignalRow.holds Try.pinned (OpenSpec.ofChange fnExactSumOfSignalSpec)

/-- ITS FALSE NEIGHBOUR: 'it returns false'. Refute it at one input. -/
def fnExactSumOfSignalWrong : ChangeSpec := { name := "fnExactSumOfSignal", fn := fun _ => fun
  | [d] => { results := [.lit (.bool false)], args := [d] }
  | _ => none }
def FnExactSumOfSignalWrongFalsely : Prop := fnExactSumOfSignalRow.holds Try.pinned (OpenSpec.ofChange fnExactSumOfSignalWrong)

/-- 'laws.FnExactEnergyOf': WHATEVER THE INPUT: true; the input reads as it did. -/
def fnExactEnergyOfSpec : ChangeSpec := { name := "fnExactEnergyOf", fn := fun _ => fun
  | [d] => { results := [.lit (.bool true)], args := [d] }
  | _ => none }
def fnExactEnergyOfRow : OpenClaim := { program := "ytflhbpjmlhccpaa", sum := "16549baf0f9e217828c08e0034cb134736702073494f06b9174da3ff6ff7a01f", func := "loop.example/g01198/laws.FnExactEnergyOf", spec := "fnExactEnergyOf", apart := false }
def FnExactEnergyOfSaid : Prop := fnExactEnergyOfRow.holds Try.pinned (OpenSpec.ofChange fnExactEnergyOfSpec)

/-- ITS FALSE NEIGHBOUR: 'it returns false'. Refute it at one input. -/
def fnExactEnergyOfWrong : ChangeSpec := { name := "fnExactEnergyOf", fn := fun _ => fun
  | [d] => { results := [.lit (.bool false)], args := [d] }
  | _ => none }
def FnExactEnergyOfWrongFalsely : Prop := fnExactEnergyOfRow.holds Try.pinned (OpenSpec.ofChange fnExactEnergyOfWrong)

/-- 'laws.FnExactPeakOf': WHATEVER THE INPUT: true; the input reads as it did. -/
def fnExactPeakOfSpec : ChangeSpec := { name := "fnExactPeakOf", fn := fun _ => fun
  | [d] => { results := [.lit (.bool true)], args := [d] }
  | _ => none }
def fnExactPeakOfRow : OpenClaim := { program := "ytflhbpjmlhccpaa", sum := "16549baf0f9e217828c08e0034cb134736702073494f06b9174da3ff6ff7a01f", func := "loop.example/g01198/laws.FnExactPeakOf", spec := "fnExactPeakOf", apart := false }
def FnExactPeakOfSaid : Prop := fnExactPeakOfRow.holds Try.pinned (OpenSpec.ofChange fnExactPeakOfSpec)

/-- ITS FALSE NEIGHBOUR: 'it returns false'. Refute it at one input. -/
def fnExactPeakOfWrong : ChangeSpec := { name := "fnExactPeakOf", fn := fun _ => fun
  | [d] => { results := [.lit (.bool false)], args := [d] }
  | _ => none }
def FnExactPeakOfWrongFalsely : Prop := fnExactPeakOfRow.holds Try.pinned (OpenSpec.ofChange fnExactPeakOfWrong)

/- THE SECOND FORM. 'bulk': how many values and letters a reading holds, each counted each time it is reached (what is shared counts as often as it is met; a slice's spare places count too). A statement '..UptoSaid' is the law's where the arguments, and the package variables that the reading takes, are together of bulk at most 1048576: NARROWER than '..Said'. Prove '..Said' where nothing that the law and all that it calls make is longer than what came in: it says more and counts as full. Else prove '..UptoSaid'. A law counts once. -/
mutual
def uptoBulk {H : Type} : DataW H → Nat
  | .lit (.string bytes) => bytes.length + 1
  | .lit _ => 1
  | .nil => 1
  | .ptr d => uptoBulk d + 1
  | .slice elems spare => uptoBulkAll elems + uptoBulkAll spare + 1
  | .agg parts => uptoBulkAll parts + 1
  | .iface _ d => uptoBulk d + 1
  | .map entries => uptoBulkEntries entries + 1
  | .held _ => 1
def uptoBulkAll {H : Type} : List (DataW H) → Nat
  | [] => 0
  | d :: r => uptoBulk d + uptoBulkAll r
def uptoBulkEntries {H : Type} : List (Lit × DataW H) → Nat
  | [] => 0
  | x :: r => uptoBulkEntry x + uptoBulkEntries r
def uptoBulkEntry {H : Type} : Lit × DataW H → Nat
  | (.string bytes, d) => bytes.length + uptoBulk d + 1
  | (_, d) => uptoBulk d + 1
 end
def uptoSmall : (H : Type) → List (DataW H) → Bool := fun _ ds => decide (uptoBulkAll ds ≤ 1048576)
def OpenSpec.upto (s : _root_.Go.ChangeSpec) : _root_.Go.OpenSpec := { _root_.Go.OpenSpec.ofChange s with cond := some uptoSmall }

/-- 'laws.FnExactIsSignal', WHERE WHAT IT READS IS OF BULK AT MOST 1048576: true; the input reads as it did. -/
def fnExactIsSignalUptoRow : OpenClaim := { program := "ytflhbpjmlhccpaa", sum := "16549baf0f9e217828c08e0034cb134736702073494f06b9174da3ff6ff7a01f", func := "loop.example/g01198/laws.FnExactIsSignal", spec := "fnExactIsSignal", apart := false, narrowed := true }
def FnExactIsSignalUptoSaid : Prop := fnExactIsSignalUptoRow.holds Try.pinned (OpenSpec.upto fnExactIsSignalSpec)

/-- 'laws.FnExactFitSignal', WHERE WHAT IT READS IS OF BULK AT MOST 1048576: true; the input reads as it did. -/
def fnExactFitSignalUptoRow : OpenClaim := { program := "ytflhbpjmlhccpaa", sum := "16549baf0f9e217828c08e0034cb134736702073494f06b9174da3ff6ff7a01f", func := "loop.example/g01198/laws.FnExactFitSignal", spec := "fnExactFitSignal", apart := false, narrowed := true }
def FnExactFitSignalUptoSaid : Prop := fnExactFitSignalUptoRow.holds Try.pinned (OpenSpec.upto fnExactFitSignalSpec)

/-- 'laws.FnExactCountUnfit', WHERE WHAT IT READS IS OF BULK AT MOST 1048576: true; the input reads as it did. -/
def fnExactCountUnfitUptoRow : OpenClaim := { program := "ytflhbpjmlhccpaa", sum := "16549baf0f9e217828c08e0034cb134736702073494f06b9174da3ff6ff7a01f", func := "loop.example/g01198/laws.FnExactCountUnfit", spec := "fnExactCountUnfit", apart := false, narrowed := true }
def FnExactCountUnfitUptoSaid : Prop := fnExactCountUnfitUptoRow.holds Try.pinned (OpenSpec.upto fnExactCountUnfitSpec)

/-- 'laws.FnExactSumOfSignal', WHERE WHAT IT READS IS OF BULK AT MOST 1048576: true; the input reads as it did. -/
def fnExactSumOfSignalUptoRow : OpenClaim := { program := "ytflhbpjmlhccpaa", sum := "16549baf0f9e217828c08e0034cb134736702073494f06b9174da3ff6ff7a01f", func := "loop.example/g01198/laws.FnExactSumOfSignal", spec := "fnExactSumOfSignal", apart := false, narrowed := true }
def FnExactSumOfSignalUptoSaid : Prop := fnExactSumOfSignalUptoRow.holds Try.pinned (OpenSpec.upto fnExactSumOfSignalSpec)

/-- 'laws.FnExactEnergyOf', WHERE WHAT IT READS IS OF BULK AT MOST 1048576: true; the input reads as it did. -/
def fnExactEnergyOfUptoRow : OpenClaim := { program := "ytflhbpjmlhccpaa", sum := "16549baf0f9e217828c08e0034cb134736702073494f06b9174da3ff6ff7a01f", func := "loop.example/g01198/laws.FnExactEnergyOf", spec := "fnExactEnergyOf", apart := false, narrowed := true }
def FnExactEnergyOfUptoSaid : Prop := fnExactEnergyOfUptoRow.holds Try.pinned (OpenSpec.upto fnExactEnergyOfSpec)

/-- 'laws.FnExactPeakOf', WHERE WHAT IT READS IS OF BULK AT MOST 1048576: true; the input reads as it did. -/
def fnExactPeakOfUptoRow : OpenClaim := { program := "ytflhbpjmlhccpaa", sum := "16549baf0f9e217828c08e0034cb134736702073494f06b9174da3ff6ff7a01f", func := "loop.example/g01198/laws.FnExactPeakOf", spec := "fnExactPeakOf", apart := false, narrowed := true }
def FnExactPeakOfUptoSaid : Prop := fnExactPeakOfUptoRow.holds Try.pinned (OpenSpec.upto fnExactPeakOfSpec)

end Rows
end Go.Proofs.Ytflhbpjmlhccpaa
