/-
  No cell of these rows narrows 'for every input' (looked for: loops, veiled, ifaces, maps, wideKeys, modest, calm, conditions, laid).
  DERIVED. THE GIVEN ROWS OF THIS SEAT. 6 by the template 'for every input the law returns true; each argument reads behind the call as it read before'; 0 by the template 'total and deterministic' (their statements: YthbjfidcaabliaaTotals.lean).
  GIVEN WITH THE SEED: the statements are not yours to turn. If you find one false, say at which input.
  Laid BY PROGRAM, IN A SANDBOX (cutbox-rows.mjs): the forced cells as the released guide's own fill.sh prints them over the translation 68d795952cf5b079… (all of the seat's roots in one cut). By AI agents, Wed Nov 11 2026. No macro, syntax, notation, axiom, sorry.
-/
import Derived.Test.YthbjfidcaabliaaChecked
import GoSem.Claim
import GoSem.ClaimJoined
import GoSem.ClaimMapViews
import Derived.JoinedTies
import Derived.KernelRfl
namespace Go.Proofs.Ythbjfidcaabliaa
/- THE CELL 'sum', in the pinned program and in every row, IS THE sha256 OF THE DUMP (.gsa) THAT YthbjfidcaabliaaProg.lean LOADS. Nothing in Lean hashes anything: it is a label: what it is worth is what the hold of that sum in a sandbox is worth. -/
noncomputable def Try.pinned : Pinned := { name := "ythbjfidcaabliaa", sum := "68d795952cf5b0798a8c529042b5456dcd69f44f719102217bf6f84b88491cbf", checked := Try.checked }
namespace Rows
def none {H : Type} : Left H := { results := [], args := [] }

/-- 'laws.FnExactPeriodOfConstant': WHATEVER THE INPUT: true; the input reads as it did. -/
def fnExactPeriodOfConstantSpec : ChangeSpec := { name := "fnExactPeriodOfConstant", fn := fun _ => fun
  | [d1, d2] => { results := [.lit (.bool true)], args := [d1, d2] }
  | _ => none }
def fnExactPeriodOfConstantRow : OpenClaim := { program := "ythbjfidcaabliaa", sum := "68d795952cf5b0798a8c529042b5456dcd69f44f719102217bf6f84b88491cbf", func := "loop.example/g01198/laws.FnExactPeriodOfConstant", spec := "fnExactPeriodOfConstant", apart := false }
def FnExactPeriodOfConstantSaid : Prop := fnExactPeriodOfConstantRow.holds Try.pinned (OpenSpec.ofChange fnExactPeriodOfConstantSpec)

/-- ITS FALSE NEIGHBOUR: 'it returns false'. Refute it at one input. -/
def fnExactPeriodOfConstantWrong : ChangeSpec := { name := "fnExactPeriodOfConstant", fn := fun _ => fun
  | [d1, d2] => { results := [.lit (.bool false)], args := [d1, d2] }
  | _ => none }
def FnExactPeriodOfConstantWrongFalsely : Prop := fnExactPeriodOfConstantRow.holds Try.pinned (OpenSpec.ofChange fnExactPeriodOfConstantWrong)

/-- 'laws.FnExactOnesInPeriod': WHATEVER THE INPUT: true; the input reads as it did. -/
def fnExactOnesInPeriodSpec : ChangeSpec := { name := "fnExactOnesInPeriod", fn := fun _ => fun
  | [d1, d2] => { results := [.lit (.bool true)], args := [d1, d2] }
  | _ => none }
def fnExactOnesInPeriodRow : OpenClaim := { program := "ythbjfidcaabliaa", sum := "68d795952cf5b0798a8c529042b5456dcd69f44f719102217bf6f84b88491cbf", func := "loop.example/g01198/laws.FnExactOnesInPeriod", spec := "fnExactOnesInPeriod", apart := false }
def FnExactOnesInPeriodSaid : Prop := fnExactOnesInPeriodRow.holds Try.pinned (OpenSpec.ofChange fnExactOnesInPeriodSpec)

/-- ITS FALSE NEIGHBOUR: 'it returns false'. Refute it at one input. -/
def fnExactOnesInPeriodWrong : ChangeSpec := { name := "fnExactOnesInPeriod", fn := fun _ => fun
  | [d1, d2] => { results := [.lit (.bool false)], args := [d1, d2] }
  | _ => none }
def FnExactOnesInPeriodWrongFalsely : Prop := fnExactOnesInPeriodRow.holds Try.pinned (OpenSpec.ofChange fnExactOnesInPeriodWrong)

/-- 'laws.FnExactConstantsOf': WHATEVER THE INPUT: true; the input reads as it did. -/
def fnExactConstantsOfSpec : ChangeSpec := { name := "fnExactConstantsOf", fn := fun _ => fun
  | [d1, d2] => { results := [.lit (.bool true)], args := [d1, d2] }
  | _ => none }
def fnExactConstantsOfRow : OpenClaim := { program := "ythbjfidcaabliaa", sum := "68d795952cf5b0798a8c529042b5456dcd69f44f719102217bf6f84b88491cbf", func := "loop.example/g01198/laws.FnExactConstantsOf", spec := "fnExactConstantsOf", apart := false }
def FnExactConstantsOfSaid : Prop := fnExactConstantsOfRow.holds Try.pinned (OpenSpec.ofChange fnExactConstantsOfSpec)

/-- ITS FALSE NEIGHBOUR: 'it returns false'. Refute it at one input. -/
def fnExactConstantsOfWrong : ChangeSpec := { name := "fnExactConstantsOf", fn := fun _ => fun
  | [d1, d2] => { results := [.lit (.bool false)], args := [d1, d2] }
  | _ => none }
def FnExactConstantsOfWrongFalsely : Prop := fnExactConstantsOfRow.holds Try.pinned (OpenSpec.ofChange fnExactConstantsOfWrong)

/-- 'laws.FnExactIsBalancedList': WHATEVER THE INPUT: true; the input reads as it did. -/
def fnExactIsBalancedListSpec : ChangeSpec := { name := "fnExactIsBalancedList", fn := fun _ => fun
  | [d] => { results := [.lit (.bool true)], args := [d] }
  | _ => none }
def fnExactIsBalancedListRow : OpenClaim := { program := "ythbjfidcaabliaa", sum := "68d795952cf5b0798a8c529042b5456dcd69f44f719102217bf6f84b88491cbf", func := "loop.example/g01198/laws.FnExactIsBalancedList", spec := "fnExactIsBalancedList", apart := false }
def FnExactIsBalancedListSaid : Prop := fnExactIsBalancedListRow.holds Try.pinned (OpenSpec.ofChange fnExactIsBalancedListSpec)

/-- ITS FALSE NEIGHBOUR: 'it returns false'. Refute it at one input. -/
def fnExactIsBalancedListWrong : ChangeSpec := { name := "fnExactIsBalancedList", fn := fun _ => fun
  | [d] => { results := [.lit (.bool false)], args := [d] }
  | _ => none }
def FnExactIsBalancedListWrongFalsely : Prop := fnExactIsBalancedListRow.holds Try.pinned (OpenSpec.ofChange fnExactIsBalancedListWrong)

/-- 'laws.FnExactMovingSums': WHATEVER THE INPUT: true; the input reads as it did. -/
def fnExactMovingSumsSpec : ChangeSpec := { name := "fnExactMovingSums", fn := fun _ => fun
  | [d1, d2] => { results := [.lit (.bool true)], args := [d1, d2] }
  | _ => none }
def fnExactMovingSumsRow : OpenClaim := { program := "ythbjfidcaabliaa", sum := "68d795952cf5b0798a8c529042b5456dcd69f44f719102217bf6f84b88491cbf", func := "loop.example/g01198/laws.FnExactMovingSums", spec := "fnExactMovingSums", apart := false }
def FnExactMovingSumsSaid : Prop := fnExactMovingSumsRow.holds Try.pinned (OpenSpec.ofChange fnExactMovingSumsSpec)

/-- ITS FALSE NEIGHBOUR: 'it returns false'. Refute it at one input. -/
def fnExactMovingSumsWrong : ChangeSpec := { name := "fnExactMovingSums", fn := fun _ => fun
  | [d1, d2] => { results := [.lit (.bool false)], args := [d1, d2] }
  | _ => none }
def FnExactMovingSumsWrongFalsely : Prop := fnExactMovingSumsRow.holds Try.pinned (OpenSpec.ofChange fnExactMovingSumsWrong)

/-- 'laws.FnExactRunsOf': WHATEVER THE INPUT: true; the input reads as it did. -/
def fnExactRunsOfSpec : ChangeSpec := { name := "fnExactRunsOf", fn := fun _ => fun
  | [d] => { results := [.lit (.bool true)], args := [d] }
  | _ => none }
def fnExactRunsOfRow : OpenClaim := { program := "ythbjfidcaabliaa", sum := "68d795952cf5b0798a8c529042b5456dcd69f44f719102217bf6f84b88491cbf", func := "loop.example/g01198/laws.FnExactRunsOf", spec := "fnExactRunsOf", apart := false }
def FnExactRunsOfSaid : Prop := fnExactRunsOfRow.holds Try.pinned (OpenSpec.ofChange fnExactRunsOfSpec)

/-- ITS FALSE NEIGHBOUR: 'it returns false'. Refute it at one input. -/
def fnExactRunsOfWrong : ChangeSpec := { name := "fnExactRunsOf", fn := fun _ => fun
  | [d] => { results := [.lit (.bool false)], args := [d] }
  | _ => none }
def FnExactRunsOfWrongFalsely : Prop := fnExactRunsOfRow.holds Try.pinned (OpenSpec.ofChange fnExactRunsOfWrong)

/- THE SECOND FORM. 'bulk': how many values and letters a reading holds, each counted each time it is reached (what is shared counts as often as it is met; a slice's spare places count too). A statement '..UptoSaid' is the law's where the arguments, and the package variables that the reading takes, are together of bulk at most 1048576: NARROWER than '..Said'. Prove '..Said' where nothing that the law and all that it calls make is longer than what came in: it says more and counts as full. Else prove '..UptoSaid'. A law counts once. -/
mutual
def uptoBulk {H : Type} : DataW H → Nat
  | .lit (.string bytes) => bytes.length + 1
  | .lit _ => 1
  | .nil => 1
  | .ptr d => uptoBulk d + 1
  | .slice elems spare => uptoBulkAll elems + uptoBulkAll spare + 1
  | .agg parts => uptoBulkAll parts + 1
  | .iface _ d => uptoBulk d + 1
  | .map entries => uptoBulkEntries entries + 1
  | .held _ => 1
def uptoBulkAll {H : Type} : List (DataW H) → Nat
  | [] => 0
  | d :: r => uptoBulk d + uptoBulkAll r
def uptoBulkEntries {H : Type} : List (Lit × DataW H) → Nat
  | [] => 0
  | x :: r => uptoBulkEntry x + uptoBulkEntries r
def uptoBulkEntry {H : Type} : Lit × DataW H → Nat
  | (.string bytes, d) => bytes.length + uptoBulk d + 1
  | (_, d) => uptoBulk d + 1
 end
def uptoSmall : (H : Type) → List (DataW H) → Bool := fun _ ds => decide (uptoBulkAll ds ≤ 1048576)
def OpenSpec.upto (s : _root_.Go.ChangeSpec) : _root_.Go.OpenSpec := { _root_.Go.OpenSpec.ofChange s with cond := some uptoSmall }

/-- 'laws.FnExactPeriodOfConstant', WHERE WHAT IT READS IS OF BULK AT MOST 1048576: true; the input reads as it did. -/
def fnExactPeriodOfConstantUptoRow : OpenClaim := { program := "ythbjfidcaabliaa", sum := "68d795952cf5b0798a8c529042b5456dcd69f44f719102217bf6f84b88491cbf", func := "loop.example/g01198/laws.FnExactPeriodOfConstant", spec := "fnExactPeriodOfConstant", apart := false, narrowed := true }
def FnExactPeriodOfConstantUptoSaid : Prop := fnExactPeriodOfConstantUptoRow.holds Try.pinned (OpenSpec.upto fnExactPeriodOfConstantSpec)

/-- 'laws.FnExactOnesInPeriod', WHERE WHAT IT READS IS OF BULK AT MOST 1048576: true; the input reads as it did. -/
def fnExactOnesInPeriodUptoRow : OpenClaim := { program := "ythbjfidcaabliaa", sum := "68d795952cf5b0798a8c529042b5456dcd69f44f719102217bf6f84b88491cbf", func := "loop.example/g01198/laws.FnExactOnesInPeriod", spec := "fnExactOnesInPeriod", apart := false, narrowed := true }
def FnExactOnesInPeriodUptoSaid : Prop := fnExactOnesInPeriodUptoRow.holds Try.pinned (OpenSpec.upto fnExactOnesInPeriodSpec)

/-- 'laws.FnExactConstantsOf', WHERE WHAT IT READS IS OF BULK AT MOST 1048576: true; the input reads as it did. -/
def fnExactConstantsOfUptoRow : OpenClaim := { program := "ythbjfidcaabliaa", sum := "68d795952cf5b0798a8c529042b5456dcd69f44f719102217bf6f84b88491cbf", func := "loop.example/g01198/laws.FnExactConstantsOf", spec := "fnExactConstantsOf", apart := false, narrowed := true }
def FnExactConstantsOfUptoSaid : Prop := fnExactConstantsOfUptoRow.holds Try.pinned (OpenSpec.upto fnExactConstantsOfSpec)

/-- 'laws.FnExactIsBalancedList', WHERE WHAT IT READS IS OF BULK AT MOST 1048576: true; the input reads as it did. -/
def fnExactIsBalancedListUptoRow : OpenClaim := { program := "ythbjfidcaabliaa", sum := "68d795952cf5b0798a8c529042b5456dcd69f44f719102217bf6f84b88491cbf", func := "loop.example/g01198/laws.FnExactIsBalancedList", spec := "fnExactIsBalancedList", apart := false, narrowed := true }
def FnExactIsBalancedListUptoSaid : Prop := fnExactIsBalancedListUptoRow.holds Try.pinned (OpenSpec.upto fnExactIsBalancedListSpec)

/-- 'laws.FnExactMovingSums', WHERE WHAT IT READS IS OF BULK AT MOST 1048576: true; the input reads as it did. -/
def fnExactMovingSumsUptoRow : OpenClaim := { program := "ythbjfidcaabliaa", sum := "68d795952cf5b0798a8c529042b5456dcd69f44f719102217bf6f84b88491cbf", func := "loop.example/g01198/laws.FnExactMovingSums", spec := "fnExactMovingSums", apart := false, narrowed := true }
def FnExactMovingSumsUptoSaid : Prop := fnExactMovingSumsUptoRow.holds Try.pinned (OpenSpec.upto fnExactMovingSumsSpec)

/-- 'laws.FnExactRunsOf', WHERE WHAT IT READS IS OF BULK AT MOST 1048576: true; the input reads as it did. -/
def fnExactRunsOfUptoRow : OpenClaim := { program := "ythbjfidcaabliaa", sum := "68d795952cf5b0798a8c529042b5456dcd69f44f719102217bf6f84b88491cbf", func := "loop.example/g01198/laws.FnExactRunsOf", spec := "fnExactRunsOf", apart := false, narrowed := true }
def FnExactRunsOfUptoSaid : Prop := fnExactRunsOfUptoRow.holds Try.pinned (OpenSpec.upto fnExactRunsOfSpec)

end Rows
end Go.Proofs.Ythbjfidcaabliaa
