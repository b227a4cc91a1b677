/-
  No cell of these rows narrows 'for every input' (looked for: loops, veiled, ifaces, maps, wideKeys, modest, calm, conditions, laid).
  DERIVED. THE GIVEN ROWS OF THIS SEAT. 2 by the template 'for every input the law returns true; each argument reads behind the call as it read before'; 0 by the template 'total and deterministic' (their statements: YtbbfigbfkhlddaaTotals.lean).
  GIVEN WITH THE SEED: the statements are not yours to turn. If you find one false, say at which input.
  Laid BY PROGRAM, IN A SANDBOX (cutbox-rows.mjs): the forced cells as the released guide's own fill.sh prints them over the translation 35f3ab58dfdf75b1… (all of the seat's roots in one cut). By AI agents, Wed Nov 11 2026. No macro, syntax, notation, axiom, sorry.
-/
import Derived.Test.YtbbfigbfkhlddaaChecked
import GoSem.Claim
import GoSem.ClaimJoined
import GoSem.ClaimMapViews
import Derived.JoinedTies
import Derived.KernelRfl
namespace Go.Proofs.Ytbbfigbfkhlddaa
/- THE CELL 'sum', in the pinned program and in every row, IS THE sha256 OF THE DUMP (.gsa) THAT YtbbfigbfkhlddaaProg.lean LOADS. Nothing in Lean hashes anything: it is a label: what it is worth is what the hold of that sum in a sandbox is worth. -/
noncomputable def Try.pinned : Pinned := { name := "ytbbfigbfkhlddaa", sum := "35f3ab58dfdf75b18e8cd39a1ad82a896b92c8d48e6b7ad12c49f7f1655ff57a", checked := Try.checked }
namespace Rows
def none {H : Type} : Left H := { results := [], args := [] }

/-- 'laws.FnExactPairPeriod': WHATEVER THE INPUT: true; the input reads as it did. -/
def fnExactPairPeriodSpec : ChangeSpec := { name := "fnExactPairPeriod", fn := fun _ => fun
  | [d1, d2, d3, d4] => { results := [.lit (.bool true)], args := [d1, d2, d3, d4] }
  | _ => none }
def fnExactPairPeriodRow : OpenClaim := { program := "ytbbfigbfkhlddaa", sum := "35f3ab58dfdf75b18e8cd39a1ad82a896b92c8d48e6b7ad12c49f7f1655ff57a", func := "loop.example/g01198/laws.FnExactPairPeriod", spec := "fnExactPairPeriod", unfollowed := true, recurses := true, plainKeys := false, apart := false }
def FnExactPairPeriodSaid : Prop := fnExactPairPeriodRow.holds Try.pinned (OpenSpec.ofChange fnExactPairPeriodSpec)

/-- ITS FALSE NEIGHBOUR: 'it returns false'. Refute it at one input. -/
def fnExactPairPeriodWrong : ChangeSpec := { name := "fnExactPairPeriod", fn := fun _ => fun
  | [d1, d2, d3, d4] => { results := [.lit (.bool false)], args := [d1, d2, d3, d4] }
  | _ => none }
def FnExactPairPeriodWrongFalsely : Prop := fnExactPairPeriodRow.holds Try.pinned (OpenSpec.ofChange fnExactPairPeriodWrong)

/-- 'laws.FnExactCycleOfPair': WHATEVER THE INPUT: true; the input reads as it did. -/
def fnExactCycleOfPairSpec : ChangeSpec := { name := "fnExactCycleOfPair", fn := fun _ => fun
  | [d1, d2, d3, d4] => { results := [.lit (.bool true)], args := [d1, d2, d3, d4] }
  | _ => none }
def fnExactCycleOfPairRow : OpenClaim := { program := "ytbbfigbfkhlddaa", sum := "35f3ab58dfdf75b18e8cd39a1ad82a896b92c8d48e6b7ad12c49f7f1655ff57a", func := "loop.example/g01198/laws.FnExactCycleOfPair", spec := "fnExactCycleOfPair", unfollowed := true, recurses := true, plainKeys := false, apart := false }
def FnExactCycleOfPairSaid : Prop := fnExactCycleOfPairRow.holds Try.pinned (OpenSpec.ofChange fnExactCycleOfPairSpec)

/-- ITS FALSE NEIGHBOUR: 'it returns false'. Refute it at one input. -/
def fnExactCycleOfPairWrong : ChangeSpec := { name := "fnExactCycleOfPair", fn := fun _ => fun
  | [d1, d2, d3, d4] => { results := [.lit (.bool false)], args := [d1, d2, d3, d4] }
  | _ => none }
def FnExactCycleOfPairWrongFalsely : Prop := fnExactCycleOfPairRow.holds Try.pinned (OpenSpec.ofChange fnExactCycleOfPairWrong)

/- THE SECOND FORM. 'bulk': how many values and letters a reading holds, each counted each time it is reached (what is shared counts as often as it is met; a slice's spare places count too). A statement '..UptoSaid' is the law's where the arguments, and the package variables that the reading takes, are together of bulk at most 1048576: NARROWER than '..Said'. Prove '..Said' where nothing that the law and all that it calls make is longer than what came in: it says more and counts as full. Else prove '..UptoSaid'. A law counts once. -/
mutual
def uptoBulk {H : Type} : DataW H → Nat
  | .lit (.string bytes) => bytes.length + 1
  | .lit _ => 1
  | .nil => 1
  | .ptr d => uptoBulk d + 1
  | .slice elems spare => uptoBulkAll elems + uptoBulkAll spare + 1
  | .agg parts => uptoBulkAll parts + 1
  | .iface _ d => uptoBulk d + 1
  | .map entries => uptoBulkEntries entries + 1
  | .held _ => 1
def uptoBulkAll {H : Type} : List (DataW H) → Nat
  | [] => 0
  | d :: r => uptoBulk d + uptoBulkAll r
def uptoBulkEntries {H : Type} : List (Lit × DataW H) → Nat
  | [] => 0
  | x :: r => uptoBulkEntry x + uptoBulkEntries r
def uptoBulkEntry {H : Type} : Lit × DataW H → Nat
  | (.string bytes, d) => bytes.length + uptoBulk d + 1
  | (_, d) => uptoBulk d + 1
 end
def uptoSmall : (H : Type) → List (DataW H) → Bool := fun _ ds => decide (uptoBulkAll ds ≤ 1048576)
def OpenSpec.upto (s : _root_.Go.ChangeSpec) : _root_.Go.OpenSpec := { _root_.Go.OpenSpec.ofChange s with cond := some uptoSmall }

/-- 'laws.FnExactPairPeriod', WHERE WHAT IT READS IS OF BULK AT MOST 1048576: true; the input reads as it did. -/
def fnExactPairPeriodUptoRow : OpenClaim := { program := "ytbbfigbfkhlddaa", sum := "35f3ab58dfdf75b18e8cd39a1ad82a896b92c8d48e6b7ad12c49f7f1655ff57a", func := "loop.example/g01198/laws.FnExactPairPeriod", spec := "fnExactPairPeriod", unfollowed := true, recurses := true, plainKeys := false, apart := false, narrowed := true }
def FnExactPairPeriodUptoSaid : Prop := fnExactPairPeriodUptoRow.holds Try.pinned (OpenSpec.upto fnExactPairPeriodSpec)

/-- 'laws.FnExactCycleOfPair', WHERE WHAT IT READS IS OF BULK AT MOST 1048576: true; the input reads as it did. -/
def fnExactCycleOfPairUptoRow : OpenClaim := { program := "ytbbfigbfkhlddaa", sum := "35f3ab58dfdf75b18e8cd39a1ad82a896b92c8d48e6b7ad12c49f7f1655ff57a", func := "loop.example/g01198/laws.FnExactCycleOfPair", spec := "fnExactCycleOfPair", unfollowed := true, recurses := true, plainKeys := false, apart := false, narrowed := true }
def FnExactCycleOfPairUptoSaid : Prop := fnExactCycleOfPairUptoRow.holds Try.pinned (OpenSpec.upto fnExactCycleOfPairSpec)

end Rows
end Go.Proofs.Ytbbfigbfkhlddaa
