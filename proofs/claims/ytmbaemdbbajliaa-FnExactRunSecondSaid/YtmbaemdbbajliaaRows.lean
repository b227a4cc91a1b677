/-
  No cell of these rows narrows 'for every input' (looked for: loops, veiled, ifaces, maps, wideKeys, modest, calm, conditions, laid).
  DERIVED. THE GIVEN ROWS OF THIS SEAT. 5 by the template 'for every input the law returns true; each argument reads behind the call as it read before'; 0 by the template 'total and deterministic' (their statements: YtmbaemdbbajliaaTotals.lean).
  GIVEN WITH THE SEED: the statements are not yours to turn. If you find one false, say at which input.
  Laid BY PROGRAM, IN A SANDBOX (cutbox-rows.mjs): the forced cells as the released guide's own fill.sh prints them over the translation 9f42926328a0052d… (all of the seat's roots in one cut). By AI agents, Wed Nov 11 2026. No macro, syntax, notation, axiom, sorry.
-/
import Derived.Test.YtmbaemdbbajliaaChecked
import GoSem.Claim
import GoSem.ClaimJoined
import GoSem.ClaimMapViews
import Derived.JoinedTies
import Derived.KernelRfl
namespace Go.Proofs.Ytmbaemdbbajliaa
/- THE CELL 'sum', in the pinned program and in every row, IS THE sha256 OF THE DUMP (.gsa) THAT YtmbaemdbbajliaaProg.lean LOADS. Nothing in Lean hashes anything: it is a label: what it is worth is what the hold of that sum in a sandbox is worth. -/
noncomputable def Try.pinned : Pinned := { name := "ytmbaemdbbajliaa", sum := "9f42926328a0052dc5c8b4c82e9e70c8ae7f11449acf77c49369fcdc1cd374e8", checked := Try.checked }
namespace Rows
def none {H : Type} : Left H := { results := [], args := [] }

/-- 'laws.FnExactRunSecond': WHATEVER THE INPUT: true; the input reads as it did. -/
def fnExactRunSecondSpec : ChangeSpec := { name := "fnExactRunSecond", fn := fun _ => fun
  | [d1, d2, d3, d4] => { results := [.lit (.bool true)], args := [d1, d2, d3, d4] }
  | _ => none }
def fnExactRunSecondRow : OpenClaim := { program := "ytmbaemdbbajliaa", sum := "9f42926328a0052dc5c8b4c82e9e70c8ae7f11449acf77c49369fcdc1cd374e8", func := "loop.example/g01198/laws.FnExactRunSecond", spec := "fnExactRunSecond", unfollowed := true, recurses := true, plainKeys := false, apart := false }
def FnExactRunSecondSaid : Prop := fnExactRunSecondRow.holds Try.pinned (OpenSpec.ofChange fnExactRunSecondSpec)

/-- ITS FALSE NEIGHBOUR: 'it returns false'. Refute it at one input. -/
def fnExactRunSecondWrong : ChangeSpec := { name := "fnExactRunSecond", fn := fun _ => fun
  | [d1, d2, d3, d4] => { results := [.lit (.bool false)], args := [d1, d2, d3, d4] }
  | _ => none }
def FnExactRunSecondWrongFalsely : Prop := fnExactRunSecondRow.holds Try.pinned (OpenSpec.ofChange fnExactRunSecondWrong)

/-- 'laws.FnExactCountPairFits': WHATEVER THE INPUT: true; the input reads as it did. -/
def fnExactCountPairFitsSpec : ChangeSpec := { name := "fnExactCountPairFits", fn := fun _ => fun
  | [d1, d2, d3, d4] => { results := [.lit (.bool true)], args := [d1, d2, d3, d4] }
  | _ => none }
def fnExactCountPairFitsRow : OpenClaim := { program := "ytmbaemdbbajliaa", sum := "9f42926328a0052dc5c8b4c82e9e70c8ae7f11449acf77c49369fcdc1cd374e8", func := "loop.example/g01198/laws.FnExactCountPairFits", spec := "fnExactCountPairFits", unfollowed := true, recurses := true, plainKeys := false, apart := false }
def FnExactCountPairFitsSaid : Prop := fnExactCountPairFitsRow.holds Try.pinned (OpenSpec.ofChange fnExactCountPairFitsSpec)

/-- ITS FALSE NEIGHBOUR: 'it returns false'. Refute it at one input. -/
def fnExactCountPairFitsWrong : ChangeSpec := { name := "fnExactCountPairFits", fn := fun _ => fun
  | [d1, d2, d3, d4] => { results := [.lit (.bool false)], args := [d1, d2, d3, d4] }
  | _ => none }
def FnExactCountPairFitsWrongFalsely : Prop := fnExactCountPairFitsRow.holds Try.pinned (OpenSpec.ofChange fnExactCountPairFitsWrong)

/-- 'laws.FnExactPairPeriod': WHATEVER THE INPUT: true; the input reads as it did. -/
def fnExactPairPeriodSpec : ChangeSpec := { name := "fnExactPairPeriod", fn := fun _ => fun
  | [d1, d2, d3, d4] => { results := [.lit (.bool true)], args := [d1, d2, d3, d4] }
  | _ => none }
def fnExactPairPeriodRow : OpenClaim := { program := "ytmbaemdbbajliaa", sum := "9f42926328a0052dc5c8b4c82e9e70c8ae7f11449acf77c49369fcdc1cd374e8", func := "loop.example/g01198/laws.FnExactPairPeriod", spec := "fnExactPairPeriod", unfollowed := true, recurses := true, plainKeys := false, apart := false }
def FnExactPairPeriodSaid : Prop := fnExactPairPeriodRow.holds Try.pinned (OpenSpec.ofChange fnExactPairPeriodSpec)

/-- ITS FALSE NEIGHBOUR: 'it returns false'. Refute it at one input. -/
def fnExactPairPeriodWrong : ChangeSpec := { name := "fnExactPairPeriod", fn := fun _ => fun
  | [d1, d2, d3, d4] => { results := [.lit (.bool false)], args := [d1, d2, d3, d4] }
  | _ => none }
def FnExactPairPeriodWrongFalsely : Prop := fnExactPairPeriodRow.holds Try.pinned (OpenSpec.ofChange fnExactPairPeriodWrong)

/-- 'laws.FnExactCycleOfPair': WHATEVER THE INPUT: true; the input reads as it did. -/
def fnExactCycleOfPairSpec : ChangeSpec := { name := "fnExactCycleOfPair", fn := fun _ => fun
  | [d1, d2, d3, d4] => { results := [.lit (.bool true)], args := [d1, d2, d3, d4] }
  | _ => none }
def fnExactCycleOfPairRow : OpenClaim := { program := "ytmbaemdbbajliaa", sum := "9f42926328a0052dc5c8b4c82e9e70c8ae7f11449acf77c49369fcdc1cd374e8", func := "loop.example/g01198/laws.FnExactCycleOfPair", spec := "fnExactCycleOfPair", unfollowed := true, recurses := true, plainKeys := false, apart := false }
def FnExactCycleOfPairSaid : Prop := fnExactCycleOfPairRow.holds Try.pinned (OpenSpec.ofChange fnExactCycleOfPairSpec)

/-- ITS FALSE NEIGHBOUR: 'it returns false'. Refute it at one input. -/
def fnExactCycleOfPairWrong : ChangeSpec := { name := "fnExactCycleOfPair", fn := fun _ => fun
  | [d1, d2, d3, d4] => { results := [.lit (.bool false)], args := [d1, d2, d3, d4] }
  | _ => none }
def FnExactCycleOfPairWrongFalsely : Prop := fnExactCycleOfPairRow.holds Try.pinned (OpenSpec.ofChange fnExactCycleOfPairWrong)

/-- 'laws.FnExactPairsBefore': WHATEVER THE INPUT: true; the input reads as it did. -/
def fnExactPairsBeforeSpec : ChangeSpec := { name := "fnExactPairsBefore", fn := fun _ => fun
  | [d1, d2, d3, d4] => { results := [.lit (.bool true)], args := [d1, d2, d3, d4] }
  | _ => none }
def fnExactPairsBeforeRow : OpenClaim := { program := "ytmbaemdbbajliaa", sum := "9f42926328a0052dc5c8b4c82e9e70c8ae7f11449acf77c49369fcdc1cd374e8", func := "loop.example/g01198/laws.FnExactPairsBefore", spec := "fnExactPairsBefore", unfollowed := true, recurses := true, plainKeys := false, apart := false }
def FnExactPairsBeforeSaid : Prop := fnExactPairsBeforeRow.holds Try.pinned (OpenSpec.ofChange fnExactPairsBeforeSpec)

/-- ITS FALSE NEIGHBOUR: 'it returns false'. Refute it at one input. -/
def fnExactPairsBeforeWrong : ChangeSpec := { name := "fnExactPairsBefore", fn := fun _ => fun
  | [d1, d2, d3, d4] => { results := [.lit (.bool false)], args := [d1, d2, d3, d4] }
  | _ => none }
def FnExactPairsBeforeWrongFalsely : Prop := fnExactPairsBeforeRow.holds Try.pinned (OpenSpec.ofChange fnExactPairsBeforeWrong)

/- THE SECOND FORM. 'bulk': how many values and letters a reading holds, each counted each time it is reached (what is shared counts as often as it is met; a slice's spare places count too). A statement '..UptoSaid' is the law's where the arguments, and the package variables that the reading takes, are together of bulk at most 1048576: NARROWER than '..Said'. Prove '..Said' where nothing that the law and all that it calls make is longer than what came in: it says more and counts as full. Else prove '..UptoSaid'. A law counts once. -/
mutual
def uptoBulk {H : Type} : DataW H → Nat
  | .lit (.string bytes) => bytes.length + 1
  | .lit _ => 1
  | .nil => 1
  | .ptr d => uptoBulk d + 1
  | .slice elems spare => uptoBulkAll elems + uptoBulkAll spare + 1
  | .agg parts => uptoBulkAll parts + 1
  | .iface _ d => uptoBulk d + 1
  | .map entries => uptoBulkEntries entries + 1
  | .held _ => 1
def uptoBulkAll {H : Type} : List (DataW H) → Nat
  | [] => 0
  | d :: r => uptoBulk d + uptoBulkAll r
def uptoBulkEntries {H : Type} : List (Lit × DataW H) → Nat
  | [] => 0
  | x :: r => uptoBulkEntry x + uptoBulkEntries r
def uptoBulkEntry {H : Type} : Lit × DataW H → Nat
  | (.string bytes, d) => bytes.length + uptoBulk d + 1
  | (_, d) => uptoBulk d + 1
 end
def uptoSmall : (H : Type) → List (DataW H) → Bool := fun _ ds => decide (uptoBulkAll ds ≤ 1048576)
def OpenSpec.upto (s : _root_.Go.ChangeSpec) : _root_.Go.OpenSpec := { _root_.Go.OpenSpec.ofChange s with cond := some uptoSmall }

/-- 'laws.FnExactRunSecond', WHERE WHAT IT READS IS OF BULK AT MOST 1048576: true; the input reads as it did. -/
def fnExactRunSecondUptoRow : OpenClaim := { program := "ytmbaemdbbajliaa", sum := "9f42926328a0052dc5c8b4c82e9e70c8ae7f11449acf77c49369fcdc1cd374e8", func := "loop.example/g01198/laws.FnExactRunSecond", spec := "fnExactRunSecond", unfollowed := true, recurses := true, plainKeys := false, apart := false, narrowed := true }
def FnExactRunSecondUptoSaid : Prop := fnExactRunSecondUptoRow.holds Try.pinned (OpenSpec.upto fnExactRunSecondSpec)

/-- 'laws.FnExactCountPairFits', WHERE WHAT IT READS IS OF BULK AT MOST 1048576: true; the input reads as it did. -/
def fnExactCountPairFitsUptoRow : OpenClaim := { program := "ytmbaemdbbajliaa", sum := "9f42926328a0052dc5c8b4c82e9e70c8ae7f11449acf77c49369fcdc1cd374e8", func := "loop.example/g01198/laws.FnExactCountPairFits", spec := "fnExactCountPairFits", unfollowed := true, recurses := true, plainKeys := false, apart := false, narrowed := true }
def FnExactCountPairFitsUptoSaid : Prop := fnExactCountPairFitsUptoRow.holds Try.pinned (OpenSpec.upto fnExactCountPairFitsSpec)

/-- 'laws.FnExactPairPeriod', WHERE WHAT IT READS IS OF BULK AT MOST 1048576: true; the input reads as it did. -/
def fnExactPairPeriodUptoRow : OpenClaim := { program := "ytmbaemdbbajliaa", sum := "9f42926328a0052dc5c8b4c82e9e70c8ae7f11449acf77c49369fcdc1cd374e8", func := "loop.example/g01198/laws.FnExactPairPeriod", spec := "fnExactPairPeriod", unfollowed := true, recurses := true, plainKeys := false, apart := false, narrowed := true }
def FnExactPairPeriodUptoSaid : Prop := fnExactPairPeriodUptoRow.holds Try.pinned (OpenSpec.upto fnExactPairPeriodSpec)

/-- 'laws.FnExactCycleOfPair', WHERE WHAT IT READS IS OF BULK AT MOST 1048576: true; the input reads as it did. -/
def fnExactCycleOfPairUptoRow : OpenClaim := { program := "ytmbaemdbbajliaa", sum := "9f42926328a0052dc5c8b4c82e9e70c8ae7f11449acf77c49369fcdc1cd374e8", func := "loop.example/g01198/laws.FnExactCycleOfPair", spec := "fnExactCycleOfPair", unfollowed := true, recurses := true, plainKeys := false, apart := false, narrowed := true }
def FnExactCycleOfPairUptoSaid : Prop := fnExactCycleOfPairUptoRow.holds Try.pinned (OpenSpec.upto fnExactCycleOfPairSpec)

/-- 'laws.FnExactPairsBefore', WHERE WHAT IT READS IS OF BULK AT MOST 1048576: true; the input reads as it did. -/
def fnExactPairsBeforeUptoRow : OpenClaim := { program := "ytmbaemdbbajliaa", sum := "9f42926328a0052dc5c8b4c82e9e70c8ae7f11449acf77c49369fcdc1cd374e8", func := "loop.example/g01198/laws.FnExactPairsBefore", spec := "fnExactPairsBefore", unfollowed := true, recurses := true, plainKeys := false, apart := false, narrowed := true }
def FnExactPairsBeforeUptoSaid : Prop := fnExactPairsBeforeUptoRow.holds Try.pinned (OpenSpec.upto fnExactPairsBeforeSpec)

end Rows
end Go.Proofs.Ytmbaemdbbajliaa
