/-
  No cell of these rows narrows 'for every input' (looked for: loops, veiled, ifaces, maps, wideKeys, modest, calm, conditions, laid).
  DERIVED. THE GIVEN ROWS OF THIS SEAT. 6 by the template 'for every input the law returns true; each argument reads behind the call as it read before'; 0 by the template 'total and deterministic' (their statements: YtdgoenpkiakilaaTotals.lean).
  GIVEN WITH THE SEED: the statements are not yours to turn. If you find one false, say at which input.
  Laid BY PROGRAM, IN A SANDBOX (cutbox-rows.mjs): the forced cells as the released guide's own fill.sh prints them over the translation 85f1186a35fb2131… (all of the seat's roots in one cut). By AI agents, Wed Nov 11 2026. No macro, syntax, notation, axiom, sorry.
-/
import Derived.Test.YtdgoenpkiakilaaChecked
import GoSem.Claim
import GoSem.ClaimJoined
import GoSem.ClaimMapViews
import Derived.JoinedTies
import Derived.KernelRfl
namespace Go.Proofs.Ytdgoenpkiakilaa
/- THE CELL 'sum', in the pinned program and in every row, IS THE sha256 OF THE DUMP (.gsa) THAT YtdgoenpkiakilaaProg.lean LOADS. Nothing in Lean hashes anything: it is a label: what it is worth is what the hold of that sum in a sandbox is worth. -/
noncomputable def Try.pinned : Pinned := { name := "ytdgoenpkiakilaa", sum := "85f1186a35fb2131884ab7327e82bf2efce57ba1e62f3c88af77a4fa262bbd70", checked := Try.checked }
namespace Rows
def none {H : Type} : Left H := { results := [], args := [] }

/-- 'laws.FnExactIsSecond': WHATEVER THE INPUT: true; the input reads as it did. -/
def fnExactIsSecondSpec : ChangeSpec := { name := "fnExactIsSecond", fn := fun _ => fun
  | [d] => { results := [.lit (.bool true)], args := [d] }
  | _ => none }
def fnExactIsSecondRow : OpenClaim := { program := "ytdgoenpkiakilaa", sum := "85f1186a35fb2131884ab7327e82bf2efce57ba1e62f3c88af77a4fa262bbd70", func := "loop.example/g01198/laws.FnExactIsSecond", spec := "fnExactIsSecond", apart := false }
def FnExactIsSecondSaid : Prop := fnExactIsSecondRow.holds Try.pinned (OpenSpec.ofChange fnExactIsSecondSpec)

/-- ITS FALSE NEIGHBOUR: 'it returns false'. Refute it at one input. -/
def fnExactIsSecondWrong : ChangeSpec := { name := "fnExactIsSecond", fn := fun _ => fun
  | [d] => { results := [.lit (.bool false)], args := [d] }
  | _ => none }
def FnExactIsSecondWrongFalsely : Prop := fnExactIsSecondRow.holds Try.pinned (OpenSpec.ofChange fnExactIsSecondWrong)

/-- 'laws.FnExactIsInTriangle': WHATEVER THE INPUT: true; the input reads as it did. -/
def fnExactIsInTriangleSpec : ChangeSpec := { name := "fnExactIsInTriangle", fn := fun _ => fun
  | [d] => { results := [.lit (.bool true)], args := [d] }
  | _ => none }
def fnExactIsInTriangleRow : OpenClaim := { program := "ytdgoenpkiakilaa", sum := "85f1186a35fb2131884ab7327e82bf2efce57ba1e62f3c88af77a4fa262bbd70", func := "loop.example/g01198/laws.FnExactIsInTriangle", spec := "fnExactIsInTriangle", apart := false }
def FnExactIsInTriangleSaid : Prop := fnExactIsInTriangleRow.holds Try.pinned (OpenSpec.ofChange fnExactIsInTriangleSpec)

/-- ITS FALSE NEIGHBOUR: 'it returns false'. Refute it at one input. -/
def fnExactIsInTriangleWrong : ChangeSpec := { name := "fnExactIsInTriangle", fn := fun _ => fun
  | [d] => { results := [.lit (.bool false)], args := [d] }
  | _ => none }
def FnExactIsInTriangleWrongFalsely : Prop := fnExactIsInTriangleRow.holds Try.pinned (OpenSpec.ofChange fnExactIsInTriangleWrong)

/-- 'laws.FnExactRootsOf': WHATEVER THE INPUT: true; the input reads as it did. -/
def fnExactRootsOfSpec : ChangeSpec := { name := "fnExactRootsOf", fn := fun _ => fun
  | [d] => { results := [.lit (.bool true)], args := [d] }
  | _ => none }
def fnExactRootsOfRow : OpenClaim := { program := "ytdgoenpkiakilaa", sum := "85f1186a35fb2131884ab7327e82bf2efce57ba1e62f3c88af77a4fa262bbd70", func := "loop.example/g01198/laws.FnExactRootsOf", spec := "fnExactRootsOf", apart := false }
def FnExactRootsOfSaid : Prop := fnExactRootsOfRow.holds Try.pinned (OpenSpec.ofChange fnExactRootsOfSpec)

/-- ITS FALSE NEIGHBOUR: 'it returns false'. Refute it at one input. -/
def fnExactRootsOfWrong : ChangeSpec := { name := "fnExactRootsOf", fn := fun _ => fun
  | [d] => { results := [.lit (.bool false)], args := [d] }
  | _ => none }
def FnExactRootsOfWrongFalsely : Prop := fnExactRootsOfRow.holds Try.pinned (OpenSpec.ofChange fnExactRootsOfWrong)

/-- 'laws.FnExactSecondOfFirsts': WHATEVER THE INPUT: true; the input reads as it did. -/
def fnExactSecondOfFirstsSpec : ChangeSpec := { name := "fnExactSecondOfFirsts", fn := fun _ => fun
  | [d1, d2] => { results := [.lit (.bool true)], args := [d1, d2] }
  | _ => none }
def fnExactSecondOfFirstsRow : OpenClaim := { program := "ytdgoenpkiakilaa", sum := "85f1186a35fb2131884ab7327e82bf2efce57ba1e62f3c88af77a4fa262bbd70", func := "loop.example/g01198/laws.FnExactSecondOfFirsts", spec := "fnExactSecondOfFirsts", apart := false }
def FnExactSecondOfFirstsSaid : Prop := fnExactSecondOfFirstsRow.holds Try.pinned (OpenSpec.ofChange fnExactSecondOfFirstsSpec)

/-- ITS FALSE NEIGHBOUR: 'it returns false'. Refute it at one input. -/
def fnExactSecondOfFirstsWrong : ChangeSpec := { name := "fnExactSecondOfFirsts", fn := fun _ => fun
  | [d1, d2] => { results := [.lit (.bool false)], args := [d1, d2] }
  | _ => none }
def FnExactSecondOfFirstsWrongFalsely : Prop := fnExactSecondOfFirstsRow.holds Try.pinned (OpenSpec.ofChange fnExactSecondOfFirstsWrong)

/-- 'laws.FnExactSecondStep': WHATEVER THE INPUT: true; the input reads as it did. -/
def fnExactSecondStepSpec : ChangeSpec := { name := "fnExactSecondStep", fn := fun _ => fun
  | [d1, d2, d3, d4] => { results := [.lit (.bool true)], args := [d1, d2, d3, d4] }
  | _ => none }
def fnExactSecondStepRow : OpenClaim := { program := "ytdgoenpkiakilaa", sum := "85f1186a35fb2131884ab7327e82bf2efce57ba1e62f3c88af77a4fa262bbd70", func := "loop.example/g01198/laws.FnExactSecondStep", spec := "fnExactSecondStep", unfollowed := true, recurses := true, apart := false }
def FnExactSecondStepSaid : Prop := fnExactSecondStepRow.holds Try.pinned (OpenSpec.ofChange fnExactSecondStepSpec)

/-- ITS FALSE NEIGHBOUR: 'it returns false'. Refute it at one input. -/
def fnExactSecondStepWrong : ChangeSpec := { name := "fnExactSecondStep", fn := fun _ => fun
  | [d1, d2, d3, d4] => { results := [.lit (.bool false)], args := [d1, d2, d3, d4] }
  | _ => none }
def FnExactSecondStepWrongFalsely : Prop := fnExactSecondStepRow.holds Try.pinned (OpenSpec.ofChange fnExactSecondStepWrong)

/-- 'laws.FnExactExactSecond': WHATEVER THE INPUT: true; the input reads as it did. -/
def fnExactExactSecondSpec : ChangeSpec := { name := "fnExactExactSecond", fn := fun _ => fun
  | [d1, d2, d3, d4] => { results := [.lit (.bool true)], args := [d1, d2, d3, d4] }
  | _ => none }
def fnExactExactSecondRow : OpenClaim := { program := "ytdgoenpkiakilaa", sum := "85f1186a35fb2131884ab7327e82bf2efce57ba1e62f3c88af77a4fa262bbd70", func := "loop.example/g01198/laws.FnExactExactSecond", spec := "fnExactExactSecond", apart := false }
def FnExactExactSecondSaid : Prop := fnExactExactSecondRow.holds Try.pinned (OpenSpec.ofChange fnExactExactSecondSpec)

/-- ITS FALSE NEIGHBOUR: 'it returns false'. Refute it at one input. -/
def fnExactExactSecondWrong : ChangeSpec := { name := "fnExactExactSecond", fn := fun _ => fun
  | [d1, d2, d3, d4] => { results := [.lit (.bool false)], args := [d1, d2, d3, d4] }
  | _ => none }
def FnExactExactSecondWrongFalsely : Prop := fnExactExactSecondRow.holds Try.pinned (OpenSpec.ofChange fnExactExactSecondWrong)

/- THE SECOND FORM. 'bulk': how many values and letters a reading holds, each counted each time it is reached (what is shared counts as often as it is met; a slice's spare places count too). A statement '..UptoSaid' is the law's where the arguments, and the package variables that the reading takes, are together of bulk at most 1048576: NARROWER than '..Said'. Prove '..Said' where nothing that the law and all that it calls make is longer than what came in: it says more and counts as full. Else prove '..UptoSaid'. A law counts once. -/
mutual
def uptoBulk {H : Type} : DataW H → Nat
  | .lit (.string bytes) => bytes.length + 1
  | .lit _ => 1
  | .nil => 1
  | .ptr d => uptoBulk d + 1
  | .slice elems spare => uptoBulkAll elems + uptoBulkAll spare + 1
  | .agg parts => uptoBulkAll parts + 1
  | .iface _ d => uptoBulk d + 1
  | .map entries => uptoBulkEntries entries + 1
  | .held _ => 1
def uptoBulkAll {H : Type} : List (DataW H) → Nat
  | [] => 0
  | d :: r => uptoBulk d + uptoBulkAll r
def uptoBulkEntries {H : Type} : List (Lit × DataW H) → Nat
  | [] => 0
  | x :: r => uptoBulkEntry x + uptoBulkEntries r
def uptoBulkEntry {H : Type} : Lit × DataW H → Nat
  | (.string bytes, d) => bytes.length + uptoBulk d + 1
  | (_, d) => uptoBulk d + 1
 end
def uptoSmall : (H : Type) → List (DataW H) → Bool := fun _ ds => decide (uptoBulkAll ds ≤ 1048576)
def OpenSpec.upto (s : _root_.Go.ChangeSpec) : _root_.Go.OpenSpec := { _root_.Go.OpenSpec.ofChange s with cond := some uptoSmall }

/-- 'laws.FnExactIsSecond', WHERE WHAT IT READS IS OF BULK AT MOST 1048576: true; the input reads as it did. -/
def fnExactIsSecondUptoRow : OpenClaim := { program := "ytdgoenpkiakilaa", sum := "85f1186a35fb2131884ab7327e82bf2efce57ba1e62f3c88af77a4fa262bbd70", func := "loop.example/g01198/laws.FnExactIsSecond", spec := "fnExactIsSecond", apart := false, narrowed := true }
def FnExactIsSecondUptoSaid : Prop := fnExactIsSecondUptoRow.holds Try.pinned (OpenSpec.upto fnExactIsSecondSpec)

/-- 'laws.FnExactIsInTriangle', WHERE WHAT IT READS IS OF BULK AT MOST 1048576: true; the input reads as it did. -/
def fnExactIsInTriangleUptoRow : OpenClaim := { program := "ytdgoenpkiakilaa", sum := "85f1186a35fb2131884ab7327e82bf2efce57ba1e62f3c88af77a4fa262bbd70", func := "loop.example/g01198/laws.FnExactIsInTriangle", spec := "fnExactIsInTriangle", apart := false, narrowed := true }
def FnExactIsInTriangleUptoSaid : Prop := fnExactIsInTriangleUptoRow.holds Try.pinned (OpenSpec.upto fnExactIsInTriangleSpec)

/-- 'laws.FnExactRootsOf', WHERE WHAT IT READS IS OF BULK AT MOST 1048576: true; the input reads as it did. -/
def fnExactRootsOfUptoRow : OpenClaim := { program := "ytdgoenpkiakilaa", sum := "85f1186a35fb2131884ab7327e82bf2efce57ba1e62f3c88af77a4fa262bbd70", func := "loop.example/g01198/laws.FnExactRootsOf", spec := "fnExactRootsOf", apart := false, narrowed := true }
def FnExactRootsOfUptoSaid : Prop := fnExactRootsOfUptoRow.holds Try.pinned (OpenSpec.upto fnExactRootsOfSpec)

/-- 'laws.FnExactSecondOfFirsts', WHERE WHAT IT READS IS OF BULK AT MOST 1048576: true; the input reads as it did. -/
def fnExactSecondOfFirstsUptoRow : OpenClaim := { program := "ytdgoenpkiakilaa", sum := "85f1186a35fb2131884ab7327e82bf2efce57ba1e62f3c88af77a4fa262bbd70", func := "loop.example/g01198/laws.FnExactSecondOfFirsts", spec := "fnExactSecondOfFirsts", apart := false, narrowed := true }
def FnExactSecondOfFirstsUptoSaid : Prop := fnExactSecondOfFirstsUptoRow.holds Try.pinned (OpenSpec.upto fnExactSecondOfFirstsSpec)

/-- 'laws.FnExactSecondStep', WHERE WHAT IT READS IS OF BULK AT MOST 1048576: true; the input reads as it did. -/
def fnExactSecondStepUptoRow : OpenClaim := { program := "ytdgoenpkiakilaa", sum := "85f1186a35fb2131884ab7327e82bf2efce57ba1e62f3c88af77a4fa262bbd70", func := "loop.example/g01198/laws.FnExactSecondStep", spec := "fnExactSecondStep", unfollowed := true, recurses := true, apart := false, narrowed := true }
def FnExactSecondStepUptoSaid : Prop := fnExactSecondStepUptoRow.holds Try.pinned (OpenSpec.upto fnExactSecondStepSpec)

/-- 'laws.FnExactExactSecond', WHERE WHAT IT READS IS OF BULK AT MOST 1048576: true; the input reads as it did. -/
def fnExactExactSecondUptoRow : OpenClaim := { program := "ytdgoenpkiakilaa", sum := "85f1186a35fb2131884ab7327e82bf2efce57ba1e62f3c88af77a4fa262bbd70", func := "loop.example/g01198/laws.FnExactExactSecond", spec := "fnExactExactSecond", apart := false, narrowed := true }
def FnExactExactSecondUptoSaid : Prop := fnExactExactSecondUptoRow.holds Try.pinned (OpenSpec.upto fnExactExactSecondSpec)

end Rows
end Go.Proofs.Ytdgoenpkiakilaa
