/-
  No cell of these rows narrows 'for every input' (looked for: loops, veiled, ifaces, maps, wideKeys, modest, calm, conditions, laid).
  DERIVED. THE GIVEN ROWS OF THIS SEAT. 7 by the template 'for every input the law returns true; each argument reads behind the call as it read before'; 0 by the template 'total and deterministic' (their statements: YthdbfajlmcnbaaaTotals.lean).
  GIVEN WITH THE SEED: the statements are not yours to turn. If you find one false, say at which input.
  Laid BY PROGRAM, IN A SANDBOX (cutbox-rows.mjs): the forced cells as the released guide's own fill.sh prints them over the translation 784c911d33e99aa1… (all of the seat's roots in one cut). By AI agents, Wed Nov 11 2026. No macro, syntax, notation, axiom, sorry.
-/
import Derived.Test.YthdbfajlmcnbaaaChecked
import GoSem.Claim
import GoSem.ClaimJoined
import GoSem.ClaimMapViews
import Derived.JoinedTies
import Derived.KernelRfl
namespace Go.Proofs.Ythdbfajlmcnbaaa
/- THE CELL 'sum', in the pinned program and in every row, IS THE sha256 OF THE DUMP (.gsa) THAT YthdbfajlmcnbaaaProg.lean LOADS. Nothing in Lean hashes anything: it is a label: what it is worth is what the hold of that sum in a sandbox is worth. -/
noncomputable def Try.pinned : Pinned := { name := "ythdbfajlmcnbaaa", sum := "784c911d33e99aa1cfb64415b88947236945667b3b68770cef3f43eb549119ab", checked := Try.checked }
namespace Rows
def none {H : Type} : Left H := { results := [], args := [] }

/-- 'laws.FnExactIsWord': WHATEVER THE INPUT: true; the input reads as it did. -/
def fnExactIsWordSpec : ChangeSpec := { name := "fnExactIsWord", fn := fun _ => fun
  | [d] => { results := [.lit (.bool true)], args := [d] }
  | _ => none }
def fnExactIsWordRow : OpenClaim := { program := "ythdbfajlmcnbaaa", sum := "784c911d33e99aa1cfb64415b88947236945667b3b68770cef3f43eb549119ab", func := "loop.example/g01198/laws.FnExactIsWord", spec := "fnExactIsWord", apart := false }
def FnExactIsWordSaid : Prop := fnExactIsWordRow.holds Try.pinned (OpenSpec.ofChange fnExactIsWordSpec)

/-- ITS FALSE NEIGHBOUR: 'it returns false'. Refute it at one input. -/
def fnExactIsWordWrong : ChangeSpec := { name := "fnExactIsWord", fn := fun _ => fun
  | [d] => { results := [.lit (.bool false)], args := [d] }
  | _ => none }
def FnExactIsWordWrongFalsely : Prop := fnExactIsWordRow.holds Try.pinned (OpenSpec.ofChange fnExactIsWordWrong)

/-- 'laws.FnExactRangeOf': WHATEVER THE INPUT: true; the input reads as it did. -/
def fnExactRangeOfSpec : ChangeSpec := { name := "fnExactRangeOf", fn := fun _ => fun
  | [d] => { results := [.lit (.bool true)], args := [d] }
  | _ => none }
def fnExactRangeOfRow : OpenClaim := { program := "ythdbfajlmcnbaaa", sum := "784c911d33e99aa1cfb64415b88947236945667b3b68770cef3f43eb549119ab", func := "loop.example/g01198/laws.FnExactRangeOf", spec := "fnExactRangeOf", apart := false }
def FnExactRangeOfSaid : Prop := fnExactRangeOfRow.holds Try.pinned (OpenSpec.ofChange fnExactRangeOfSpec)

/-- ITS FALSE NEIGHBOUR: 'it returns false'. Refute it at one input. -/
def fnExactRangeOfWrong : ChangeSpec := { name := "fnExactRangeOf", fn := fun _ => fun
  | [d] => { results := [.lit (.bool false)], args := [d] }
  | _ => none }
def FnExactRangeOfWrongFalsely : Prop := fnExactRangeOfRow.holds Try.pinned (OpenSpec.ofChange fnExactRangeOfWrong)

/-- 'laws.FnExactFitNumber': WHATEVER THE INPUT: true; the input reads as it did. -/
def fnExactFitNumberSpec : ChangeSpec := { name := "fnExactFitNumber", fn := fun _ => fun
  | [d1, d2] => { results := [.lit (.bool true)], args := [d1, d2] }
  | _ => none }
def fnExactFitNumberRow : OpenClaim := { program := "ythdbfajlmcnbaaa", sum := "784c911d33e99aa1cfb64415b88947236945667b3b68770cef3f43eb549119ab", func := "loop.example/g01198/laws.FnExactFitNumber", spec := "fnExactFitNumber", apart := false }
def FnExactFitNumberSaid : Prop := fnExactFitNumberRow.holds Try.pinned (OpenSpec.ofChange fnExactFitNumberSpec)

/-- ITS FALSE NEIGHBOUR: 'it returns false'. Refute it at one input. -/
def fnExactFitNumberWrong : ChangeSpec := { name := "fnExactFitNumber", fn := fun _ => fun
  | [d1, d2] => { results := [.lit (.bool false)], args := [d1, d2] }
  | _ => none }
def FnExactFitNumberWrongFalsely : Prop := fnExactFitNumberRow.holds Try.pinned (OpenSpec.ofChange fnExactFitNumberWrong)

/-- 'laws.FnExactAddIn': WHATEVER THE INPUT: true; the input reads as it did. -/
def fnExactAddInSpec : ChangeSpec := { name := "fnExactAddIn", fn := fun _ => fun
  | [d1, d2, d3] => { results := [.lit (.bool true)], args := [d1, d2, d3] }
  | _ => none }
def fnExactAddInRow : OpenClaim := { program := "ythdbfajlmcnbaaa", sum := "784c911d33e99aa1cfb64415b88947236945667b3b68770cef3f43eb549119ab", func := "loop.example/g01198/laws.FnExactAddIn", spec := "fnExactAddIn", apart := false }
def FnExactAddInSaid : Prop := fnExactAddInRow.holds Try.pinned (OpenSpec.ofChange fnExactAddInSpec)

/-- ITS FALSE NEIGHBOUR: 'it returns false'. Refute it at one input. -/
def fnExactAddInWrong : ChangeSpec := { name := "fnExactAddIn", fn := fun _ => fun
  | [d1, d2, d3] => { results := [.lit (.bool false)], args := [d1, d2, d3] }
  | _ => none }
def FnExactAddInWrongFalsely : Prop := fnExactAddInRow.holds Try.pinned (OpenSpec.ofChange fnExactAddInWrong)

/-- 'laws.FnExactLessIn': WHATEVER THE INPUT: true; the input reads as it did. -/
def fnExactLessInSpec : ChangeSpec := { name := "fnExactLessIn", fn := fun _ => fun
  | [d1, d2, d3] => { results := [.lit (.bool true)], args := [d1, d2, d3] }
  | _ => none }
def fnExactLessInRow : OpenClaim := { program := "ythdbfajlmcnbaaa", sum := "784c911d33e99aa1cfb64415b88947236945667b3b68770cef3f43eb549119ab", func := "loop.example/g01198/laws.FnExactLessIn", spec := "fnExactLessIn", apart := false }
def FnExactLessInSaid : Prop := fnExactLessInRow.holds Try.pinned (OpenSpec.ofChange fnExactLessInSpec)

/-- ITS FALSE NEIGHBOUR: 'it returns false'. Refute it at one input. -/
def fnExactLessInWrong : ChangeSpec := { name := "fnExactLessIn", fn := fun _ => fun
  | [d1, d2, d3] => { results := [.lit (.bool false)], args := [d1, d2, d3] }
  | _ => none }
def FnExactLessInWrongFalsely : Prop := fnExactLessInRow.holds Try.pinned (OpenSpec.ofChange fnExactLessInWrong)

/-- 'laws.FnExactTimesIn': WHATEVER THE INPUT: true; the input reads as it did. -/
def fnExactTimesInSpec : ChangeSpec := { name := "fnExactTimesIn", fn := fun _ => fun
  | [d1, d2, d3, d4, d5] => { results := [.lit (.bool true)], args := [d1, d2, d3, d4, d5] }
  | _ => none }
def fnExactTimesInRow : OpenClaim := { program := "ythdbfajlmcnbaaa", sum := "784c911d33e99aa1cfb64415b88947236945667b3b68770cef3f43eb549119ab", func := "loop.example/g01198/laws.FnExactTimesIn", spec := "fnExactTimesIn", apart := false }
def FnExactTimesInSaid : Prop := fnExactTimesInRow.holds Try.pinned (OpenSpec.ofChange fnExactTimesInSpec)

/-- ITS FALSE NEIGHBOUR: 'it returns false'. Refute it at one input. -/
def fnExactTimesInWrong : ChangeSpec := { name := "fnExactTimesIn", fn := fun _ => fun
  | [d1, d2, d3, d4, d5] => { results := [.lit (.bool false)], args := [d1, d2, d3, d4, d5] }
  | _ => none }
def FnExactTimesInWrongFalsely : Prop := fnExactTimesInRow.holds Try.pinned (OpenSpec.ofChange fnExactTimesInWrong)

/-- 'laws.FnExactRoundShift': WHATEVER THE INPUT: true; the input reads as it did. -/
def fnExactRoundShiftSpec : ChangeSpec := { name := "fnExactRoundShift", fn := fun _ => fun
  | [d1, d2, d3] => { results := [.lit (.bool true)], args := [d1, d2, d3] }
  | _ => none }
def fnExactRoundShiftRow : OpenClaim := { program := "ythdbfajlmcnbaaa", sum := "784c911d33e99aa1cfb64415b88947236945667b3b68770cef3f43eb549119ab", func := "loop.example/g01198/laws.FnExactRoundShift", spec := "fnExactRoundShift", apart := false }
def FnExactRoundShiftSaid : Prop := fnExactRoundShiftRow.holds Try.pinned (OpenSpec.ofChange fnExactRoundShiftSpec)

/-- ITS FALSE NEIGHBOUR: 'it returns false'. Refute it at one input. -/
def fnExactRoundShiftWrong : ChangeSpec := { name := "fnExactRoundShift", fn := fun _ => fun
  | [d1, d2, d3] => { results := [.lit (.bool false)], args := [d1, d2, d3] }
  | _ => none }
def FnExactRoundShiftWrongFalsely : Prop := fnExactRoundShiftRow.holds Try.pinned (OpenSpec.ofChange fnExactRoundShiftWrong)

/- THE SECOND FORM. 'bulk': how many values and letters a reading holds, each counted each time it is reached (what is shared counts as often as it is met; a slice's spare places count too). A statement '..UptoSaid' is the law's where the arguments, and the package variables that the reading takes, are together of bulk at most 1048576: NARROWER than '..Said'. Prove '..Said' where nothing that the law and all that it calls make is longer than what came in: it says more and counts as full. Else prove '..UptoSaid'. A law counts once. -/
mutual
def uptoBulk {H : Type} : DataW H → Nat
  | .lit (.string bytes) => bytes.length + 1
  | .lit _ => 1
  | .nil => 1
  | .ptr d => uptoBulk d + 1
  | .slice elems spare => uptoBulkAll elems + uptoBulkAll spare + 1
  | .agg parts => uptoBulkAll parts + 1
  | .iface _ d => uptoBulk d + 1
  | .map entries => uptoBulkEntries entries + 1
  | .held _ => 1
def uptoBulkAll {H : Type} : List (DataW H) → Nat
  | [] => 0
  | d :: r => uptoBulk d + uptoBulkAll r
def uptoBulkEntries {H : Type} : List (Lit × DataW H) → Nat
  | [] => 0
  | x :: r => uptoBulkEntry x + uptoBulkEntries r
def uptoBulkEntry {H : Type} : Lit × DataW H → Nat
  | (.string bytes, d) => bytes.length + uptoBulk d + 1
  | (_, d) => uptoBulk d + 1
 end
def uptoSmall : (H : Type) → List (DataW H) → Bool := fun _ ds => decide (uptoBulkAll ds ≤ 1048576)
def OpenSpec.upto (s : _root_.Go.ChangeSpec) : _root_.Go.OpenSpec := { _root_.Go.OpenSpec.ofChange s with cond := some uptoSmall }

/-- 'laws.FnExactIsWord', WHERE WHAT IT READS IS OF BULK AT MOST 1048576: true; the input reads as it did. -/
def fnExactIsWordUptoRow : OpenClaim := { program := "ythdbfajlmcnbaaa", sum := "784c911d33e99aa1cfb64415b88947236945667b3b68770cef3f43eb549119ab", func := "loop.example/g01198/laws.FnExactIsWord", spec := "fnExactIsWord", apart := false, narrowed := true }
def FnExactIsWordUptoSaid : Prop := fnExactIsWordUptoRow.holds Try.pinned (OpenSpec.upto fnExactIsWordSpec)

/-- 'laws.FnExactRangeOf', WHERE WHAT IT READS IS OF BULK AT MOST 1048576: true; the input reads as it did. -/
def fnExactRangeOfUptoRow : OpenClaim := { program := "ythdbfajlmcnbaaa", sum := "784c911d33e99aa1cfb64415b88947236945667b3b68770cef3f43eb549119ab", func := "loop.example/g01198/laws.FnExactRangeOf", spec := "fnExactRangeOf", apart := false, narrowed := true }
def FnExactRangeOfUptoSaid : Prop := fnExactRangeOfUptoRow.holds Try.pinned (OpenSpec.upto fnExactRangeOfSpec)

/-- 'laws.FnExactFitNumber', WHERE WHAT IT READS IS OF BULK AT MOST 1048576: true; the input reads as it did. -/
def fnExactFitNumberUptoRow : OpenClaim := { program := "ythdbfajlmcnbaaa", sum := "784c911d33e99aa1cfb64415b88947236945667b3b68770cef3f43eb549119ab", func := "loop.example/g01198/laws.FnExactFitNumber", spec := "fnExactFitNumber", apart := false, narrowed := true }
def FnExactFitNumberUptoSaid : Prop := fnExactFitNumberUptoRow.holds Try.pinned (OpenSpec.upto fnExactFitNumberSpec)

/-- 'laws.FnExactAddIn', WHERE WHAT IT READS IS OF BULK AT MOST 1048576: true; the input reads as it did. -/
def fnExactAddInUptoRow : OpenClaim := { program := "ythdbfajlmcnbaaa", sum := "784c911d33e99aa1cfb64415b88947236945667b3b68770cef3f43eb549119ab", func := "loop.example/g01198/laws.FnExactAddIn", spec := "fnExactAddIn", apart := false, narrowed := true }
def FnExactAddInUptoSaid : Prop := fnExactAddInUptoRow.holds Try.pinned (OpenSpec.upto fnExactAddInSpec)

/-- 'laws.FnExactLessIn', WHERE WHAT IT READS IS OF BULK AT MOST 1048576: true; the input reads as it did. -/
def fnExactLessInUptoRow : OpenClaim := { program := "ythdbfajlmcnbaaa", sum := "784c911d33e99aa1cfb64415b88947236945667b3b68770cef3f43eb549119ab", func := "loop.example/g01198/laws.FnExactLessIn", spec := "fnExactLessIn", apart := false, narrowed := true }
def FnExactLessInUptoSaid : Prop := fnExactLessInUptoRow.holds Try.pinned (OpenSpec.upto fnExactLessInSpec)

/-- 'laws.FnExactTimesIn', WHERE WHAT IT READS IS OF BULK AT MOST 1048576: true; the input reads as it did. -/
def fnExactTimesInUptoRow : OpenClaim := { program := "ythdbfajlmcnbaaa", sum := "784c911d33e99aa1cfb64415b88947236945667b3b68770cef3f43eb549119ab", func := "loop.example/g01198/laws.FnExactTimesIn", spec := "fnExactTimesIn", apart := false, narrowed := true }
def FnExactTimesInUptoSaid : Prop := fnExactTimesInUptoRow.holds Try.pinned (OpenSpec.upto fnExactTimesInSpec)

/-- 'laws.FnExactRoundShift', WHERE WHAT IT READS IS OF BULK AT MOST 1048576: true; the input reads as it did. -/
def fnExactRoundShiftUptoRow : OpenClaim := { program := "ythdbfajlmcnbaaa", sum := "784c911d33e99aa1cfb64415b88947236945667b3b68770cef3f43eb549119ab", func := "loop.example/g01198/laws.FnExactRoundShift", spec := "fnExactRoundShift", apart := false, narrowed := true }
def FnExactRoundShiftUptoSaid : Prop := fnExactRoundShiftUptoRow.holds Try.pinned (OpenSpec.upto fnExactRoundShiftSpec)

end Rows
end Go.Proofs.Ythdbfajlmcnbaaa
