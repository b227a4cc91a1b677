/-
  No cell of these rows narrows 'for every input' (looked for: loops, veiled, ifaces, maps, wideKeys, modest, calm, conditions, laid).
  DERIVED. THE GIVEN ROWS OF THIS SEAT. 5 by the template 'for every input the law returns true; each argument reads behind the call as it read before'; 0 by the template 'total and deterministic' (their statements: YtpikdmoghjakfaaTotals.lean).
  GIVEN WITH THE SEED: the statements are not yours to turn. If you find one false, say at which input.
  Laid BY PROGRAM, IN A SANDBOX (cutbox-rows.mjs): the forced cells as the released guide's own fill.sh prints them over the translation 5746fdb149cdd919… (all of the seat's roots in one cut). By AI agents, Wed Nov 11 2026. No macro, syntax, notation, axiom, sorry.
-/
import Derived.Test.YtpikdmoghjakfaaChecked
import GoSem.Claim
import GoSem.ClaimJoined
import GoSem.ClaimMapViews
import Derived.JoinedTies
import Derived.KernelRfl
namespace Go.Proofs.Ytpikdmoghjakfaa
/- THE CELL 'sum', in the pinned program and in every row, IS THE sha256 OF THE DUMP (.gsa) THAT YtpikdmoghjakfaaProg.lean LOADS. Nothing in Lean hashes anything: it is a label: what it is worth is what the hold of that sum in a sandbox is worth. -/
noncomputable def Try.pinned : Pinned := { name := "ytpikdmoghjakfaa", sum := "5746fdb149cdd919fc65aad74e05bfa5cfc6ca6148b83ccf6f7018fb4f7cd937", checked := Try.checked }
namespace Rows
def none {H : Type} : Left H := { results := [], args := [] }

/-- 'laws.FnExactRunFirst': WHATEVER THE INPUT: true; the input reads as it did. -/
def fnExactRunFirstSpec : ChangeSpec := { name := "fnExactRunFirst", fn := fun _ => fun
  | [d1, d2, d3] => { results := [.lit (.bool true)], args := [d1, d2, d3] }
  | _ => none }
def fnExactRunFirstRow : OpenClaim := { program := "ytpikdmoghjakfaa", sum := "5746fdb149cdd919fc65aad74e05bfa5cfc6ca6148b83ccf6f7018fb4f7cd937", func := "loop.example/g01198/laws.FnExactRunFirst", spec := "fnExactRunFirst", unfollowed := true, recurses := true, apart := false }
def FnExactRunFirstSaid : Prop := fnExactRunFirstRow.holds Try.pinned (OpenSpec.ofChange fnExactRunFirstSpec)

/-- ITS FALSE NEIGHBOUR: 'it returns false'. Refute it at one input. -/
def fnExactRunFirstWrong : ChangeSpec := { name := "fnExactRunFirst", fn := fun _ => fun
  | [d1, d2, d3] => { results := [.lit (.bool false)], args := [d1, d2, d3] }
  | _ => none }
def FnExactRunFirstWrongFalsely : Prop := fnExactRunFirstRow.holds Try.pinned (OpenSpec.ofChange fnExactRunFirstWrong)

/-- 'laws.FnExactImpulseOf': WHATEVER THE INPUT: true; the input reads as it did. -/
def fnExactImpulseOfSpec : ChangeSpec := { name := "fnExactImpulseOf", fn := fun _ => fun
  | [d1, d2, d3] => { results := [.lit (.bool true)], args := [d1, d2, d3] }
  | _ => none }
def fnExactImpulseOfRow : OpenClaim := { program := "ytpikdmoghjakfaa", sum := "5746fdb149cdd919fc65aad74e05bfa5cfc6ca6148b83ccf6f7018fb4f7cd937", func := "loop.example/g01198/laws.FnExactImpulseOf", spec := "fnExactImpulseOf", unfollowed := true, recurses := true, apart := false }
def FnExactImpulseOfSaid : Prop := fnExactImpulseOfRow.holds Try.pinned (OpenSpec.ofChange fnExactImpulseOfSpec)

/-- ITS FALSE NEIGHBOUR: 'it returns false'. Refute it at one input. -/
def fnExactImpulseOfWrong : ChangeSpec := { name := "fnExactImpulseOf", fn := fun _ => fun
  | [d1, d2, d3] => { results := [.lit (.bool false)], args := [d1, d2, d3] }
  | _ => none }
def FnExactImpulseOfWrongFalsely : Prop := fnExactImpulseOfRow.holds Try.pinned (OpenSpec.ofChange fnExactImpulseOfWrong)

/-- 'laws.FnExactFirstPeriod': WHATEVER THE INPUT: true; the input reads as it did. -/
def fnExactFirstPeriodSpec : ChangeSpec := { name := "fnExactFirstPeriod", fn := fun _ => fun
  | [d1, d2, d3] => { results := [.lit (.bool true)], args := [d1, d2, d3] }
  | _ => none }
def fnExactFirstPeriodRow : OpenClaim := { program := "ytpikdmoghjakfaa", sum := "5746fdb149cdd919fc65aad74e05bfa5cfc6ca6148b83ccf6f7018fb4f7cd937", func := "loop.example/g01198/laws.FnExactFirstPeriod", spec := "fnExactFirstPeriod", unfollowed := true, recurses := true, apart := false }
def FnExactFirstPeriodSaid : Prop := fnExactFirstPeriodRow.holds Try.pinned (OpenSpec.ofChange fnExactFirstPeriodSpec)

/-- ITS FALSE NEIGHBOUR: 'it returns false'. Refute it at one input. -/
def fnExactFirstPeriodWrong : ChangeSpec := { name := "fnExactFirstPeriod", fn := fun _ => fun
  | [d1, d2, d3] => { results := [.lit (.bool false)], args := [d1, d2, d3] }
  | _ => none }
def FnExactFirstPeriodWrongFalsely : Prop := fnExactFirstPeriodRow.holds Try.pinned (OpenSpec.ofChange fnExactFirstPeriodWrong)

/-- 'laws.FnExactRestsOf': WHATEVER THE INPUT: true; the input reads as it did. -/
def fnExactRestsOfSpec : ChangeSpec := { name := "fnExactRestsOf", fn := fun _ => fun
  | [d1, d2] => { results := [.lit (.bool true)], args := [d1, d2] }
  | _ => none }
def fnExactRestsOfRow : OpenClaim := { program := "ytpikdmoghjakfaa", sum := "5746fdb149cdd919fc65aad74e05bfa5cfc6ca6148b83ccf6f7018fb4f7cd937", func := "loop.example/g01198/laws.FnExactRestsOf", spec := "fnExactRestsOf", unfollowed := true, recurses := true, apart := false }
def FnExactRestsOfSaid : Prop := fnExactRestsOfRow.holds Try.pinned (OpenSpec.ofChange fnExactRestsOfSpec)

/-- ITS FALSE NEIGHBOUR: 'it returns false'. Refute it at one input. -/
def fnExactRestsOfWrong : ChangeSpec := { name := "fnExactRestsOf", fn := fun _ => fun
  | [d1, d2] => { results := [.lit (.bool false)], args := [d1, d2] }
  | _ => none }
def FnExactRestsOfWrongFalsely : Prop := fnExactRestsOfRow.holds Try.pinned (OpenSpec.ofChange fnExactRestsOfWrong)

/-- 'laws.FnExactNumbersBefore': WHATEVER THE INPUT: true; the input reads as it did. -/
def fnExactNumbersBeforeSpec : ChangeSpec := { name := "fnExactNumbersBefore", fn := fun _ => fun
  | [d1, d2, d3] => { results := [.lit (.bool true)], args := [d1, d2, d3] }
  | _ => none }
def fnExactNumbersBeforeRow : OpenClaim := { program := "ytpikdmoghjakfaa", sum := "5746fdb149cdd919fc65aad74e05bfa5cfc6ca6148b83ccf6f7018fb4f7cd937", func := "loop.example/g01198/laws.FnExactNumbersBefore", spec := "fnExactNumbersBefore", unfollowed := true, recurses := true, apart := false }
def FnExactNumbersBeforeSaid : Prop := fnExactNumbersBeforeRow.holds Try.pinned (OpenSpec.ofChange fnExactNumbersBeforeSpec)

/-- ITS FALSE NEIGHBOUR: 'it returns false'. Refute it at one input. -/
def fnExactNumbersBeforeWrong : ChangeSpec := { name := "fnExactNumbersBefore", fn := fun _ => fun
  | [d1, d2, d3] => { results := [.lit (.bool false)], args := [d1, d2, d3] }
  | _ => none }
def FnExactNumbersBeforeWrongFalsely : Prop := fnExactNumbersBeforeRow.holds Try.pinned (OpenSpec.ofChange fnExactNumbersBeforeWrong)

/- THE SECOND FORM. 'bulk': how many values and letters a reading holds, each counted each time it is reached (what is shared counts as often as it is met; a slice's spare places count too). A statement '..UptoSaid' is the law's where the arguments, and the package variables that the reading takes, are together of bulk at most 1048576: NARROWER than '..Said'. Prove '..Said' where nothing that the law and all that it calls make is longer than what came in: it says more and counts as full. Else prove '..UptoSaid'. A law counts once. -/
mutual
def uptoBulk {H : Type} : DataW H → Nat
  | .lit (.string bytes) => bytes.length + 1
  | .lit _ => 1
  | .nil => 1
  | .ptr d => uptoBulk d + 1
  | .slice elems spare => uptoBulkAll elems + uptoBulkAll spare + 1
  | .agg parts => uptoBulkAll parts + 1
  | .iface _ d => uptoBulk d + 1
  | .map entries => uptoBulkEntries entries + 1
  | .held _ => 1
def uptoBulkAll {H : Type} : List (DataW H) → Nat
  | [] => 0
  | d :: r => uptoBulk d + uptoBulkAll r
def uptoBulkEntries {H : Type} : List (Lit × DataW H) → Nat
  | [] => 0
  | x :: r => uptoBulkEntry x + uptoBulkEntries r
def uptoBulkEntry {H : Type} : Lit × DataW H → Nat
  | (.string bytes, d) => bytes.length + uptoBulk d + 1
  | (_, d) => uptoBulk d + 1
 end
def uptoSmall : (H : Type) → List (DataW H) → Bool := fun _ ds => decide (uptoBulkAll ds ≤ 1048576)
def OpenSpec.upto (s : _root_.Go.ChangeSpec) : _root_.Go.OpenSpec := { _root_.Go.OpenSpec.ofChange s with cond := some uptoSmall }

/-- 'laws.FnExactRunFirst', WHERE WHAT IT READS IS OF BULK AT MOST 1048576: true; the input reads as it did. -/
def fnExactRunFirstUptoRow : OpenClaim := { program := "ytpikdmoghjakfaa", sum := "5746fdb149cdd919fc65aad74e05bfa5cfc6ca6148b83ccf6f7018fb4f7cd937", func := "loop.example/g01198/laws.FnExactRunFirst", spec := "fnExactRunFirst", unfollowed := true, recurses := true, apart := false, narrowed := true }
def FnExactRunFirstUptoSaid : Prop := fnExactRunFirstUptoRow.holds Try.pinned (OpenSpec.upto fnExactRunFirstSpec)

/-- 'laws.FnExactImpulseOf', WHERE WHAT IT READS IS OF BULK AT MOST 1048576: true; the input reads as it did. -/
def fnExactImpulseOfUptoRow : OpenClaim := { program := "ytpikdmoghjakfaa", sum := "5746fdb149cdd919fc65aad74e05bfa5cfc6ca6148b83ccf6f7018fb4f7cd937", func := "loop.example/g01198/laws.FnExactImpulseOf", spec := "fnExactImpulseOf", unfollowed := true, recurses := true, apart := false, narrowed := true }
def FnExactImpulseOfUptoSaid : Prop := fnExactImpulseOfUptoRow.holds Try.pinned (OpenSpec.upto fnExactImpulseOfSpec)

/-- 'laws.FnExactFirstPeriod', WHERE WHAT IT READS IS OF BULK AT MOST 1048576: true; the input reads as it did. -/
def fnExactFirstPeriodUptoRow : OpenClaim := { program := "ytpikdmoghjakfaa", sum := "5746fdb149cdd919fc65aad74e05bfa5cfc6ca6148b83ccf6f7018fb4f7cd937", func := "loop.example/g01198/laws.FnExactFirstPeriod", spec := "fnExactFirstPeriod", unfollowed := true, recurses := true, apart := false, narrowed := true }
def FnExactFirstPeriodUptoSaid : Prop := fnExactFirstPeriodUptoRow.holds Try.pinned (OpenSpec.upto fnExactFirstPeriodSpec)

/-- 'laws.FnExactRestsOf', WHERE WHAT IT READS IS OF BULK AT MOST 1048576: true; the input reads as it did. -/
def fnExactRestsOfUptoRow : OpenClaim := { program := "ytpikdmoghjakfaa", sum := "5746fdb149cdd919fc65aad74e05bfa5cfc6ca6148b83ccf6f7018fb4f7cd937", func := "loop.example/g01198/laws.FnExactRestsOf", spec := "fnExactRestsOf", unfollowed := true, recurses := true, apart := false, narrowed := true }
def FnExactRestsOfUptoSaid : Prop := fnExactRestsOfUptoRow.holds Try.pinned (OpenSpec.upto fnExactRestsOfSpec)

/-- 'laws.FnExactNumbersBefore', WHERE WHAT IT READS IS OF BULK AT MOST 1048576: true; the input reads as it did. -/
def fnExactNumbersBeforeUptoRow : OpenClaim := { program := "ytpikdmoghjakfaa", sum := "5746fdb149cdd919fc65aad74e05bfa5cfc6ca6148b83ccf6f7018fb4f7cd937", func := "loop.example/g01198/laws.FnExactNumbersBefore", spec := "fnExactNumbersBefore", unfollowed := true, recurses := true, apart := false, narrowed := true }
def FnExactNumbersBeforeUptoSaid : Prop := fnExactNumbersBeforeUptoRow.holds Try.pinned (OpenSpec.upto fnExactNumbersBeforeSpec)

end Rows
end Go.Proofs.Ytpikdmoghjakfaa
