/-
  No cell of these rows narrows 'for every input' (looked for: loops, veiled, ifaces, maps, wideKeys, modest, calm, conditions, laid).
  DERIVED. THE GIVEN ROWS OF THIS SEAT. 4 by the template 'for every input the law returns true; each argument reads behind the call as it read before'; 0 by the template 'total and deterministic' (their statements: YtogffkgihjdbkaaTotals.lean).
  GIVEN WITH THE SEED: the statements are not yours to turn. If you find one false, say at which input.
  Laid BY PROGRAM, IN A SANDBOX (cutbox-rows.mjs): the forced cells as the released guide's own fill.sh prints them over the translation b8bba097a12629dd… (all of the seat's roots in one cut). By AI agents, Wed Nov 11 2026. No macro, syntax, notation, axiom, sorry.
-/
import Derived.Test.YtogffkgihjdbkaaChecked
import GoSem.Claim
import GoSem.ClaimJoined
import GoSem.ClaimMapViews
import Derived.JoinedTies
import Derived.KernelRfl
namespace Go.Proofs.Ytogffkgihjdbkaa
/- THE CELL 'sum', in the pinned program and in every row, IS THE sha256 OF THE DUMP (.gsa) THAT YtogffkgihjdbkaaProg.lean LOADS. Nothing in Lean hashes anything: it is a label: what it is worth is what the hold of that sum in a sandbox is worth. -/
noncomputable def Try.pinned : Pinned := { name := "ytogffkgihjdbkaa", sum := "b8bba097a12629dd5b350a2844b07ed7251aea949f0ea12bed63ff0e5592c53e", checked := Try.checked }
namespace Rows
def none {H : Type} : Left H := { results := [], args := [] }

/-- 'laws.FnExactFilterSignal': WHATEVER THE INPUT: true; the input reads as it did. -/
def fnExactFilterSignalSpec : ChangeSpec := { name := "fnExactFilterSignal", fn := fun _ => fun
  | [d1, d2] => { results := [.lit (.bool true)], args := [d1, d2] }
  | _ => none }
def fnExactFilterSignalRow : OpenClaim := { program := "ytogffkgihjdbkaa", sum := "b8bba097a12629dd5b350a2844b07ed7251aea949f0ea12bed63ff0e5592c53e", func := "loop.example/g01198/laws.FnExactFilterSignal", spec := "fnExactFilterSignal", unfollowed := true, recurses := true, apart := false }
def FnExactFilterSignalSaid : Prop := fnExactFilterSignalRow.holds Try.pinned (OpenSpec.ofChange fnExactFilterSignalSpec)

/-- ITS FALSE NEIGHBOUR: 'it returns false'. Refute it at one input. -/
def fnExactFilterSignalWrong : ChangeSpec := { name := "fnExactFilterSignal", fn := fun _ => fun
  | [d1, d2] => { results := [.lit (.bool false)], args := [d1, d2] }
  | _ => none }
def FnExactFilterSignalWrongFalsely : Prop := fnExactFilterSignalRow.holds Try.pinned (OpenSpec.ofChange fnExactFilterSignalWrong)

/-- 'laws.FnExactFilterShort': WHATEVER THE INPUT: true; the input reads as it did. -/
def fnExactFilterShortSpec : ChangeSpec := { name := "fnExactFilterShort", fn := fun _ => fun
  | [d1, d2] => { results := [.lit (.bool true)], args := [d1, d2] }
  | _ => none }
def fnExactFilterShortRow : OpenClaim := { program := "ytogffkgihjdbkaa", sum := "b8bba097a12629dd5b350a2844b07ed7251aea949f0ea12bed63ff0e5592c53e", func := "loop.example/g01198/laws.FnExactFilterShort", spec := "fnExactFilterShort", unfollowed := true, recurses := true, apart := false }
def FnExactFilterShortSaid : Prop := fnExactFilterShortRow.holds Try.pinned (OpenSpec.ofChange fnExactFilterShortSpec)

/-- ITS FALSE NEIGHBOUR: 'it returns false'. Refute it at one input. -/
def fnExactFilterShortWrong : ChangeSpec := { name := "fnExactFilterShort", fn := fun _ => fun
  | [d1, d2] => { results := [.lit (.bool false)], args := [d1, d2] }
  | _ => none }
def FnExactFilterShortWrongFalsely : Prop := fnExactFilterShortRow.holds Try.pinned (OpenSpec.ofChange fnExactFilterShortWrong)

/-- 'laws.FnExactFilterInWord': WHATEVER THE INPUT: true; the input reads as it did. -/
def fnExactFilterInWordSpec : ChangeSpec := { name := "fnExactFilterInWord", fn := fun _ => fun
  | [d1, d2, d3, d4, d5] => { results := [.lit (.bool true)], args := [d1, d2, d3, d4, d5] }
  | _ => none }
def fnExactFilterInWordRow : OpenClaim := { program := "ytogffkgihjdbkaa", sum := "b8bba097a12629dd5b350a2844b07ed7251aea949f0ea12bed63ff0e5592c53e", func := "loop.example/g01198/laws.FnExactFilterInWord", spec := "fnExactFilterInWord", unfollowed := true, recurses := true, apart := false }
def FnExactFilterInWordSaid : Prop := fnExactFilterInWordRow.holds Try.pinned (OpenSpec.ofChange fnExactFilterInWordSpec)

/-- ITS FALSE NEIGHBOUR: 'it returns false'. Refute it at one input. -/
def fnExactFilterInWordWrong : ChangeSpec := { name := "fnExactFilterInWord", fn := fun _ => fun
  | [d1, d2, d3, d4, d5] => { results := [.lit (.bool false)], args := [d1, d2, d3, d4, d5] }
  | _ => none }
def FnExactFilterInWordWrongFalsely : Prop := fnExactFilterInWordRow.holds Try.pinned (OpenSpec.ofChange fnExactFilterInWordWrong)

/-- 'laws.FnExactFilterAtEnd': WHATEVER THE INPUT: true; the input reads as it did. -/
def fnExactFilterAtEndSpec : ChangeSpec := { name := "fnExactFilterAtEnd", fn := fun _ => fun
  | [d1, d2, d3, d4, d5] => { results := [.lit (.bool true)], args := [d1, d2, d3, d4, d5] }
  | _ => none }
def fnExactFilterAtEndRow : OpenClaim := { program := "ytogffkgihjdbkaa", sum := "b8bba097a12629dd5b350a2844b07ed7251aea949f0ea12bed63ff0e5592c53e", func := "loop.example/g01198/laws.FnExactFilterAtEnd", spec := "fnExactFilterAtEnd", unfollowed := true, recurses := true, apart := false }
def FnExactFilterAtEndSaid : Prop := fnExactFilterAtEndRow.holds Try.pinned (OpenSpec.ofChange fnExactFilterAtEndSpec)

/-- ITS FALSE NEIGHBOUR: 'it returns false'. Refute it at one input. -/
def fnExactFilterAtEndWrong : ChangeSpec := { name := "fnExactFilterAtEnd", fn := fun _ => fun
  | [d1, d2, d3, d4, d5] => { results := [.lit (.bool false)], args := [d1, d2, d3, d4, d5] }
  | _ => none }
def FnExactFilterAtEndWrongFalsely : Prop := fnExactFilterAtEndRow.holds Try.pinned (OpenSpec.ofChange fnExactFilterAtEndWrong)

/- THE SECOND FORM. 'bulk': how many values and letters a reading holds, each counted each time it is reached (what is shared counts as often as it is met; a slice's spare places count too). A statement '..UptoSaid' is the law's where the arguments, and the package variables that the reading takes, are together of bulk at most 1048576: NARROWER than '..Said'. Prove '..Said' where nothing that the law and all that it calls make is longer than what came in: it says more and counts as full. Else prove '..UptoSaid'. A law counts once. -/
mutual
def uptoBulk {H : Type} : DataW H → Nat
  | .lit (.string bytes) => bytes.length + 1
  | .lit _ => 1
  | .nil => 1
  | .ptr d => uptoBulk d + 1
  | .slice elems spare => uptoBulkAll elems + uptoBulkAll spare + 1
  | .agg parts => uptoBulkAll parts + 1
  | .iface _ d => uptoBulk d + 1
  | .map entries => uptoBulkEntries entries + 1
  | .held _ => 1
def uptoBulkAll {H : Type} : List (DataW H) → Nat
  | [] => 0
  | d :: r => uptoBulk d + uptoBulkAll r
def uptoBulkEntries {H : Type} : List (Lit × DataW H) → Nat
  | [] => 0
  | x :: r => uptoBulkEntry x + uptoBulkEntries r
def uptoBulkEntry {H : Type} : Lit × DataW H → Nat
  | (.string bytes, d) => bytes.length + uptoBulk d + 1
  | (_, d) => uptoBulk d + 1
 end
def uptoSmall : (H : Type) → List (DataW H) → Bool := fun _ ds => decide (uptoBulkAll ds ≤ 1048576)
def OpenSpec.upto (s : _root_.Go.ChangeSpec) : _root_.Go.OpenSpec := { _root_.Go.OpenSpec.ofChange s with cond := some uptoSmall }

/-- 'laws.FnExactFilterSignal', WHERE WHAT IT READS IS OF BULK AT MOST 1048576: true; the input reads as it did. -/
def fnExactFilterSignalUptoRow : OpenClaim := { program := "ytogffkgihjdbkaa", sum := "b8bba097a12629dd5b350a2844b07ed7251aea949f0ea12bed63ff0e5592c53e", func := "loop.example/g01198/laws.FnExactFilterSignal", spec := "fnExactFilterSignal", unfollowed := true, recurses := true, apart := false, narrowed := true }
def FnExactFilterSignalUptoSaid : Prop := fnExactFilterSignalUptoRow.holds Try.pinned (OpenSpec.upto fnExactFilterSignalSpec)

/-- 'laws.FnExactFilterShort', WHERE WHAT IT READS IS OF BULK AT MOST 1048576: true; the input reads as it did. -/
def fnExactFilterShortUptoRow : OpenClaim := { program := "ytogffkgihjdbkaa", sum := "b8bba097a12629dd5b350a2844b07ed7251aea949f0ea12bed63ff0e5592c53e", func := "loop.example/g01198/laws.FnExactFilterShort", spec := "fnExactFilterShort", unfollowed := true, recurses := true, apart := false, narrowed := true }
def FnExactFilterShortUptoSaid : Prop := fnExactFilterShortUptoRow.holds Try.pinned (OpenSpec.upto fnExactFilterShortSpec)

/-- 'laws.FnExactFilterInWord', WHERE WHAT IT READS IS OF BULK AT MOST 1048576: true; the input reads as it did. -/
def fnExactFilterInWordUptoRow : OpenClaim := { program := "ytogffkgihjdbkaa", sum := "b8bba097a12629dd5b350a2844b07ed7251aea949f0ea12bed63ff0e5592c53e", func := "loop.example/g01198/laws.FnExactFilterInWord", spec := "fnExactFilterInWord", unfollowed := true, recurses := true, apart := false, narrowed := true }
def FnExactFilterInWordUptoSaid : Prop := fnExactFilterInWordUptoRow.holds Try.pinned (OpenSpec.upto fnExactFilterInWordSpec)

/-- 'laws.FnExactFilterAtEnd', WHERE WHAT IT READS IS OF BULK AT MOST 1048576: true; the input reads as it did. -/
def fnExactFilterAtEndUptoRow : OpenClaim := { program := "ytogffkgihjdbkaa", sum := "b8bba097a12629dd5b350a2844b07ed7251aea949f0ea12bed63ff0e5592c53e", func := "loop.example/g01198/laws.FnExactFilterAtEnd", spec := "fnExactFilterAtEnd", unfollowed := true, recurses := true, apart := false, narrowed := true }
def FnExactFilterAtEndUptoSaid : Prop := fnExactFilterAtEndUptoRow.holds Try.pinned (OpenSpec.upto fnExactFilterAtEndSpec)

end Rows
end Go.Proofs.Ytogffkgihjdbkaa
