/-
  No cell of these rows narrows 'for every input' (looked for: loops, veiled, ifaces, maps, wideKeys, modest, calm, conditions, laid).
  DERIVED. THE GIVEN ROWS OF THIS SEAT. 5 by the template 'for every input the law returns true; each argument reads behind the call as it read before'; 0 by the template 'total and deterministic' (their statements: YtgpnedchlkigeaaTotals.lean).
  GIVEN WITH THE SEED: the statements are not yours to turn. If you find one false, say at which input.
  Laid BY PROGRAM, IN A SANDBOX (cutbox-rows.mjs): the forced cells as the released guide's own fill.sh prints them over the translation f6ec4eb9cb3df361… (all of the seat's roots in one cut). By AI agents, Wed Nov 11 2026. No macro, syntax, notation, axiom, sorry.
-/
import Derived.Test.YtgpnedchlkigeaaChecked
import GoSem.Claim
import GoSem.ClaimJoined
import GoSem.ClaimMapViews
import Derived.JoinedTies
import Derived.KernelRfl
namespace Go.Proofs.Ytgpnedchlkigeaa
/- THE CELL 'sum', in the pinned program and in every row, IS THE sha256 OF THE DUMP (.gsa) THAT YtgpnedchlkigeaaProg.lean LOADS. Nothing in Lean hashes anything: it is a label: what it is worth is what the hold of that sum in a sandbox is worth. -/
noncomputable def Try.pinned : Pinned := { name := "ytgpnedchlkigeaa", sum := "f6ec4eb9cb3df36125a8ffb3668e93dc8dd9f6809dbaabd650fbf1741e5b6079", checked := Try.checked }
namespace Rows
def none {H : Type} : Left H := { results := [], args := [] }

/-- 'laws.FnExactAddSignals': WHATEVER THE INPUT: true; the input reads as it did. -/
def fnExactAddSignalsSpec : ChangeSpec := { name := "fnExactAddSignals", fn := fun _ => fun
  | [d1, d2] => { results := [.lit (.bool true)], args := [d1, d2] }
  | _ => none }
def fnExactAddSignalsRow : OpenClaim := { program := "ytgpnedchlkigeaa", sum := "f6ec4eb9cb3df36125a8ffb3668e93dc8dd9f6809dbaabd650fbf1741e5b6079", func := "loop.example/g01198/laws.FnExactAddSignals", spec := "fnExactAddSignals", apart := false }
def FnExactAddSignalsSaid : Prop := fnExactAddSignalsRow.holds Try.pinned (OpenSpec.ofChange fnExactAddSignalsSpec)

/-- ITS FALSE NEIGHBOUR: 'it returns false'. Refute it at one input. -/
def fnExactAddSignalsWrong : ChangeSpec := { name := "fnExactAddSignals", fn := fun _ => fun
  | [d1, d2] => { results := [.lit (.bool false)], args := [d1, d2] }
  | _ => none }
def FnExactAddSignalsWrongFalsely : Prop := fnExactAddSignalsRow.holds Try.pinned (OpenSpec.ofChange fnExactAddSignalsWrong)

/-- 'laws.FnExactScaleSignal': WHATEVER THE INPUT: true; the input reads as it did. -/
def fnExactScaleSignalSpec : ChangeSpec := { name := "fnExactScaleSignal", fn := fun _ => fun
  | [d1, d2] => { results := [.lit (.bool true)], args := [d1, d2] }
  | _ => none }
def fnExactScaleSignalRow : OpenClaim := { program := "ytgpnedchlkigeaa", sum := "f6ec4eb9cb3df36125a8ffb3668e93dc8dd9f6809dbaabd650fbf1741e5b6079", func := "loop.example/g01198/laws.FnExactScaleSignal", spec := "fnExactScaleSignal", apart := false }
def FnExactScaleSignalSaid : Prop := fnExactScaleSignalRow.holds Try.pinned (OpenSpec.ofChange fnExactScaleSignalSpec)

/-- ITS FALSE NEIGHBOUR: 'it returns false'. Refute it at one input. -/
def fnExactScaleSignalWrong : ChangeSpec := { name := "fnExactScaleSignal", fn := fun _ => fun
  | [d1, d2] => { results := [.lit (.bool false)], args := [d1, d2] }
  | _ => none }
def FnExactScaleSignalWrongFalsely : Prop := fnExactScaleSignalRow.holds Try.pinned (OpenSpec.ofChange fnExactScaleSignalWrong)

/-- 'laws.FnExactDelaySignal': WHATEVER THE INPUT: true; the input reads as it did. -/
def fnExactDelaySignalSpec : ChangeSpec := { name := "fnExactDelaySignal", fn := fun _ => fun
  | [d1, d2] => { results := [.lit (.bool true)], args := [d1, d2] }
  | _ => none }
def fnExactDelaySignalRow : OpenClaim := { program := "ytgpnedchlkigeaa", sum := "f6ec4eb9cb3df36125a8ffb3668e93dc8dd9f6809dbaabd650fbf1741e5b6079", func := "loop.example/g01198/laws.FnExactDelaySignal", spec := "fnExactDelaySignal", apart := false }
def FnExactDelaySignalSaid : Prop := fnExactDelaySignalRow.holds Try.pinned (OpenSpec.ofChange fnExactDelaySignalSpec)

/-- ITS FALSE NEIGHBOUR: 'it returns false'. Refute it at one input. -/
def fnExactDelaySignalWrong : ChangeSpec := { name := "fnExactDelaySignal", fn := fun _ => fun
  | [d1, d2] => { results := [.lit (.bool false)], args := [d1, d2] }
  | _ => none }
def FnExactDelaySignalWrongFalsely : Prop := fnExactDelaySignalRow.holds Try.pinned (OpenSpec.ofChange fnExactDelaySignalWrong)

/-- 'laws.FnExactDifferencesOf': WHATEVER THE INPUT: true; the input reads as it did. -/
def fnExactDifferencesOfSpec : ChangeSpec := { name := "fnExactDifferencesOf", fn := fun _ => fun
  | [d] => { results := [.lit (.bool true)], args := [d] }
  | _ => none }
def fnExactDifferencesOfRow : OpenClaim := { program := "ytgpnedchlkigeaa", sum := "f6ec4eb9cb3df36125a8ffb3668e93dc8dd9f6809dbaabd650fbf1741e5b6079", func := "loop.example/g01198/laws.FnExactDifferencesOf", spec := "fnExactDifferencesOf", apart := false }
def FnExactDifferencesOfSaid : Prop := fnExactDifferencesOfRow.holds Try.pinned (OpenSpec.ofChange fnExactDifferencesOfSpec)

/-- ITS FALSE NEIGHBOUR: 'it returns false'. Refute it at one input. -/
def fnExactDifferencesOfWrong : ChangeSpec := { name := "fnExactDifferencesOf", fn := fun _ => fun
  | [d] => { results := [.lit (.bool false)], args := [d] }
  | _ => none }
def FnExactDifferencesOfWrongFalsely : Prop := fnExactDifferencesOfRow.holds Try.pinned (OpenSpec.ofChange fnExactDifferencesOfWrong)

/-- 'laws.FnExactRunningSums': WHATEVER THE INPUT: true; the input reads as it did. -/
def fnExactRunningSumsSpec : ChangeSpec := { name := "fnExactRunningSums", fn := fun _ => fun
  | [d] => { results := [.lit (.bool true)], args := [d] }
  | _ => none }
def fnExactRunningSumsRow : OpenClaim := { program := "ytgpnedchlkigeaa", sum := "f6ec4eb9cb3df36125a8ffb3668e93dc8dd9f6809dbaabd650fbf1741e5b6079", func := "loop.example/g01198/laws.FnExactRunningSums", spec := "fnExactRunningSums", apart := false }
def FnExactRunningSumsSaid : Prop := fnExactRunningSumsRow.holds Try.pinned (OpenSpec.ofChange fnExactRunningSumsSpec)

/-- ITS FALSE NEIGHBOUR: 'it returns false'. Refute it at one input. -/
def fnExactRunningSumsWrong : ChangeSpec := { name := "fnExactRunningSums", fn := fun _ => fun
  | [d] => { results := [.lit (.bool false)], args := [d] }
  | _ => none }
def FnExactRunningSumsWrongFalsely : Prop := fnExactRunningSumsRow.holds Try.pinned (OpenSpec.ofChange fnExactRunningSumsWrong)

/- THE SECOND FORM. 'bulk': how many values and letters a reading holds, each counted each time it is reached (what is shared counts as often as it is met; a slice's spare places count too). A statement '..UptoSaid' is the law's where the arguments, and the package variables that the reading takes, are together of bulk at most 1048576: NARROWER than '..Said'. Prove '..Said' where nothing that the law and all that it calls make is longer than what came in: it says more and counts as full. Else prove '..UptoSaid'. A law counts once. -/
mutual
def uptoBulk {H : Type} : DataW H → Nat
  | .lit (.string bytes) => bytes.length + 1
  | .lit _ => 1
  | .nil => 1
  | .ptr d => uptoBulk d + 1
  | .slice elems spare => uptoBulkAll elems + uptoBulkAll spare + 1
  | .agg parts => uptoBulkAll parts + 1
  | .iface _ d => uptoBulk d + 1
  | .map entries => uptoBulkEntries entries + 1
  | .held _ => 1
def uptoBulkAll {H : Type} : List (DataW H) → Nat
  | [] => 0
  | d :: r => uptoBulk d + uptoBulkAll r
def uptoBulkEntries {H : Type} : List (Lit × DataW H) → Nat
  | [] => 0
  | x :: r => uptoBulkEntry x + uptoBulkEntries r
def uptoBulkEntry {H : Type} : Lit × DataW H → Nat
  | (.string bytes, d) => bytes.length + uptoBulk d + 1
  | (_, d) => uptoBulk d + 1
 end
def uptoSmall : (H : Type) → List (DataW H) → Bool := fun _ ds => decide (uptoBulkAll ds ≤ 1048576)
def OpenSpec.upto (s : _root_.Go.ChangeSpec) : _root_.Go.OpenSpec := { _root_.Go.OpenSpec.ofChange s with cond := some uptoSmall }

/-- 'laws.FnExactAddSignals', WHERE WHAT IT READS IS OF BULK AT MOST 1048576: true; the input reads as it did. -/
def fnExactAddSignalsUptoRow : OpenClaim := { program := "ytgpnedchlkigeaa", sum := "f6ec4eb9cb3df36125a8ffb3668e93dc8dd9f6809dbaabd650fbf1741e5b6079", func := "loop.example/g01198/laws.FnExactAddSignals", spec := "fnExactAddSignals", apart := false, narrowed := true }
def FnExactAddSignalsUptoSaid : Prop := fnExactAddSignalsUptoRow.holds Try.pinned (OpenSpec.upto fnExactAddSignalsSpec)

/-- 'laws.FnExactScaleSignal', WHERE WHAT IT READS IS OF BULK AT MOST 1048576: true; the input reads as it did. -/
def fnExactScaleSignalUptoRow : OpenClaim := { program := "ytgpnedchlkigeaa", sum := "f6ec4eb9cb3df36125a8ffb3668e93dc8dd9f6809dbaabd650fbf1741e5b6079", func := "loop.example/g01198/laws.FnExactScaleSignal", spec := "fnExactScaleSignal", apart := false, narrowed := true }
def FnExactScaleSignalUptoSaid : Prop := fnExactScaleSignalUptoRow.holds Try.pinned (OpenSpec.upto fnExactScaleSignalSpec)

/-- 'laws.FnExactDelaySignal', WHERE WHAT IT READS IS OF BULK AT MOST 1048576: true; the input reads as it did. -/
def fnExactDelaySignalUptoRow : OpenClaim := { program := "ytgpnedchlkigeaa", sum := "f6ec4eb9cb3df36125a8ffb3668e93dc8dd9f6809dbaabd650fbf1741e5b6079", func := "loop.example/g01198/laws.FnExactDelaySignal", spec := "fnExactDelaySignal", apart := false, narrowed := true }
def FnExactDelaySignalUptoSaid : Prop := fnExactDelaySignalUptoRow.holds Try.pinned (OpenSpec.upto fnExactDelaySignalSpec)

/-- 'laws.FnExactDifferencesOf', WHERE WHAT IT READS IS OF BULK AT MOST 1048576: true; the input reads as it did. -/
def fnExactDifferencesOfUptoRow : OpenClaim := { program := "ytgpnedchlkigeaa", sum := "f6ec4eb9cb3df36125a8ffb3668e93dc8dd9f6809dbaabd650fbf1741e5b6079", func := "loop.example/g01198/laws.FnExactDifferencesOf", spec := "fnExactDifferencesOf", apart := false, narrowed := true }
def FnExactDifferencesOfUptoSaid : Prop := fnExactDifferencesOfUptoRow.holds Try.pinned (OpenSpec.upto fnExactDifferencesOfSpec)

/-- 'laws.FnExactRunningSums', WHERE WHAT IT READS IS OF BULK AT MOST 1048576: true; the input reads as it did. -/
def fnExactRunningSumsUptoRow : OpenClaim := { program := "ytgpnedchlkigeaa", sum := "f6ec4eb9cb3df36125a8ffb3668e93dc8dd9f6809dbaabd650fbf1741e5b6079", func := "loop.example/g01198/laws.FnExactRunningSums", spec := "fnExactRunningSums", apart := false, narrowed := true }
def FnExactRunningSumsUptoSaid : Prop := fnExactRunningSumsUptoRow.holds Try.pinned (OpenSpec.upto fnExactRunningSumsSpec)

end Rows
end Go.Proofs.Ytgpnedchlkigeaa
