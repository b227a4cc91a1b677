/-
  No cell of these rows narrows 'for every input' (looked for: loops, veiled, ifaces, maps, wideKeys, modest, calm, conditions, laid).
  DERIVED. THE GIVEN ROWS OF THIS SEAT. 3 by the template 'for every input the law returns true; each argument reads behind the call as it read before'; 0 by the template 'total and deterministic' (their statements: YtoiojbbadmkbjaaTotals.lean).
  GIVEN WITH THE SEED: the statements are not yours to turn. If you find one false, say at which input.
  Laid BY PROGRAM, IN A SANDBOX (cutbox-rows.mjs): the forced cells as the released guide's own fill.sh prints them over the translation 4e488c76d5da3877… (all of the seat's roots in one cut). By AI agents, Wed Nov 11 2026. No macro, syntax, notation, axiom, sorry.
-/
import Derived.Test.YtoiojbbadmkbjaaChecked
import GoSem.Claim
import GoSem.ClaimJoined
import GoSem.ClaimMapViews
import Derived.JoinedTies
import Derived.KernelRfl
namespace Go.Proofs.Ytoiojbbadmkbjaa
/- THE CELL 'sum', in the pinned program and in every row, IS THE sha256 OF THE DUMP (.gsa) THAT YtoiojbbadmkbjaaProg.lean LOADS. Nothing in Lean hashes anything: it is a label: what it is worth is what the hold of that sum in a sandbox is worth. -/
noncomputable def Try.pinned : Pinned := { name := "ytoiojbbadmkbjaa", sum := "4e488c76d5da38776f58b947fe36e52160763f486336a957fddacdf573e12507", checked := Try.checked }
namespace Rows
def none {H : Type} : Left H := { results := [], args := [] }

/-- 'laws.FnExactToneStates': WHATEVER THE INPUT: true; the input reads as it did. -/
def fnExactToneStatesSpec : ChangeSpec := { name := "fnExactToneStates", fn := fun _ => fun
  | [d1, d2] => { results := [.lit (.bool true)], args := [d1, d2] }
  | _ => none }
def fnExactToneStatesRow : OpenClaim := { program := "ytoiojbbadmkbjaa", sum := "4e488c76d5da38776f58b947fe36e52160763f486336a957fddacdf573e12507", func := "loop.example/g01198/laws.FnExactToneStates", spec := "fnExactToneStates", apart := false }
def FnExactToneStatesSaid : Prop := fnExactToneStatesRow.holds Try.pinned (OpenSpec.ofChange fnExactToneStatesSpec)

/-- ITS FALSE NEIGHBOUR: 'it returns false'. Refute it at one input. -/
def fnExactToneStatesWrong : ChangeSpec := { name := "fnExactToneStates", fn := fun _ => fun
  | [d1, d2] => { results := [.lit (.bool false)], args := [d1, d2] }
  | _ => none }
def FnExactToneStatesWrongFalsely : Prop := fnExactToneStatesRow.holds Try.pinned (OpenSpec.ofChange fnExactToneStatesWrong)

/-- 'laws.FnExactTonePower': WHATEVER THE INPUT: true; the input reads as it did. -/
def fnExactTonePowerSpec : ChangeSpec := { name := "fnExactTonePower", fn := fun _ => fun
  | [d1, d2] => { results := [.lit (.bool true)], args := [d1, d2] }
  | _ => none }
def fnExactTonePowerRow : OpenClaim := { program := "ytoiojbbadmkbjaa", sum := "4e488c76d5da38776f58b947fe36e52160763f486336a957fddacdf573e12507", func := "loop.example/g01198/laws.FnExactTonePower", spec := "fnExactTonePower", apart := false }
def FnExactTonePowerSaid : Prop := fnExactTonePowerRow.holds Try.pinned (OpenSpec.ofChange fnExactTonePowerSpec)

/-- ITS FALSE NEIGHBOUR: 'it returns false'. Refute it at one input. -/
def fnExactTonePowerWrong : ChangeSpec := { name := "fnExactTonePower", fn := fun _ => fun
  | [d1, d2] => { results := [.lit (.bool false)], args := [d1, d2] }
  | _ => none }
def FnExactTonePowerWrongFalsely : Prop := fnExactTonePowerRow.holds Try.pinned (OpenSpec.ofChange fnExactTonePowerWrong)

/-- 'laws.FnExactToneOfPart': WHATEVER THE INPUT: true; the input reads as it did. -/
def fnExactToneOfPartSpec : ChangeSpec := { name := "fnExactToneOfPart", fn := fun _ => fun
  | [d1, d2, d3, d4] => { results := [.lit (.bool true)], args := [d1, d2, d3, d4] }
  | _ => none }
def fnExactToneOfPartRow : OpenClaim := { program := "ytoiojbbadmkbjaa", sum := "4e488c76d5da38776f58b947fe36e52160763f486336a957fddacdf573e12507", func := "loop.example/g01198/laws.FnExactToneOfPart", spec := "fnExactToneOfPart", unfollowed := true, recurses := true, apart := false }
def FnExactToneOfPartSaid : Prop := fnExactToneOfPartRow.holds Try.pinned (OpenSpec.ofChange fnExactToneOfPartSpec)

/-- ITS FALSE NEIGHBOUR: 'it returns false'. Refute it at one input. -/
def fnExactToneOfPartWrong : ChangeSpec := { name := "fnExactToneOfPart", fn := fun _ => fun
  | [d1, d2, d3, d4] => { results := [.lit (.bool false)], args := [d1, d2, d3, d4] }
  | _ => none }
def FnExactToneOfPartWrongFalsely : Prop := fnExactToneOfPartRow.holds Try.pinned (OpenSpec.ofChange fnExactToneOfPartWrong)

/- THE SECOND FORM. 'bulk': how many values and letters a reading holds, each counted each time it is reached (what is shared counts as often as it is met; a slice's spare places count too). A statement '..UptoSaid' is the law's where the arguments, and the package variables that the reading takes, are together of bulk at most 1048576: NARROWER than '..Said'. Prove '..Said' where nothing that the law and all that it calls make is longer than what came in: it says more and counts as full. Else prove '..UptoSaid'. A law counts once. -/
mutual
def uptoBulk {H : Type} : DataW H → Nat
  | .lit (.string bytes) => bytes.length + 1
  | .lit _ => 1
  | .nil => 1
  | .ptr d => uptoBulk d + 1
  | .slice elems spare => uptoBulkAll elems + uptoBulkAll spare + 1
  | .agg parts => uptoBulkAll parts + 1
  | .iface _ d => uptoBulk d + 1
  | .map entries => uptoBulkEntries entries + 1
  | .held _ => 1
def uptoBulkAll {H : Type} : List (DataW H) → Nat
  | [] => 0
  | d :: r => uptoBulk d + uptoBulkAll r
def uptoBulkEntries {H : Type} : List (Lit × DataW H) → Nat
  | [] => 0
  | x :: r => uptoBulkEntry x + uptoBulkEntries r
def uptoBulkEntry {H : Type} : Lit × DataW H → Nat
  | (.string bytes, d) => bytes.length + uptoBulk d + 1
  | (_, d) => uptoBulk d + 1
 end
def uptoSmall : (H : Type) → List (DataW H) → Bool := fun _ ds => decide (uptoBulkAll ds ≤ 1048576)
def OpenSpec.upto (s : _root_.Go.ChangeSpec) : _root_.Go.OpenSpec := { _root_.Go.OpenSpec.ofChange s with cond := some uptoSmall }

/-- 'laws.FnExactToneStates', WHERE WHAT IT READS IS OF BULK AT MOST 1048576: true; the input reads as it did. -/
def fnExactToneStatesUptoRow : OpenClaim := { program := "ytoiojbbadmkbjaa", sum := "4e488c76d5da38776f58b947fe36e52160763f486336a957fddacdf573e12507", func := "loop.example/g01198/laws.FnExactToneStates", spec := "fnExactToneStates", apart := false, narrowed := true }
def FnExactToneStatesUptoSaid : Prop := fnExactToneStatesUptoRow.holds Try.pinned (OpenSpec.upto fnExactToneStatesSpec)

/-- 'laws.FnExactTonePower', WHERE WHAT IT READS IS OF BULK AT MOST 1048576: true; the input reads as it did. -/
def fnExactTonePowerUptoRow : OpenClaim := { program := "ytoiojbbadmkbjaa", sum := "4e488c76d5da38776f58b947fe36e52160763f486336a957fddacdf573e12507", func := "loop.example/g01198/laws.FnExactTonePower", spec := "fnExactTonePower", apart := false, narrowed := true }
def FnExactTonePowerUptoSaid : Prop := fnExactTonePowerUptoRow.holds Try.pinned (OpenSpec.upto fnExactTonePowerSpec)

/-- 'laws.FnExactToneOfPart', WHERE WHAT IT READS IS OF BULK AT MOST 1048576: true; the input reads as it did. -/
def fnExactToneOfPartUptoRow : OpenClaim := { program := "ytoiojbbadmkbjaa", sum := "4e488c76d5da38776f58b947fe36e52160763f486336a957fddacdf573e12507", func := "loop.example/g01198/laws.FnExactToneOfPart", spec := "fnExactToneOfPart", unfollowed := true, recurses := true, apart := false, narrowed := true }
def FnExactToneOfPartUptoSaid : Prop := fnExactToneOfPartUptoRow.holds Try.pinned (OpenSpec.upto fnExactToneOfPartSpec)

end Rows
end Go.Proofs.Ytoiojbbadmkbjaa
