/-
  No cell of these rows narrows 'for every input' (looked for: loops, veiled, ifaces, maps, wideKeys, modest, calm, conditions, laid).
  DERIVED. THE GIVEN ROWS OF THIS SEAT. 4 by the template 'for every input the law returns true; each argument reads behind the call as it read before'; 0 by the template 'total and deterministic' (their statements: YtemlcgfmaikljaaTotals.lean).
  GIVEN WITH THE SEED: the statements are not yours to turn. If you find one false, say at which input.
  Laid BY PROGRAM, IN A SANDBOX (cutbox-rows.mjs): the forced cells as the released guide's own fill.sh prints them over the translation 5142123af92d0f4d… (all of the seat's roots in one cut). By AI agents, Wed Nov 11 2026. No macro, syntax, notation, axiom, sorry.
-/
import Derived.Test.YtemlcgfmaikljaaChecked
import GoSem.Claim
import GoSem.ClaimJoined
import GoSem.ClaimMapViews
import Derived.JoinedTies
import Derived.KernelRfl
namespace Go.Proofs.Ytemlcgfmaikljaa
/- THE CELL 'sum', in the pinned program and in every row, IS THE sha256 OF THE DUMP (.gsa) THAT YtemlcgfmaikljaaProg.lean LOADS. Nothing in Lean hashes anything: it is a label: what it is worth is what the hold of that sum in a sandbox is worth. -/
noncomputable def Try.pinned : Pinned := { name := "ytemlcgfmaikljaa", sum := "5142123af92d0f4d24f359560351c271058834b3d00c4b06a34a5e740e8dec2a", checked := Try.checked }
namespace Rows
def none {H : Type} : Left H := { results := [], args := [] }

/-- 'laws.FnExactShapeSignal': WHATEVER THE INPUT: true; the input reads as it did. -/
def fnExactShapeSignalSpec : ChangeSpec := { name := "fnExactShapeSignal", fn := fun _ => fun
  | [d1, d2, d3, d4] => { results := [.lit (.bool true)], args := [d1, d2, d3, d4] }
  | _ => none }
def fnExactShapeSignalRow : OpenClaim := { program := "ytemlcgfmaikljaa", sum := "5142123af92d0f4d24f359560351c271058834b3d00c4b06a34a5e740e8dec2a", func := "loop.example/g01198/laws.FnExactShapeSignal", spec := "fnExactShapeSignal", unfollowed := true, recurses := true, apart := false }
def FnExactShapeSignalSaid : Prop := fnExactShapeSignalRow.holds Try.pinned (OpenSpec.ofChange fnExactShapeSignalSpec)

/-- ITS FALSE NEIGHBOUR: 'it returns false'. Refute it at one input. -/
def fnExactShapeSignalWrong : ChangeSpec := { name := "fnExactShapeSignal", fn := fun _ => fun
  | [d1, d2, d3, d4] => { results := [.lit (.bool false)], args := [d1, d2, d3, d4] }
  | _ => none }
def FnExactShapeSignalWrongFalsely : Prop := fnExactShapeSignalRow.holds Try.pinned (OpenSpec.ofChange fnExactShapeSignalWrong)

/-- 'laws.FnExactShapeErrors': WHATEVER THE INPUT: true; the input reads as it did. -/
def fnExactShapeErrorsSpec : ChangeSpec := { name := "fnExactShapeErrors", fn := fun _ => fun
  | [d1, d2, d3, d4] => { results := [.lit (.bool true)], args := [d1, d2, d3, d4] }
  | _ => none }
def fnExactShapeErrorsRow : OpenClaim := { program := "ytemlcgfmaikljaa", sum := "5142123af92d0f4d24f359560351c271058834b3d00c4b06a34a5e740e8dec2a", func := "loop.example/g01198/laws.FnExactShapeErrors", spec := "fnExactShapeErrors", unfollowed := true, recurses := true, apart := false }
def FnExactShapeErrorsSaid : Prop := fnExactShapeErrorsRow.holds Try.pinned (OpenSpec.ofChange fnExactShapeErrorsSpec)

/-- ITS FALSE NEIGHBOUR: 'it returns false'. Refute it at one input. -/
def fnExactShapeErrorsWrong : ChangeSpec := { name := "fnExactShapeErrors", fn := fun _ => fun
  | [d1, d2, d3, d4] => { results := [.lit (.bool false)], args := [d1, d2, d3, d4] }
  | _ => none }
def FnExactShapeErrorsWrongFalsely : Prop := fnExactShapeErrorsRow.holds Try.pinned (OpenSpec.ofChange fnExactShapeErrorsWrong)

/-- 'laws.FnExactShapedSums': WHATEVER THE INPUT: true; the input reads as it did. -/
def fnExactShapedSumsSpec : ChangeSpec := { name := "fnExactShapedSums", fn := fun _ => fun
  | [d1, d2, d3, d4] => { results := [.lit (.bool true)], args := [d1, d2, d3, d4] }
  | _ => none }
def fnExactShapedSumsRow : OpenClaim := { program := "ytemlcgfmaikljaa", sum := "5142123af92d0f4d24f359560351c271058834b3d00c4b06a34a5e740e8dec2a", func := "loop.example/g01198/laws.FnExactShapedSums", spec := "fnExactShapedSums", unfollowed := true, recurses := true, apart := false }
def FnExactShapedSumsSaid : Prop := fnExactShapedSumsRow.holds Try.pinned (OpenSpec.ofChange fnExactShapedSumsSpec)

/-- ITS FALSE NEIGHBOUR: 'it returns false'. Refute it at one input. -/
def fnExactShapedSumsWrong : ChangeSpec := { name := "fnExactShapedSums", fn := fun _ => fun
  | [d1, d2, d3, d4] => { results := [.lit (.bool false)], args := [d1, d2, d3, d4] }
  | _ => none }
def FnExactShapedSumsWrongFalsely : Prop := fnExactShapedSumsRow.holds Try.pinned (OpenSpec.ofChange fnExactShapedSumsWrong)

/-- 'laws.FnExactGreatestShapeGap': WHATEVER THE INPUT: true; the input reads as it did. -/
def fnExactGreatestShapeGapSpec : ChangeSpec := { name := "fnExactGreatestShapeGap", fn := fun _ => fun
  | [d1, d2, d3, d4] => { results := [.lit (.bool true)], args := [d1, d2, d3, d4] }
  | _ => none }
def fnExactGreatestShapeGapRow : OpenClaim := { program := "ytemlcgfmaikljaa", sum := "5142123af92d0f4d24f359560351c271058834b3d00c4b06a34a5e740e8dec2a", func := "loop.example/g01198/laws.FnExactGreatestShapeGap", spec := "fnExactGreatestShapeGap", unfollowed := true, recurses := true, apart := false }
def FnExactGreatestShapeGapSaid : Prop := fnExactGreatestShapeGapRow.holds Try.pinned (OpenSpec.ofChange fnExactGreatestShapeGapSpec)

/-- ITS FALSE NEIGHBOUR: 'it returns false'. Refute it at one input. -/
def fnExactGreatestShapeGapWrong : ChangeSpec := { name := "fnExactGreatestShapeGap", fn := fun _ => fun
  | [d1, d2, d3, d4] => { results := [.lit (.bool false)], args := [d1, d2, d3, d4] }
  | _ => none }
def FnExactGreatestShapeGapWrongFalsely : Prop := fnExactGreatestShapeGapRow.holds Try.pinned (OpenSpec.ofChange fnExactGreatestShapeGapWrong)

/- THE SECOND FORM. 'bulk': how many values and letters a reading holds, each counted each time it is reached (what is shared counts as often as it is met; a slice's spare places count too). A statement '..UptoSaid' is the law's where the arguments, and the package variables that the reading takes, are together of bulk at most 1048576: NARROWER than '..Said'. Prove '..Said' where nothing that the law and all that it calls make is longer than what came in: it says more and counts as full. Else prove '..UptoSaid'. A law counts once. -/
mutual
def uptoBulk {H : Type} : DataW H → Nat
  | .lit (.string bytes) => bytes.length + 1
  | .lit _ => 1
  | .nil => 1
  | .ptr d => uptoBulk d + 1
  | .slice elems spare => uptoBulkAll elems + uptoBulkAll spare + 1
  | .agg parts => uptoBulkAll parts + 1
  | .iface _ d => uptoBulk d + 1
  | .map entries => uptoBulkEntries entries + 1
  | .held _ => 1
def uptoBulkAll {H : Type} : List (DataW H) → Nat
  | [] => 0
  | d :: r => uptoBulk d + uptoBulkAll r
def uptoBulkEntries {H : Type} : List (Lit × DataW H) → Nat
  | [] => 0
  | x :: r => uptoBulkEntry x + uptoBulkEntries r
def uptoBulkEntry {H : Type} : Lit × DataW H → Nat
  | (.string bytes, d) => bytes.length + uptoBulk d + 1
  | (_, d) => uptoBulk d + 1
 end
def uptoSmall : (H : Type) → List (DataW H) → Bool := fun _ ds => decide (uptoBulkAll ds ≤ 1048576)
def OpenSpec.upto (s : _root_.Go.ChangeSpec) : _root_.Go.OpenSpec := { _root_.Go.OpenSpec.ofChange s with cond := some uptoSmall }

/-- 'laws.FnExactShapeSignal', WHERE WHAT IT READS IS OF BULK AT MOST 1048576: true; the input reads as it did. -/
def fnExactShapeSignalUptoRow : OpenClaim := { program := "ytemlcgfmaikljaa", sum := "5142123af92d0f4d24f359560351c271058834b3d00c4b06a34a5e740e8dec2a", func := "loop.example/g01198/laws.FnExactShapeSignal", spec := "fnExactShapeSignal", unfollowed := true, recurses := true, apart := false, narrowed := true }
def FnExactShapeSignalUptoSaid : Prop := fnExactShapeSignalUptoRow.holds Try.pinned (OpenSpec.upto fnExactShapeSignalSpec)

/-- 'laws.FnExactShapeErrors', WHERE WHAT IT READS IS OF BULK AT MOST 1048576: true; the input reads as it did. -/
def fnExactShapeErrorsUptoRow : OpenClaim := { program := "ytemlcgfmaikljaa", sum := "5142123af92d0f4d24f359560351c271058834b3d00c4b06a34a5e740e8dec2a", func := "loop.example/g01198/laws.FnExactShapeErrors", spec := "fnExactShapeErrors", unfollowed := true, recurses := true, apart := false, narrowed := true }
def FnExactShapeErrorsUptoSaid : Prop := fnExactShapeErrorsUptoRow.holds Try.pinned (OpenSpec.upto fnExactShapeErrorsSpec)

/-- 'laws.FnExactShapedSums', WHERE WHAT IT READS IS OF BULK AT MOST 1048576: true; the input reads as it did. -/
def fnExactShapedSumsUptoRow : OpenClaim := { program := "ytemlcgfmaikljaa", sum := "5142123af92d0f4d24f359560351c271058834b3d00c4b06a34a5e740e8dec2a", func := "loop.example/g01198/laws.FnExactShapedSums", spec := "fnExactShapedSums", unfollowed := true, recurses := true, apart := false, narrowed := true }
def FnExactShapedSumsUptoSaid : Prop := fnExactShapedSumsUptoRow.holds Try.pinned (OpenSpec.upto fnExactShapedSumsSpec)

/-- 'laws.FnExactGreatestShapeGap', WHERE WHAT IT READS IS OF BULK AT MOST 1048576: true; the input reads as it did. -/
def fnExactGreatestShapeGapUptoRow : OpenClaim := { program := "ytemlcgfmaikljaa", sum := "5142123af92d0f4d24f359560351c271058834b3d00c4b06a34a5e740e8dec2a", func := "loop.example/g01198/laws.FnExactGreatestShapeGap", spec := "fnExactGreatestShapeGap", unfollowed := true, recurses := true, apart := false, narrowed := true }
def FnExactGreatestShapeGapUptoSaid : Prop := fnExactGreatestShapeGapUptoRow.holds Try.pinned (OpenSpec.upto fnExactGreatestShapeGapSpec)

end Rows
end Go.Proofs.Ytemlcgfmaikljaa
