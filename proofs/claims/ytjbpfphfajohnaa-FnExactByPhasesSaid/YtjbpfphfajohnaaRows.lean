/-
  No cell of these rows narrows 'for every input' (looked for: loops, veiled, ifaces, maps, wideKeys, modest, calm, conditions, laid).
  DERIVED. THE GIVEN ROWS OF THIS SEAT. 4 by the template 'for every input the law returns true; each argument reads behind the call as it read before'; 0 by the template 'total and deterministic' (their statements: YtjbpfphfajohnaaTotals.lean).
  GIVEN WITH THE SEED: the statements are not yours to turn. If you find one false, say at which input.
  Laid BY PROGRAM, IN A SANDBOX (cutbox-rows.mjs): the forced cells as the released guide's own fill.sh prints them over the translation e3672f327c7b1f8f… (all of the seat's roots in one cut). By AI agents, Wed Nov 11 2026. No macro, syntax, notation, axiom, sorry.
-/
import Derived.Test.YtjbpfphfajohnaaChecked
import GoSem.Claim
import GoSem.ClaimJoined
import GoSem.ClaimMapViews
import Derived.JoinedTies
import Derived.KernelRfl
namespace Go.Proofs.Ytjbpfphfajohnaa
/- THE CELL 'sum', in the pinned program and in every row, IS THE sha256 OF THE DUMP (.gsa) THAT YtjbpfphfajohnaaProg.lean LOADS. Nothing in Lean hashes anything: it is a label: what it is worth is what the hold of that sum in a sandbox is worth. -/
noncomputable def Try.pinned : Pinned := { name := "ytjbpfphfajohnaa", sum := "e3672f327c7b1f8f58e503fb3135946dab6b888c5cf71623dcf5d813bf479d59", checked := Try.checked }
namespace Rows
def none {H : Type} : Left H := { results := [], args := [] }

/-- 'laws.FnExactUpFilterDown': WHATEVER THE INPUT: true; the input reads as it did. -/
def fnExactUpFilterDownSpec : ChangeSpec := { name := "fnExactUpFilterDown", fn := fun _ => fun
  | [d1, d2, d3, d4] => { results := [.lit (.bool true)], args := [d1, d2, d3, d4] }
  | _ => none }
def fnExactUpFilterDownRow : OpenClaim := { program := "ytjbpfphfajohnaa", sum := "e3672f327c7b1f8f58e503fb3135946dab6b888c5cf71623dcf5d813bf479d59", func := "loop.example/g01198/laws.FnExactUpFilterDown", spec := "fnExactUpFilterDown", unfollowed := true, recurses := true, apart := false }
def FnExactUpFilterDownSaid : Prop := fnExactUpFilterDownRow.holds Try.pinned (OpenSpec.ofChange fnExactUpFilterDownSpec)

/-- ITS FALSE NEIGHBOUR: 'it returns false'. Refute it at one input. -/
def fnExactUpFilterDownWrong : ChangeSpec := { name := "fnExactUpFilterDown", fn := fun _ => fun
  | [d1, d2, d3, d4] => { results := [.lit (.bool false)], args := [d1, d2, d3, d4] }
  | _ => none }
def FnExactUpFilterDownWrongFalsely : Prop := fnExactUpFilterDownRow.holds Try.pinned (OpenSpec.ofChange fnExactUpFilterDownWrong)

/-- 'laws.FnExactDownFilter': WHATEVER THE INPUT: true; the input reads as it did. -/
def fnExactDownFilterSpec : ChangeSpec := { name := "fnExactDownFilter", fn := fun _ => fun
  | [d1, d2, d3] => { results := [.lit (.bool true)], args := [d1, d2, d3] }
  | _ => none }
def fnExactDownFilterRow : OpenClaim := { program := "ytjbpfphfajohnaa", sum := "e3672f327c7b1f8f58e503fb3135946dab6b888c5cf71623dcf5d813bf479d59", func := "loop.example/g01198/laws.FnExactDownFilter", spec := "fnExactDownFilter", unfollowed := true, recurses := true, apart := false }
def FnExactDownFilterSaid : Prop := fnExactDownFilterRow.holds Try.pinned (OpenSpec.ofChange fnExactDownFilterSpec)

/-- ITS FALSE NEIGHBOUR: 'it returns false'. Refute it at one input. -/
def fnExactDownFilterWrong : ChangeSpec := { name := "fnExactDownFilter", fn := fun _ => fun
  | [d1, d2, d3] => { results := [.lit (.bool false)], args := [d1, d2, d3] }
  | _ => none }
def FnExactDownFilterWrongFalsely : Prop := fnExactDownFilterRow.holds Try.pinned (OpenSpec.ofChange fnExactDownFilterWrong)

/-- 'laws.FnExactUpFilter': WHATEVER THE INPUT: true; the input reads as it did. -/
def fnExactUpFilterSpec : ChangeSpec := { name := "fnExactUpFilter", fn := fun _ => fun
  | [d1, d2, d3] => { results := [.lit (.bool true)], args := [d1, d2, d3] }
  | _ => none }
def fnExactUpFilterRow : OpenClaim := { program := "ytjbpfphfajohnaa", sum := "e3672f327c7b1f8f58e503fb3135946dab6b888c5cf71623dcf5d813bf479d59", func := "loop.example/g01198/laws.FnExactUpFilter", spec := "fnExactUpFilter", unfollowed := true, recurses := true, apart := false }
def FnExactUpFilterSaid : Prop := fnExactUpFilterRow.holds Try.pinned (OpenSpec.ofChange fnExactUpFilterSpec)

/-- ITS FALSE NEIGHBOUR: 'it returns false'. Refute it at one input. -/
def fnExactUpFilterWrong : ChangeSpec := { name := "fnExactUpFilter", fn := fun _ => fun
  | [d1, d2, d3] => { results := [.lit (.bool false)], args := [d1, d2, d3] }
  | _ => none }
def FnExactUpFilterWrongFalsely : Prop := fnExactUpFilterRow.holds Try.pinned (OpenSpec.ofChange fnExactUpFilterWrong)

/-- 'laws.FnExactByPhases': WHATEVER THE INPUT: true; the input reads as it did. -/
def fnExactByPhasesSpec : ChangeSpec := { name := "fnExactByPhases", fn := fun _ => fun
  | [d1, d2, d3, d4] => { results := [.lit (.bool true)], args := [d1, d2, d3, d4] }
  | _ => none }
def fnExactByPhasesRow : OpenClaim := { program := "ytjbpfphfajohnaa", sum := "e3672f327c7b1f8f58e503fb3135946dab6b888c5cf71623dcf5d813bf479d59", func := "loop.example/g01198/laws.FnExactByPhases", spec := "fnExactByPhases", unfollowed := true, recurses := true, apart := false }
def FnExactByPhasesSaid : Prop := fnExactByPhasesRow.holds Try.pinned (OpenSpec.ofChange fnExactByPhasesSpec)

/-- ITS FALSE NEIGHBOUR: 'it returns false'. Refute it at one input. -/
def fnExactByPhasesWrong : ChangeSpec := { name := "fnExactByPhases", fn := fun _ => fun
  | [d1, d2, d3, d4] => { results := [.lit (.bool false)], args := [d1, d2, d3, d4] }
  | _ => none }
def FnExactByPhasesWrongFalsely : Prop := fnExactByPhasesRow.holds Try.pinned (OpenSpec.ofChange fnExactByPhasesWrong)

/- THE SECOND FORM. 'bulk': how many values and letters a reading holds, each counted each time it is reached (what is shared counts as often as it is met; a slice's spare places count too). A statement '..UptoSaid' is the law's where the arguments, and the package variables that the reading takes, are together of bulk at most 1048576: NARROWER than '..Said'. Prove '..Said' where nothing that the law and all that it calls make is longer than what came in: it says more and counts as full. Else prove '..UptoSaid'. A law counts once. -/
mutual
def uptoBulk {H : Type} : DataW H → Nat
  | .lit (.string bytes) => bytes.length + 1
  | .lit _ => 1
  | .nil => 1
  | .ptr d => uptoBulk d + 1
  | .slice elems spare => uptoBulkAll elems + uptoBulkAll spare + 1
  | .agg parts => uptoBulkAll parts + 1
  | .iface _ d => uptoBulk d + 1
  | .map entries => uptoBulkEntries entries + 1
  | .held _ => 1
def uptoBulkAll {H : Type} : List (DataW H) → Nat
  | [] => 0
  | d :: r => uptoBulk d + uptoBulkAll r
def uptoBulkEntries {H : Type} : List (Lit × DataW H) → Nat
  | [] => 0
  | x :: r => uptoBulkEntry x + uptoBulkEntries r
def uptoBulkEntry {H : Type} : Lit × DataW H → Nat
  | (.string bytes, d) => bytes.length + uptoBulk d + 1
  | (_, d) => uptoBulk d + 1
 end
def uptoSmall : (H : Type) → List (DataW H) → Bool := fun _ ds => decide (uptoBulkAll ds ≤ 1048576)
def OpenSpec.upto (s : _root_.Go.ChangeSpec) : _root_.Go.OpenSpec := { _root_.Go.OpenSpec.ofChange s with cond := some uptoSmall }

/-- 'laws.FnExactUpFilterDown', WHERE WHAT IT READS IS OF BULK AT MOST 1048576: true; the input reads as it did. -/
def fnExactUpFilterDownUptoRow : OpenClaim := { program := "ytjbpfphfajohnaa", sum := "e3672f327c7b1f8f58e503fb3135946dab6b888c5cf71623dcf5d813bf479d59", func := "loop.example/g01198/laws.FnExactUpFilterDown", spec := "fnExactUpFilterDown", unfollowed := true, recurses := true, apart := false, narrowed := true }
def FnExactUpFilterDownUptoSaid : Prop := fnExactUpFilterDownUptoRow.holds Try.pinned (OpenSpec.upto fnExactUpFilterDownSpec)

/-- 'laws.FnExactDownFilter', WHERE WHAT IT READS IS OF BULK AT MOST 1048576: true; the input reads as it did. -/
def fnExactDownFilterUptoRow : OpenClaim := { program := "ytjbpfphfajohnaa", sum := "e3672f327c7b1f8f58e503fb3135946dab6b888c5cf71623dcf5d813bf479d59", func := "loop.example/g01198/laws.FnExactDownFilter", spec := "fnExactDownFilter", unfollowed := true, recurses := true, apart := false, narrowed := true }
def FnExactDownFilterUptoSaid : Prop := fnExactDownFilterUptoRow.holds Try.pinned (OpenSpec.upto fnExactDownFilterSpec)

/-- 'laws.FnExactUpFilter', WHERE WHAT IT READS IS OF BULK AT MOST 1048576: true; the input reads as it did. -/
def fnExactUpFilterUptoRow : OpenClaim := { program := "ytjbpfphfajohnaa", sum := "e3672f327c7b1f8f58e503fb3135946dab6b888c5cf71623dcf5d813bf479d59", func := "loop.example/g01198/laws.FnExactUpFilter", spec := "fnExactUpFilter", unfollowed := true, recurses := true, apart := false, narrowed := true }
def FnExactUpFilterUptoSaid : Prop := fnExactUpFilterUptoRow.holds Try.pinned (OpenSpec.upto fnExactUpFilterSpec)

/-- 'laws.FnExactByPhases', WHERE WHAT IT READS IS OF BULK AT MOST 1048576: true; the input reads as it did. -/
def fnExactByPhasesUptoRow : OpenClaim := { program := "ytjbpfphfajohnaa", sum := "e3672f327c7b1f8f58e503fb3135946dab6b888c5cf71623dcf5d813bf479d59", func := "loop.example/g01198/laws.FnExactByPhases", spec := "fnExactByPhases", unfollowed := true, recurses := true, apart := false, narrowed := true }
def FnExactByPhasesUptoSaid : Prop := fnExactByPhasesUptoRow.holds Try.pinned (OpenSpec.upto fnExactByPhasesSpec)

end Rows
end Go.Proofs.Ytjbpfphfajohnaa
