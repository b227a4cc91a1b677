/-
  No cell of these rows narrows 'for every input' (looked for: loops, veiled, ifaces, maps, wideKeys, modest, calm, conditions, laid).
  DERIVED. THE GIVEN ROWS OF THIS SEAT. 5 by the template 'for every input the law returns true; each argument reads behind the call as it read before'; 0 by the template 'total and deterministic' (their statements: YtaihopcmckkpbaaTotals.lean).
  GIVEN WITH THE SEED: the statements are not yours to turn. If you find one false, say at which input.
  Laid BY PROGRAM, IN A SANDBOX (cutbox-rows.mjs): the forced cells as the released guide's own fill.sh prints them over the translation de6be52d8a7e8360… (all of the seat's roots in one cut). By AI agents, Wed Nov 11 2026. No macro, syntax, notation, axiom, sorry.
-/
import Derived.Test.YtaihopcmckkpbaaChecked
import GoSem.Claim
import GoSem.ClaimJoined
import GoSem.ClaimMapViews
import Derived.JoinedTies
import Derived.KernelRfl
namespace Go.Proofs.Ytaihopcmckkpbaa
/- THE CELL 'sum', in the pinned program and in every row, IS THE sha256 OF THE DUMP (.gsa) THAT YtaihopcmckkpbaaProg.lean LOADS. Nothing in Lean hashes anything: it is a label: what it is worth is what the hold of that sum in a sandbox is worth. -/
noncomputable def Try.pinned : Pinned := { name := "ytaihopcmckkpbaa", sum := "de6be52d8a7e8360a7d4151da1a7d2fce99269e105432b4656db69b8313070ee", checked := Try.checked }
namespace Rows
def none {H : Type} : Left H := { results := [], args := [] }

/-- 'laws.FnExactFourTone': WHATEVER THE INPUT: true; the input reads as it did. -/
def fnExactFourToneSpec : ChangeSpec := { name := "fnExactFourTone", fn := fun _ => fun
  | [d1, d2] => { results := [.lit (.bool true)], args := [d1, d2] }
  | _ => none }
def fnExactFourToneRow : OpenClaim := { program := "ytaihopcmckkpbaa", sum := "de6be52d8a7e8360a7d4151da1a7d2fce99269e105432b4656db69b8313070ee", func := "loop.example/g01198/laws.FnExactFourTone", spec := "fnExactFourTone", unfollowed := true, recurses := true, apart := false }
def FnExactFourToneSaid : Prop := fnExactFourToneRow.holds Try.pinned (OpenSpec.ofChange fnExactFourToneSpec)

/-- ITS FALSE NEIGHBOUR: 'it returns false'. Refute it at one input. -/
def fnExactFourToneWrong : ChangeSpec := { name := "fnExactFourTone", fn := fun _ => fun
  | [d1, d2] => { results := [.lit (.bool false)], args := [d1, d2] }
  | _ => none }
def FnExactFourToneWrongFalsely : Prop := fnExactFourToneRow.holds Try.pinned (OpenSpec.ofChange fnExactFourToneWrong)

/-- 'laws.FnExactSixTone': WHATEVER THE INPUT: true; the input reads as it did. -/
def fnExactSixToneSpec : ChangeSpec := { name := "fnExactSixTone", fn := fun _ => fun
  | [d1, d2] => { results := [.lit (.bool true)], args := [d1, d2] }
  | _ => none }
def fnExactSixToneRow : OpenClaim := { program := "ytaihopcmckkpbaa", sum := "de6be52d8a7e8360a7d4151da1a7d2fce99269e105432b4656db69b8313070ee", func := "loop.example/g01198/laws.FnExactSixTone", spec := "fnExactSixTone", unfollowed := true, recurses := true, apart := false }
def FnExactSixToneSaid : Prop := fnExactSixToneRow.holds Try.pinned (OpenSpec.ofChange fnExactSixToneSpec)

/-- ITS FALSE NEIGHBOUR: 'it returns false'. Refute it at one input. -/
def fnExactSixToneWrong : ChangeSpec := { name := "fnExactSixTone", fn := fun _ => fun
  | [d1, d2] => { results := [.lit (.bool false)], args := [d1, d2] }
  | _ => none }
def FnExactSixToneWrongFalsely : Prop := fnExactSixToneRow.holds Try.pinned (OpenSpec.ofChange fnExactSixToneWrong)

/-- 'laws.FnExactFourPowers': WHATEVER THE INPUT: true; the input reads as it did. -/
def fnExactFourPowersSpec : ChangeSpec := { name := "fnExactFourPowers", fn := fun _ => fun
  | [d] => { results := [.lit (.bool true)], args := [d] }
  | _ => none }
def fnExactFourPowersRow : OpenClaim := { program := "ytaihopcmckkpbaa", sum := "de6be52d8a7e8360a7d4151da1a7d2fce99269e105432b4656db69b8313070ee", func := "loop.example/g01198/laws.FnExactFourPowers", spec := "fnExactFourPowers", unfollowed := true, recurses := true, apart := false }
def FnExactFourPowersSaid : Prop := fnExactFourPowersRow.holds Try.pinned (OpenSpec.ofChange fnExactFourPowersSpec)

/-- ITS FALSE NEIGHBOUR: 'it returns false'. Refute it at one input. -/
def fnExactFourPowersWrong : ChangeSpec := { name := "fnExactFourPowers", fn := fun _ => fun
  | [d] => { results := [.lit (.bool false)], args := [d] }
  | _ => none }
def FnExactFourPowersWrongFalsely : Prop := fnExactFourPowersRow.holds Try.pinned (OpenSpec.ofChange fnExactFourPowersWrong)

/-- 'laws.FnExactSixPowers': WHATEVER THE INPUT: true; the input reads as it did. -/
def fnExactSixPowersSpec : ChangeSpec := { name := "fnExactSixPowers", fn := fun _ => fun
  | [d] => { results := [.lit (.bool true)], args := [d] }
  | _ => none }
def fnExactSixPowersRow : OpenClaim := { program := "ytaihopcmckkpbaa", sum := "de6be52d8a7e8360a7d4151da1a7d2fce99269e105432b4656db69b8313070ee", func := "loop.example/g01198/laws.FnExactSixPowers", spec := "fnExactSixPowers", unfollowed := true, recurses := true, apart := false }
def FnExactSixPowersSaid : Prop := fnExactSixPowersRow.holds Try.pinned (OpenSpec.ofChange fnExactSixPowersSpec)

/-- ITS FALSE NEIGHBOUR: 'it returns false'. Refute it at one input. -/
def fnExactSixPowersWrong : ChangeSpec := { name := "fnExactSixPowers", fn := fun _ => fun
  | [d] => { results := [.lit (.bool false)], args := [d] }
  | _ => none }
def FnExactSixPowersWrongFalsely : Prop := fnExactSixPowersRow.holds Try.pinned (OpenSpec.ofChange fnExactSixPowersWrong)

/-- 'laws.FnExactStrongestPart': WHATEVER THE INPUT: true; the input reads as it did. -/
def fnExactStrongestPartSpec : ChangeSpec := { name := "fnExactStrongestPart", fn := fun _ => fun
  | [d1, d2] => { results := [.lit (.bool true)], args := [d1, d2] }
  | _ => none }
def fnExactStrongestPartRow : OpenClaim := { program := "ytaihopcmckkpbaa", sum := "de6be52d8a7e8360a7d4151da1a7d2fce99269e105432b4656db69b8313070ee", func := "loop.example/g01198/laws.FnExactStrongestPart", spec := "fnExactStrongestPart", unfollowed := true, recurses := true, apart := false }
def FnExactStrongestPartSaid : Prop := fnExactStrongestPartRow.holds Try.pinned (OpenSpec.ofChange fnExactStrongestPartSpec)

/-- ITS FALSE NEIGHBOUR: 'it returns false'. Refute it at one input. -/
def fnExactStrongestPartWrong : ChangeSpec := { name := "fnExactStrongestPart", fn := fun _ => fun
  | [d1, d2] => { results := [.lit (.bool false)], args := [d1, d2] }
  | _ => none }
def FnExactStrongestPartWrongFalsely : Prop := fnExactStrongestPartRow.holds Try.pinned (OpenSpec.ofChange fnExactStrongestPartWrong)

/- THE SECOND FORM. 'bulk': how many values and letters a reading holds, each counted each time it is reached (what is shared counts as often as it is met; a slice's spare places count too). A statement '..UptoSaid' is the law's where the arguments, and the package variables that the reading takes, are together of bulk at most 1048576: NARROWER than '..Said'. Prove '..Said' where nothing that the law and all that it calls make is longer than what came in: it says more and counts as full. Else prove '..UptoSaid'. A law counts once. -/
mutual
def uptoBulk {H : Type} : DataW H → Nat
  | .lit (.string bytes) => bytes.length + 1
  | .lit _ => 1
  | .nil => 1
  | .ptr d => uptoBulk d + 1
  | .slice elems spare => uptoBulkAll elems + uptoBulkAll spare + 1
  | .agg parts => uptoBulkAll parts + 1
  | .iface _ d => uptoBulk d + 1
  | .map entries => uptoBulkEntries entries + 1
  | .held _ => 1
def uptoBulkAll {H : Type} : List (DataW H) → Nat
  | [] => 0
  | d :: r => uptoBulk d + uptoBulkAll r
def uptoBulkEntries {H : Type} : List (Lit × DataW H) → Nat
  | [] => 0
  | x :: r => uptoBulkEntry x + uptoBulkEntries r
def uptoBulkEntry {H : Type} : Lit × DataW H → Nat
  | (.string bytes, d) => bytes.length + uptoBulk d + 1
  | (_, d) => uptoBulk d + 1
 end
def uptoSmall : (H : Type) → List (DataW H) → Bool := fun _ ds => decide (uptoBulkAll ds ≤ 1048576)
def OpenSpec.upto (s : _root_.Go.ChangeSpec) : _root_.Go.OpenSpec := { _root_.Go.OpenSpec.ofChange s with cond := some uptoSmall }

/-- 'laws.FnExactFourTone', WHERE WHAT IT READS IS OF BULK AT MOST 1048576: true; the input reads as it did. -/
def fnExactFourToneUptoRow : OpenClaim := { program := "ytaihopcmckkpbaa", sum := "de6be52d8a7e8360a7d4151da1a7d2fce99269e105432b4656db69b8313070ee", func := "loop.example/g01198/laws.FnExactFourTone", spec := "fnExactFourTone", unfollowed := true, recurses := true, apart := false, narrowed := true }
def FnExactFourToneUptoSaid : Prop := fnExactFourToneUptoRow.holds Try.pinned (OpenSpec.upto fnExactFourToneSpec)

/-- 'laws.FnExactSixTone', WHERE WHAT IT READS IS OF BULK AT MOST 1048576: true; the input reads as it did. -/
def fnExactSixToneUptoRow : OpenClaim := { program := "ytaihopcmckkpbaa", sum := "de6be52d8a7e8360a7d4151da1a7d2fce99269e105432b4656db69b8313070ee", func := "loop.example/g01198/laws.FnExactSixTone", spec := "fnExactSixTone", unfollowed := true, recurses := true, apart := false, narrowed := true }
def FnExactSixToneUptoSaid : Prop := fnExactSixToneUptoRow.holds Try.pinned (OpenSpec.upto fnExactSixToneSpec)

/-- 'laws.FnExactFourPowers', WHERE WHAT IT READS IS OF BULK AT MOST 1048576: true; the input reads as it did. -/
def fnExactFourPowersUptoRow : OpenClaim := { program := "ytaihopcmckkpbaa", sum := "de6be52d8a7e8360a7d4151da1a7d2fce99269e105432b4656db69b8313070ee", func := "loop.example/g01198/laws.FnExactFourPowers", spec := "fnExactFourPowers", unfollowed := true, recurses := true, apart := false, narrowed := true }
def FnExactFourPowersUptoSaid : Prop := fnExactFourPowersUptoRow.holds Try.pinned (OpenSpec.upto fnExactFourPowersSpec)

/-- 'laws.FnExactSixPowers', WHERE WHAT IT READS IS OF BULK AT MOST 1048576: true; the input reads as it did. -/
def fnExactSixPowersUptoRow : OpenClaim := { program := "ytaihopcmckkpbaa", sum := "de6be52d8a7e8360a7d4151da1a7d2fce99269e105432b4656db69b8313070ee", func := "loop.example/g01198/laws.FnExactSixPowers", spec := "fnExactSixPowers", unfollowed := true, recurses := true, apart := false, narrowed := true }
def FnExactSixPowersUptoSaid : Prop := fnExactSixPowersUptoRow.holds Try.pinned (OpenSpec.upto fnExactSixPowersSpec)

/-- 'laws.FnExactStrongestPart', WHERE WHAT IT READS IS OF BULK AT MOST 1048576: true; the input reads as it did. -/
def fnExactStrongestPartUptoRow : OpenClaim := { program := "ytaihopcmckkpbaa", sum := "de6be52d8a7e8360a7d4151da1a7d2fce99269e105432b4656db69b8313070ee", func := "loop.example/g01198/laws.FnExactStrongestPart", spec := "fnExactStrongestPart", unfollowed := true, recurses := true, apart := false, narrowed := true }
def FnExactStrongestPartUptoSaid : Prop := fnExactStrongestPartUptoRow.holds Try.pinned (OpenSpec.upto fnExactStrongestPartSpec)

end Rows
end Go.Proofs.Ytaihopcmckkpbaa
