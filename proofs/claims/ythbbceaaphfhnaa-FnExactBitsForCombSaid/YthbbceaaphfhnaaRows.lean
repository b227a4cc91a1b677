/-
  No cell of these rows narrows 'for every input' (looked for: loops, veiled, ifaces, maps, wideKeys, modest, calm, conditions, laid).
  DERIVED. THE GIVEN ROWS OF THIS SEAT. 6 by the template 'for every input the law returns true; each argument reads behind the call as it read before'; 0 by the template 'total and deterministic' (their statements: YthbbceaaphfhnaaTotals.lean).
  GIVEN WITH THE SEED: the statements are not yours to turn. If you find one false, say at which input.
  Laid BY PROGRAM, IN A SANDBOX (cutbox-rows.mjs): the forced cells as the released guide's own fill.sh prints them over the translation c93b9d3cc35f2df2… (all of the seat's roots in one cut). By AI agents, Wed Nov 11 2026. No macro, syntax, notation, axiom, sorry.
-/
import Derived.Test.YthbbceaaphfhnaaChecked
import GoSem.Claim
import GoSem.ClaimJoined
import GoSem.ClaimMapViews
import Derived.JoinedTies
import Derived.KernelRfl
namespace Go.Proofs.Ythbbceaaphfhnaa
/- THE CELL 'sum', in the pinned program and in every row, IS THE sha256 OF THE DUMP (.gsa) THAT YthbbceaaphfhnaaProg.lean LOADS. Nothing in Lean hashes anything: it is a label: what it is worth is what the hold of that sum in a sandbox is worth. -/
noncomputable def Try.pinned : Pinned := { name := "ythbbceaaphfhnaa", sum := "c93b9d3cc35f2df23369593d0e27db197b5a85a435fb07a61a2f6e41f1e39838", checked := Try.checked }
namespace Rows
def none {H : Type} : Left H := { results := [], args := [] }

/-- 'laws.FnExactCombGain': WHATEVER THE INPUT: true; the input reads as it did. -/
def fnExactCombGainSpec : ChangeSpec := { name := "fnExactCombGain", fn := fun _ => fun
  | [d1, d2] => { results := [.lit (.bool true)], args := [d1, d2] }
  | _ => none }
def fnExactCombGainRow : OpenClaim := { program := "ythbbceaaphfhnaa", sum := "c93b9d3cc35f2df23369593d0e27db197b5a85a435fb07a61a2f6e41f1e39838", func := "loop.example/g01198/laws.FnExactCombGain", spec := "fnExactCombGain", apart := false }
def FnExactCombGainSaid : Prop := fnExactCombGainRow.holds Try.pinned (OpenSpec.ofChange fnExactCombGainSpec)

/-- ITS FALSE NEIGHBOUR: 'it returns false'. Refute it at one input. -/
def fnExactCombGainWrong : ChangeSpec := { name := "fnExactCombGain", fn := fun _ => fun
  | [d1, d2] => { results := [.lit (.bool false)], args := [d1, d2] }
  | _ => none }
def FnExactCombGainWrongFalsely : Prop := fnExactCombGainRow.holds Try.pinned (OpenSpec.ofChange fnExactCombGainWrong)

/-- 'laws.FnExactBoxAnswer': WHATEVER THE INPUT: true; the input reads as it did. -/
def fnExactBoxAnswerSpec : ChangeSpec := { name := "fnExactBoxAnswer", fn := fun _ => fun
  | [d1, d2] => { results := [.lit (.bool true)], args := [d1, d2] }
  | _ => none }
def fnExactBoxAnswerRow : OpenClaim := { program := "ythbbceaaphfhnaa", sum := "c93b9d3cc35f2df23369593d0e27db197b5a85a435fb07a61a2f6e41f1e39838", func := "loop.example/g01198/laws.FnExactBoxAnswer", spec := "fnExactBoxAnswer", unfollowed := true, recurses := true, apart := false }
def FnExactBoxAnswerSaid : Prop := fnExactBoxAnswerRow.holds Try.pinned (OpenSpec.ofChange fnExactBoxAnswerSpec)

/-- ITS FALSE NEIGHBOUR: 'it returns false'. Refute it at one input. -/
def fnExactBoxAnswerWrong : ChangeSpec := { name := "fnExactBoxAnswer", fn := fun _ => fun
  | [d1, d2] => { results := [.lit (.bool false)], args := [d1, d2] }
  | _ => none }
def FnExactBoxAnswerWrongFalsely : Prop := fnExactBoxAnswerRow.holds Try.pinned (OpenSpec.ofChange fnExactBoxAnswerWrong)

/-- 'laws.FnExactBoxDroop': WHATEVER THE INPUT: true; the input reads as it did. -/
def fnExactBoxDroopSpec : ChangeSpec := { name := "fnExactBoxDroop", fn := fun _ => fun
  | [d1, d2] => { results := [.lit (.bool true)], args := [d1, d2] }
  | _ => none }
def fnExactBoxDroopRow : OpenClaim := { program := "ythbbceaaphfhnaa", sum := "c93b9d3cc35f2df23369593d0e27db197b5a85a435fb07a61a2f6e41f1e39838", func := "loop.example/g01198/laws.FnExactBoxDroop", spec := "fnExactBoxDroop", unfollowed := true, recurses := true, apart := false }
def FnExactBoxDroopSaid : Prop := fnExactBoxDroopRow.holds Try.pinned (OpenSpec.ofChange fnExactBoxDroopSpec)

/-- ITS FALSE NEIGHBOUR: 'it returns false'. Refute it at one input. -/
def fnExactBoxDroopWrong : ChangeSpec := { name := "fnExactBoxDroop", fn := fun _ => fun
  | [d1, d2] => { results := [.lit (.bool false)], args := [d1, d2] }
  | _ => none }
def FnExactBoxDroopWrongFalsely : Prop := fnExactBoxDroopRow.holds Try.pinned (OpenSpec.ofChange fnExactBoxDroopWrong)

/-- 'laws.FnExactGainAtHalf': WHATEVER THE INPUT: true; the input reads as it did. -/
def fnExactGainAtHalfSpec : ChangeSpec := { name := "fnExactGainAtHalf", fn := fun _ => fun
  | [d] => { results := [.lit (.bool true)], args := [d] }
  | _ => none }
def fnExactGainAtHalfRow : OpenClaim := { program := "ythbbceaaphfhnaa", sum := "c93b9d3cc35f2df23369593d0e27db197b5a85a435fb07a61a2f6e41f1e39838", func := "loop.example/g01198/laws.FnExactGainAtHalf", spec := "fnExactGainAtHalf", apart := false }
def FnExactGainAtHalfSaid : Prop := fnExactGainAtHalfRow.holds Try.pinned (OpenSpec.ofChange fnExactGainAtHalfSpec)

/-- ITS FALSE NEIGHBOUR: 'it returns false'. Refute it at one input. -/
def fnExactGainAtHalfWrong : ChangeSpec := { name := "fnExactGainAtHalf", fn := fun _ => fun
  | [d] => { results := [.lit (.bool false)], args := [d] }
  | _ => none }
def FnExactGainAtHalfWrongFalsely : Prop := fnExactGainAtHalfRow.holds Try.pinned (OpenSpec.ofChange fnExactGainAtHalfWrong)

/-- 'laws.FnExactBitsForComb': WHATEVER THE INPUT: true; the input reads as it did. -/
def fnExactBitsForCombSpec : ChangeSpec := { name := "fnExactBitsForComb", fn := fun _ => fun
  | [d1, d2, d3] => { results := [.lit (.bool true)], args := [d1, d2, d3] }
  | _ => none }
def fnExactBitsForCombRow : OpenClaim := { program := "ythbbceaaphfhnaa", sum := "c93b9d3cc35f2df23369593d0e27db197b5a85a435fb07a61a2f6e41f1e39838", func := "loop.example/g01198/laws.FnExactBitsForComb", spec := "fnExactBitsForComb", unfollowed := true, recurses := true, apart := false }
def FnExactBitsForCombSaid : Prop := fnExactBitsForCombRow.holds Try.pinned (OpenSpec.ofChange fnExactBitsForCombSpec)

/-- ITS FALSE NEIGHBOUR: 'it returns false'. Refute it at one input. -/
def fnExactBitsForCombWrong : ChangeSpec := { name := "fnExactBitsForComb", fn := fun _ => fun
  | [d1, d2, d3] => { results := [.lit (.bool false)], args := [d1, d2, d3] }
  | _ => none }
def FnExactBitsForCombWrongFalsely : Prop := fnExactBitsForCombRow.holds Try.pinned (OpenSpec.ofChange fnExactBitsForCombWrong)

/-- 'laws.FnExactBitsNeeded': WHATEVER THE INPUT: true; the input reads as it did. -/
def fnExactBitsNeededSpec : ChangeSpec := { name := "fnExactBitsNeeded", fn := fun _ => fun
  | [d1, d2] => { results := [.lit (.bool true)], args := [d1, d2] }
  | _ => none }
def fnExactBitsNeededRow : OpenClaim := { program := "ythbbceaaphfhnaa", sum := "c93b9d3cc35f2df23369593d0e27db197b5a85a435fb07a61a2f6e41f1e39838", func := "loop.example/g01198/laws.FnExactBitsNeeded", spec := "fnExactBitsNeeded", apart := false }
def FnExactBitsNeededSaid : Prop := fnExactBitsNeededRow.holds Try.pinned (OpenSpec.ofChange fnExactBitsNeededSpec)

/-- ITS FALSE NEIGHBOUR: 'it returns false'. Refute it at one input. -/
def fnExactBitsNeededWrong : ChangeSpec := { name := "fnExactBitsNeeded", fn := fun _ => fun
  | [d1, d2] => { results := [.lit (.bool false)], args := [d1, d2] }
  | _ => none }
def FnExactBitsNeededWrongFalsely : Prop := fnExactBitsNeededRow.holds Try.pinned (OpenSpec.ofChange fnExactBitsNeededWrong)

/- THE SECOND FORM. 'bulk': how many values and letters a reading holds, each counted each time it is reached (what is shared counts as often as it is met; a slice's spare places count too). A statement '..UptoSaid' is the law's where the arguments, and the package variables that the reading takes, are together of bulk at most 1048576: NARROWER than '..Said'. Prove '..Said' where nothing that the law and all that it calls make is longer than what came in: it says more and counts as full. Else prove '..UptoSaid'. A law counts once. -/
mutual
def uptoBulk {H : Type} : DataW H → Nat
  | .lit (.string bytes) => bytes.length + 1
  | .lit _ => 1
  | .nil => 1
  | .ptr d => uptoBulk d + 1
  | .slice elems spare => uptoBulkAll elems + uptoBulkAll spare + 1
  | .agg parts => uptoBulkAll parts + 1
  | .iface _ d => uptoBulk d + 1
  | .map entries => uptoBulkEntries entries + 1
  | .held _ => 1
def uptoBulkAll {H : Type} : List (DataW H) → Nat
  | [] => 0
  | d :: r => uptoBulk d + uptoBulkAll r
def uptoBulkEntries {H : Type} : List (Lit × DataW H) → Nat
  | [] => 0
  | x :: r => uptoBulkEntry x + uptoBulkEntries r
def uptoBulkEntry {H : Type} : Lit × DataW H → Nat
  | (.string bytes, d) => bytes.length + uptoBulk d + 1
  | (_, d) => uptoBulk d + 1
 end
def uptoSmall : (H : Type) → List (DataW H) → Bool := fun _ ds => decide (uptoBulkAll ds ≤ 1048576)
def OpenSpec.upto (s : _root_.Go.ChangeSpec) : _root_.Go.OpenSpec := { _root_.Go.OpenSpec.ofChange s with cond := some uptoSmall }

/-- 'laws.FnExactCombGain', WHERE WHAT IT READS IS OF BULK AT MOST 1048576: true; the input reads as it did. -/
def fnExactCombGainUptoRow : OpenClaim := { program := "ythbbceaaphfhnaa", sum := "c93b9d3cc35f2df23369593d0e27db197b5a85a435fb07a61a2f6e41f1e39838", func := "loop.example/g01198/laws.FnExactCombGain", spec := "fnExactCombGain", apart := false, narrowed := true }
def FnExactCombGainUptoSaid : Prop := fnExactCombGainUptoRow.holds Try.pinned (OpenSpec.upto fnExactCombGainSpec)

/-- 'laws.FnExactBoxAnswer', WHERE WHAT IT READS IS OF BULK AT MOST 1048576: true; the input reads as it did. -/
def fnExactBoxAnswerUptoRow : OpenClaim := { program := "ythbbceaaphfhnaa", sum := "c93b9d3cc35f2df23369593d0e27db197b5a85a435fb07a61a2f6e41f1e39838", func := "loop.example/g01198/laws.FnExactBoxAnswer", spec := "fnExactBoxAnswer", unfollowed := true, recurses := true, apart := false, narrowed := true }
def FnExactBoxAnswerUptoSaid : Prop := fnExactBoxAnswerUptoRow.holds Try.pinned (OpenSpec.upto fnExactBoxAnswerSpec)

/-- 'laws.FnExactBoxDroop', WHERE WHAT IT READS IS OF BULK AT MOST 1048576: true; the input reads as it did. -/
def fnExactBoxDroopUptoRow : OpenClaim := { program := "ythbbceaaphfhnaa", sum := "c93b9d3cc35f2df23369593d0e27db197b5a85a435fb07a61a2f6e41f1e39838", func := "loop.example/g01198/laws.FnExactBoxDroop", spec := "fnExactBoxDroop", unfollowed := true, recurses := true, apart := false, narrowed := true }
def FnExactBoxDroopUptoSaid : Prop := fnExactBoxDroopUptoRow.holds Try.pinned (OpenSpec.upto fnExactBoxDroopSpec)

/-- 'laws.FnExactGainAtHalf', WHERE WHAT IT READS IS OF BULK AT MOST 1048576: true; the input reads as it did. -/
def fnExactGainAtHalfUptoRow : OpenClaim := { program := "ythbbceaaphfhnaa", sum := "c93b9d3cc35f2df23369593d0e27db197b5a85a435fb07a61a2f6e41f1e39838", func := "loop.example/g01198/laws.FnExactGainAtHalf", spec := "fnExactGainAtHalf", apart := false, narrowed := true }
def FnExactGainAtHalfUptoSaid : Prop := fnExactGainAtHalfUptoRow.holds Try.pinned (OpenSpec.upto fnExactGainAtHalfSpec)

/-- 'laws.FnExactBitsForComb', WHERE WHAT IT READS IS OF BULK AT MOST 1048576: true; the input reads as it did. -/
def fnExactBitsForCombUptoRow : OpenClaim := { program := "ythbbceaaphfhnaa", sum := "c93b9d3cc35f2df23369593d0e27db197b5a85a435fb07a61a2f6e41f1e39838", func := "loop.example/g01198/laws.FnExactBitsForComb", spec := "fnExactBitsForComb", unfollowed := true, recurses := true, apart := false, narrowed := true }
def FnExactBitsForCombUptoSaid : Prop := fnExactBitsForCombUptoRow.holds Try.pinned (OpenSpec.upto fnExactBitsForCombSpec)

/-- 'laws.FnExactBitsNeeded', WHERE WHAT IT READS IS OF BULK AT MOST 1048576: true; the input reads as it did. -/
def fnExactBitsNeededUptoRow : OpenClaim := { program := "ythbbceaaphfhnaa", sum := "c93b9d3cc35f2df23369593d0e27db197b5a85a435fb07a61a2f6e41f1e39838", func := "loop.example/g01198/laws.FnExactBitsNeeded", spec := "fnExactBitsNeeded", apart := false, narrowed := true }
def FnExactBitsNeededUptoSaid : Prop := fnExactBitsNeededUptoRow.holds Try.pinned (OpenSpec.upto fnExactBitsNeededSpec)

end Rows
end Go.Proofs.Ythbbceaaphfhnaa
