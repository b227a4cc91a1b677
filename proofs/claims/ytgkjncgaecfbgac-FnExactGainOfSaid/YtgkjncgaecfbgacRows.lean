/-
  No cell of these rows narrows 'for every input' (looked for: loops, veiled, ifaces, maps, wideKeys, modest, calm, conditions, laid).
  DERIVED. THE GIVEN ROWS OF THIS SEAT. 7 by the template 'for every input the law returns true; each argument reads behind the call as it read before'; 0 by the template 'total and deterministic' (their statements: YtgkjncgaecfbgacTotals.lean).
  GIVEN WITH THE SEED: the statements are not yours to turn. If you find one false, say at which input.
  Laid BY PROGRAM, IN A SANDBOX (cutbox-rows.mjs): the forced cells as the released guide's own fill.sh prints them over the translation 91ba2da2395fb49d… (all of the seat's roots in one cut). By AI agents, Wed Nov 11 2026. No macro, syntax, notation, axiom, sorry.
-/
import Derived.Test.YtgkjncgaecfbgacChecked
import GoSem.Claim
import GoSem.ClaimJoined
import GoSem.ClaimMapViews
import Derived.JoinedTies
import Derived.KernelRfl
namespace Go.Proofs.Ytgkjncgaecfbgac
/- THE CELL 'sum', in the pinned program and in every row, IS THE sha256 OF THE DUMP (.gsa) THAT YtgkjncgaecfbgacProg.lean LOADS. Nothing in Lean hashes anything: it is a label: what it is worth is what the hold of that sum in a sandbox is worth. -/
noncomputable def Try.pinned : Pinned := { name := "ytgkjncgaecfbgac", sum := "91ba2da2395fb49d1f4b6954422129c4dab973bd2d5a6f7e6d455bb94a948202", checked := Try.checked }
namespace Rows
def none {H : Type} : Left H := { results := [], args := [] }

/-- 'laws.FnExactGainOf': WHATEVER THE INPUT: true; the input reads as it did. -/
def fnExactGainOfSpec : ChangeSpec := { name := "fnExactGainOf", fn := fun _ => fun
  | [d] => { results := [.lit (.bool true)], args := [d] }
  | _ => none }
def fnExactGainOfRow : OpenClaim := { program := "ytgkjncgaecfbgac", sum := "91ba2da2395fb49d1f4b6954422129c4dab973bd2d5a6f7e6d455bb94a948202", func := "loop.example/g01198/laws.FnExactGainOf", spec := "fnExactGainOf", apart := false }
def FnExactGainOfSaid : Prop := fnExactGainOfRow.holds Try.pinned (OpenSpec.ofChange fnExactGainOfSpec)

/-- ITS FALSE NEIGHBOUR: 'it returns false'. Refute it at one input. -/
def fnExactGainOfWrong : ChangeSpec := { name := "fnExactGainOf", fn := fun _ => fun
  | [d] => { results := [.lit (.bool false)], args := [d] }
  | _ => none }
def FnExactGainOfWrongFalsely : Prop := fnExactGainOfRow.holds Try.pinned (OpenSpec.ofChange fnExactGainOfWrong)

/-- 'laws.FnExactGainAtHalf': WHATEVER THE INPUT: true; the input reads as it did. -/
def fnExactGainAtHalfSpec : ChangeSpec := { name := "fnExactGainAtHalf", fn := fun _ => fun
  | [d] => { results := [.lit (.bool true)], args := [d] }
  | _ => none }
def fnExactGainAtHalfRow : OpenClaim := { program := "ytgkjncgaecfbgac", sum := "91ba2da2395fb49d1f4b6954422129c4dab973bd2d5a6f7e6d455bb94a948202", func := "loop.example/g01198/laws.FnExactGainAtHalf", spec := "fnExactGainAtHalf", apart := false }
def FnExactGainAtHalfSaid : Prop := fnExactGainAtHalfRow.holds Try.pinned (OpenSpec.ofChange fnExactGainAtHalfSpec)

/-- ITS FALSE NEIGHBOUR: 'it returns false'. Refute it at one input. -/
def fnExactGainAtHalfWrong : ChangeSpec := { name := "fnExactGainAtHalf", fn := fun _ => fun
  | [d] => { results := [.lit (.bool false)], args := [d] }
  | _ => none }
def FnExactGainAtHalfWrongFalsely : Prop := fnExactGainAtHalfRow.holds Try.pinned (OpenSpec.ofChange fnExactGainAtHalfWrong)

/-- 'laws.FnExactSizeGain': WHATEVER THE INPUT: true; the input reads as it did. -/
def fnExactSizeGainSpec : ChangeSpec := { name := "fnExactSizeGain", fn := fun _ => fun
  | [d] => { results := [.lit (.bool true)], args := [d] }
  | _ => none }
def fnExactSizeGainRow : OpenClaim := { program := "ytgkjncgaecfbgac", sum := "91ba2da2395fb49d1f4b6954422129c4dab973bd2d5a6f7e6d455bb94a948202", func := "loop.example/g01198/laws.FnExactSizeGain", spec := "fnExactSizeGain", apart := false }
def FnExactSizeGainSaid : Prop := fnExactSizeGainRow.holds Try.pinned (OpenSpec.ofChange fnExactSizeGainSpec)

/-- ITS FALSE NEIGHBOUR: 'it returns false'. Refute it at one input. -/
def fnExactSizeGainWrong : ChangeSpec := { name := "fnExactSizeGain", fn := fun _ => fun
  | [d] => { results := [.lit (.bool false)], args := [d] }
  | _ => none }
def FnExactSizeGainWrongFalsely : Prop := fnExactSizeGainRow.holds Try.pinned (OpenSpec.ofChange fnExactSizeGainWrong)

/-- 'laws.FnExactIsSymmetric': WHATEVER THE INPUT: true; the input reads as it did. -/
def fnExactIsSymmetricSpec : ChangeSpec := { name := "fnExactIsSymmetric", fn := fun _ => fun
  | [d] => { results := [.lit (.bool true)], args := [d] }
  | _ => none }
def fnExactIsSymmetricRow : OpenClaim := { program := "ytgkjncgaecfbgac", sum := "91ba2da2395fb49d1f4b6954422129c4dab973bd2d5a6f7e6d455bb94a948202", func := "loop.example/g01198/laws.FnExactIsSymmetric", spec := "fnExactIsSymmetric", apart := false }
def FnExactIsSymmetricSaid : Prop := fnExactIsSymmetricRow.holds Try.pinned (OpenSpec.ofChange fnExactIsSymmetricSpec)

/-- ITS FALSE NEIGHBOUR: 'it returns false'. Refute it at one input. -/
def fnExactIsSymmetricWrong : ChangeSpec := { name := "fnExactIsSymmetric", fn := fun _ => fun
  | [d] => { results := [.lit (.bool false)], args := [d] }
  | _ => none }
def FnExactIsSymmetricWrongFalsely : Prop := fnExactIsSymmetricRow.holds Try.pinned (OpenSpec.ofChange fnExactIsSymmetricWrong)

/-- 'laws.FnExactIsMirrored': WHATEVER THE INPUT: true; the input reads as it did. -/
def fnExactIsMirroredSpec : ChangeSpec := { name := "fnExactIsMirrored", fn := fun _ => fun
  | [d] => { results := [.lit (.bool true)], args := [d] }
  | _ => none }
def fnExactIsMirroredRow : OpenClaim := { program := "ytgkjncgaecfbgac", sum := "91ba2da2395fb49d1f4b6954422129c4dab973bd2d5a6f7e6d455bb94a948202", func := "loop.example/g01198/laws.FnExactIsMirrored", spec := "fnExactIsMirrored", apart := false }
def FnExactIsMirroredSaid : Prop := fnExactIsMirroredRow.holds Try.pinned (OpenSpec.ofChange fnExactIsMirroredSpec)

/-- ITS FALSE NEIGHBOUR: 'it returns false'. Refute it at one input. -/
def fnExactIsMirroredWrong : ChangeSpec := { name := "fnExactIsMirrored", fn := fun _ => fun
  | [d] => { results := [.lit (.bool false)], args := [d] }
  | _ => none }
def FnExactIsMirroredWrongFalsely : Prop := fnExactIsMirroredRow.holds Try.pinned (OpenSpec.ofChange fnExactIsMirroredWrong)

/-- 'laws.FnExactBackWeights': WHATEVER THE INPUT: true; the input reads as it did. -/
def fnExactBackWeightsSpec : ChangeSpec := { name := "fnExactBackWeights", fn := fun _ => fun
  | [d] => { results := [.lit (.bool true)], args := [d] }
  | _ => none }
def fnExactBackWeightsRow : OpenClaim := { program := "ytgkjncgaecfbgac", sum := "91ba2da2395fb49d1f4b6954422129c4dab973bd2d5a6f7e6d455bb94a948202", func := "loop.example/g01198/laws.FnExactBackWeights", spec := "fnExactBackWeights", apart := false }
def FnExactBackWeightsSaid : Prop := fnExactBackWeightsRow.holds Try.pinned (OpenSpec.ofChange fnExactBackWeightsSpec)

/-- ITS FALSE NEIGHBOUR: 'it returns false'. Refute it at one input. -/
def fnExactBackWeightsWrong : ChangeSpec := { name := "fnExactBackWeights", fn := fun _ => fun
  | [d] => { results := [.lit (.bool false)], args := [d] }
  | _ => none }
def FnExactBackWeightsWrongFalsely : Prop := fnExactBackWeightsRow.holds Try.pinned (OpenSpec.ofChange fnExactBackWeightsWrong)

/-- 'laws.FnExactFoldedProducts': WHATEVER THE INPUT: true; the input reads as it did. -/
def fnExactFoldedProductsSpec : ChangeSpec := { name := "fnExactFoldedProducts", fn := fun _ => fun
  | [d] => { results := [.lit (.bool true)], args := [d] }
  | _ => none }
def fnExactFoldedProductsRow : OpenClaim := { program := "ytgkjncgaecfbgac", sum := "91ba2da2395fb49d1f4b6954422129c4dab973bd2d5a6f7e6d455bb94a948202", func := "loop.example/g01198/laws.FnExactFoldedProducts", spec := "fnExactFoldedProducts", apart := false }
def FnExactFoldedProductsSaid : Prop := fnExactFoldedProductsRow.holds Try.pinned (OpenSpec.ofChange fnExactFoldedProductsSpec)

/-- ITS FALSE NEIGHBOUR: 'it returns false'. Refute it at one input. -/
def fnExactFoldedProductsWrong : ChangeSpec := { name := "fnExactFoldedProducts", fn := fun _ => fun
  | [d] => { results := [.lit (.bool false)], args := [d] }
  | _ => none }
def FnExactFoldedProductsWrongFalsely : Prop := fnExactFoldedProductsRow.holds Try.pinned (OpenSpec.ofChange fnExactFoldedProductsWrong)

/- THE SECOND FORM. 'bulk': how many values and letters a reading holds, each counted each time it is reached (what is shared counts as often as it is met; a slice's spare places count too). A statement '..UptoSaid' is the law's where the arguments, and the package variables that the reading takes, are together of bulk at most 1048576: NARROWER than '..Said'. Prove '..Said' where nothing that the law and all that it calls make is longer than what came in: it says more and counts as full. Else prove '..UptoSaid'. A law counts once. -/
mutual
def uptoBulk {H : Type} : DataW H → Nat
  | .lit (.string bytes) => bytes.length + 1
  | .lit _ => 1
  | .nil => 1
  | .ptr d => uptoBulk d + 1
  | .slice elems spare => uptoBulkAll elems + uptoBulkAll spare + 1
  | .agg parts => uptoBulkAll parts + 1
  | .iface _ d => uptoBulk d + 1
  | .map entries => uptoBulkEntries entries + 1
  | .held _ => 1
def uptoBulkAll {H : Type} : List (DataW H) → Nat
  | [] => 0
  | d :: r => uptoBulk d + uptoBulkAll r
def uptoBulkEntries {H : Type} : List (Lit × DataW H) → Nat
  | [] => 0
  | x :: r => uptoBulkEntry x + uptoBulkEntries r
def uptoBulkEntry {H : Type} : Lit × DataW H → Nat
  | (.string bytes, d) => bytes.length + uptoBulk d + 1
  | (_, d) => uptoBulk d + 1
 end
def uptoSmall : (H : Type) → List (DataW H) → Bool := fun _ ds => decide (uptoBulkAll ds ≤ 1048576)
def OpenSpec.upto (s : _root_.Go.ChangeSpec) : _root_.Go.OpenSpec := { _root_.Go.OpenSpec.ofChange s with cond := some uptoSmall }

/-- 'laws.FnExactGainOf', WHERE WHAT IT READS IS OF BULK AT MOST 1048576: true; the input reads as it did. -/
def fnExactGainOfUptoRow : OpenClaim := { program := "ytgkjncgaecfbgac", sum := "91ba2da2395fb49d1f4b6954422129c4dab973bd2d5a6f7e6d455bb94a948202", func := "loop.example/g01198/laws.FnExactGainOf", spec := "fnExactGainOf", apart := false, narrowed := true }
def FnExactGainOfUptoSaid : Prop := fnExactGainOfUptoRow.holds Try.pinned (OpenSpec.upto fnExactGainOfSpec)

/-- 'laws.FnExactGainAtHalf', WHERE WHAT IT READS IS OF BULK AT MOST 1048576: true; the input reads as it did. -/
def fnExactGainAtHalfUptoRow : OpenClaim := { program := "ytgkjncgaecfbgac", sum := "91ba2da2395fb49d1f4b6954422129c4dab973bd2d5a6f7e6d455bb94a948202", func := "loop.example/g01198/laws.FnExactGainAtHalf", spec := "fnExactGainAtHalf", apart := false, narrowed := true }
def FnExactGainAtHalfUptoSaid : Prop := fnExactGainAtHalfUptoRow.holds Try.pinned (OpenSpec.upto fnExactGainAtHalfSpec)

/-- 'laws.FnExactSizeGain', WHERE WHAT IT READS IS OF BULK AT MOST 1048576: true; the input reads as it did. -/
def fnExactSizeGainUptoRow : OpenClaim := { program := "ytgkjncgaecfbgac", sum := "91ba2da2395fb49d1f4b6954422129c4dab973bd2d5a6f7e6d455bb94a948202", func := "loop.example/g01198/laws.FnExactSizeGain", spec := "fnExactSizeGain", apart := false, narrowed := true }
def FnExactSizeGainUptoSaid : Prop := fnExactSizeGainUptoRow.holds Try.pinned (OpenSpec.upto fnExactSizeGainSpec)

/-- 'laws.FnExactIsSymmetric', WHERE WHAT IT READS IS OF BULK AT MOST 1048576: true; the input reads as it did. -/
def fnExactIsSymmetricUptoRow : OpenClaim := { program := "ytgkjncgaecfbgac", sum := "91ba2da2395fb49d1f4b6954422129c4dab973bd2d5a6f7e6d455bb94a948202", func := "loop.example/g01198/laws.FnExactIsSymmetric", spec := "fnExactIsSymmetric", apart := false, narrowed := true }
def FnExactIsSymmetricUptoSaid : Prop := fnExactIsSymmetricUptoRow.holds Try.pinned (OpenSpec.upto fnExactIsSymmetricSpec)

/-- 'laws.FnExactIsMirrored', WHERE WHAT IT READS IS OF BULK AT MOST 1048576: true; the input reads as it did. -/
def fnExactIsMirroredUptoRow : OpenClaim := { program := "ytgkjncgaecfbgac", sum := "91ba2da2395fb49d1f4b6954422129c4dab973bd2d5a6f7e6d455bb94a948202", func := "loop.example/g01198/laws.FnExactIsMirrored", spec := "fnExactIsMirrored", apart := false, narrowed := true }
def FnExactIsMirroredUptoSaid : Prop := fnExactIsMirroredUptoRow.holds Try.pinned (OpenSpec.upto fnExactIsMirroredSpec)

/-- 'laws.FnExactBackWeights', WHERE WHAT IT READS IS OF BULK AT MOST 1048576: true; the input reads as it did. -/
def fnExactBackWeightsUptoRow : OpenClaim := { program := "ytgkjncgaecfbgac", sum := "91ba2da2395fb49d1f4b6954422129c4dab973bd2d5a6f7e6d455bb94a948202", func := "loop.example/g01198/laws.FnExactBackWeights", spec := "fnExactBackWeights", apart := false, narrowed := true }
def FnExactBackWeightsUptoSaid : Prop := fnExactBackWeightsUptoRow.holds Try.pinned (OpenSpec.upto fnExactBackWeightsSpec)

/-- 'laws.FnExactFoldedProducts', WHERE WHAT IT READS IS OF BULK AT MOST 1048576: true; the input reads as it did. -/
def fnExactFoldedProductsUptoRow : OpenClaim := { program := "ytgkjncgaecfbgac", sum := "91ba2da2395fb49d1f4b6954422129c4dab973bd2d5a6f7e6d455bb94a948202", func := "loop.example/g01198/laws.FnExactFoldedProducts", spec := "fnExactFoldedProducts", apart := false, narrowed := true }
def FnExactFoldedProductsUptoSaid : Prop := fnExactFoldedProductsUptoRow.holds Try.pinned (OpenSpec.upto fnExactFoldedProductsSpec)

end Rows
end Go.Proofs.Ytgkjncgaecfbgac
