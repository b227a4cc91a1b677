/-
  DERIVED. GIVEN WITH THE SEED: THE CARDS: each row of YtkkbmfimlhobdaaDoorRows.lean that lists a variable, with what it lists TIED to the program's text (the seventh form; the later family's looks); each row that meets fmt, with fmt's text TOLD by the authors' own Lean function (tested against real Go, not proved from fmt's source: count such statements apart). THE CARD IS WHAT COUNTS. Prove the row's statement (the work); the ties are given (YtkkbmfimlhobdaaDoorTie.lean); close each card by the builder's one call (the guide's Derived/Test/ToyasCard.lean, 'card_holds'). Laid BY PROGRAM, IN A SANDBOX (cutbox-door.mjs). By AI agents, Wed Nov 11 2026. No macro, syntax, notation, axiom, sorry.
-/
import Derived.Test.YtkkbmfimlhobdaaDoorRows
import GoSem.ClaimSeven
namespace Go.Proofs.YtkkbmfimlhobdaaDoor
namespace Rows

/-- THE TIED CARD OF 'laws.FnExactSignalText'. -/
def fnExactSignalTextCard : Claim7 := { stood := { row := fnExactSignalTextRow, standIns := [], harness := (true, "f25a1e53b05097d9e4e81bcb4f25d29f94977f90c21a3ec201dc49a72b69a69c"), looks := false }, kinds := [], alts := [], laidByText := true, laidKinds := [.data, .data, .data], laidTests := true, laidLooks := .later }
def FnExactSignalTextCardSaid : Prop := Claim7.holds Tryd.pinned (.plain (OpenSpec.ofChange fnExactSignalTextSpec)) fnExactSignalTextCard

/-- THE SECOND FORM's CARD OF 'laws.FnExactSignalText'. -/
def fnExactSignalTextUptoCard : Claim7 := { stood := { row := fnExactSignalTextUptoRow, standIns := [], harness := (true, "f25a1e53b05097d9e4e81bcb4f25d29f94977f90c21a3ec201dc49a72b69a69c"), looks := false }, kinds := [], alts := [], laidByText := true, laidKinds := [.data, .data, .data], laidTests := true, laidLooks := .later }
def FnExactSignalTextUptoCardSaid : Prop := Claim7.holds Tryd.pinned (.plain (OpenSpec.upto fnExactSignalTextSpec)) fnExactSignalTextUptoCard
end Rows
end Go.Proofs.YtkkbmfimlhobdaaDoor
