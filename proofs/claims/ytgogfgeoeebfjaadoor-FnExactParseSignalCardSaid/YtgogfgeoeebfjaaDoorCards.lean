/-
  DERIVED. GIVEN WITH THE SEED: THE CARDS: each row of YtgogfgeoeebfjaaDoorRows.lean that lists a variable, with what it lists TIED to the program's text (the seventh form; the later family's looks); each row that meets fmt, with fmt's text TOLD by the authors' own Lean function (tested against real Go, not proved from fmt's source: count such statements apart). THE CARD IS WHAT COUNTS. Prove the row's statement (the work); the ties are given (YtgogfgeoeebfjaaDoorTie.lean); close each card by the builder's one call (the guide's Derived/Test/ToyasCard.lean, 'card_holds'). Laid BY PROGRAM, IN A SANDBOX (cutbox-door.mjs). By AI agents, Wed Nov 11 2026. No macro, syntax, notation, axiom, sorry.
-/
import Derived.Test.YtgogfgeoeebfjaaDoorRows
import GoSem.ClaimSeven
namespace Go.Proofs.YtgogfgeoeebfjaaDoor
namespace Rows

/-- THE TIED CARD OF 'laws.FnExactSignalText'. -/
def fnExactSignalTextCard : Claim7 := { stood := { row := fnExactSignalTextRow, standIns := [], harness := (true, "e45e5a2004fb3147e09d88f533b4545926e5d4500f1f0337bd8e90398fc0d67b"), looks := true }, kinds := [], alts := [], laidByText := true, laidKinds := [.data, .data, .data], laidTests := true, laidLooks := .later }
def FnExactSignalTextCardSaid : Prop := Claim7.holds Tryd.pinned (.plain (OpenSpec.ofChange fnExactSignalTextSpec)) fnExactSignalTextCard

/-- THE TIED CARD OF 'laws.FnExactParseSignal'. -/
def fnExactParseSignalCard : Claim7 := { stood := { row := fnExactParseSignalRow, standIns := [], harness := (true, "e45e5a2004fb3147e09d88f533b4545926e5d4500f1f0337bd8e90398fc0d67b"), looks := true }, kinds := [], alts := [], laidByText := true, laidKinds := [.data, .data, .data, .data, .sentinel, .sentinel, .pinned], laidTests := true, laidLooks := .later }
def FnExactParseSignalCardSaid : Prop := Claim7.holds Tryd.pinned (.plain (OpenSpec.ofChange fnExactParseSignalSpec)) fnExactParseSignalCard

/-- THE SECOND FORM's CARD OF 'laws.FnExactSignalText'. -/
def fnExactSignalTextUptoCard : Claim7 := { stood := { row := fnExactSignalTextUptoRow, standIns := [], harness := (true, "e45e5a2004fb3147e09d88f533b4545926e5d4500f1f0337bd8e90398fc0d67b"), looks := true }, kinds := [], alts := [], laidByText := true, laidKinds := [.data, .data, .data], laidTests := true, laidLooks := .later }
def FnExactSignalTextUptoCardSaid : Prop := Claim7.holds Tryd.pinned (.plain (OpenSpec.upto fnExactSignalTextSpec)) fnExactSignalTextUptoCard

/-- THE SECOND FORM's CARD OF 'laws.FnExactParseSignal'. -/
def fnExactParseSignalUptoCard : Claim7 := { stood := { row := fnExactParseSignalUptoRow, standIns := [], harness := (true, "e45e5a2004fb3147e09d88f533b4545926e5d4500f1f0337bd8e90398fc0d67b"), looks := true }, kinds := [], alts := [], laidByText := true, laidKinds := [.data, .data, .data, .data, .sentinel, .sentinel, .pinned], laidTests := true, laidLooks := .later }
def FnExactParseSignalUptoCardSaid : Prop := Claim7.holds Tryd.pinned (.plain (OpenSpec.upto fnExactParseSignalSpec)) fnExactParseSignalUptoCard
end Rows
end Go.Proofs.YtgogfgeoeebfjaaDoor
