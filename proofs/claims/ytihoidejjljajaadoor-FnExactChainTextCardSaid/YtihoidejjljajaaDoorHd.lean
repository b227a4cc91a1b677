
import Derived.Test.YtihoidejjljajaaDoorHc
namespace Go.MemX
open Go Go.RowKit
set_option linter.unusedVariables false
def Fo.wf (f : Fo) : Prop := (Lit.int .i64 f.a).wf = true ∧ (Lit.int .i64 f.k).wf = true ∧ (Lit.int .i64 f.m).wf = true ∧ (Lit.int .i64 f.b).wf = true
/-- WHAT IS KNOWN OF A SLICE OF FILTERS THAT CAME IN -/
def IsFs (w : World) (a : Option Addr) (len cap : Nat) (fs : List Fo) : Prop :=
  FSl w (.slice a len cap) fs ∧ fs.length = len ∧ (∀ f ∈ fs, f.wf) ∧ len ≤ maxLen
end Go.MemX
namespace Go.Proofs.YtihoidejjljajaaDoor
open Go.RowKit BitX Go.MemX
set_option linter.unusedVariables false
/-- what a call leaves that hands back a new list of just these filters, and a Bool -/
def GivesF (w : World) (fs : List Fo) (ok : Bool) (e : Ending) (w' : World) : Prop :=
  ∃ v, e = .returned (.tuple #[v, .bool ok]) ∧ FRi w.heap.size w' v fs ∧ Below w.heap.size w w'
end Go.Proofs.YtihoidejjljajaaDoor
