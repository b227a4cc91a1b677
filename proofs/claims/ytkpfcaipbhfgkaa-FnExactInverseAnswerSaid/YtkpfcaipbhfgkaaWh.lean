
import Derived.Test.YtkpfcaipbhfgkaaCt
import Derived.Deep.RegionWith
namespace Go.Proofs.Ytkpfcaipbhfgkaa
open Go.RowKit BitX Go.MemX
set_option linter.unusedVariables false


/-- what the joining of the samples and the noughts leaves, the closure's variable in block gh -/
def Joined (w : World) (gh : Nat) (hv : Value) (xs : List Int) (e : Ending) (w' : World) : Prop :=
  ∃ v, e = .returned v ∧ Res 3 w.heap.size w' v xs ∧ Below w.heap.size w w' ∧ w'.cell? ⟨gh, 0, none⟩ = some hv
theorem alloc3 (w : World) (x y z : Obj) : (((w.alloc x).alloc y).alloc z).drew.heap[w.heap.size]? = some x ∧ (((w.alloc x).alloc y).alloc z).drew.heap[w.heap.size + 1]? = some y ∧ (((w.alloc x).alloc y).alloc z).drew.heap[w.heap.size + 1 + 1]? = some z := by
  have e : (((w.alloc x).alloc y).alloc z).drew.heap = ((w.heap.push x).push y).push z := rfl
  rw [e]
  refine ⟨?_, ?_, ?_⟩
  · rw [Array.getElem?_push, if_neg (by simp; omega), Array.getElem?_push, if_neg (by simp), Array.getElem?_push_size]
  · rw [Array.getElem?_push, if_neg (by simp), show w.heap.size + 1 = (w.heap.push x).size from by simp, Array.getElem?_push_size]
  · rw [show w.heap.size + 1 + 1 = ((w.heap.push x).push y).size from by simp, Array.getElem?_push_size]


end Go.Proofs.Ytkpfcaipbhfgkaa
