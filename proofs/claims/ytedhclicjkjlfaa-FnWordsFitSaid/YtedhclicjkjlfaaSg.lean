
import Derived.Test.YtedhclicjkjlfaaSi
namespace Go.Proofs.Ytedhclicjkjlfaa
open Go.RowKit BitX Go.MemX

def InP (lo hi : Int) (xs : List Int) : Prop := ∀ x ∈ xs, lo ≤ x ∧ x ≤ hi
def SigP (xs : List Int) : Prop := xs.length ≤ 64 ∧ InP (-100000) 100000 xs
theorem InP.nil (lo hi : Int) : InP lo hi [] := fun _ h => by cases h
theorem InP.at {lo hi : Int} {xs : List Int} (h : InP lo hi xs) {k : Nat} {x : Int} (hx : xs[k]? = some x) : lo ≤ x ∧ x ≤ hi := h x (List.mem_of_getElem? hx)
theorem InP.step {lo hi : Int} {xs : List Int} {k : Nat} {x : Int} (h : InP lo hi (xs.take k)) (hx : xs[k]? = some x) (h1 : lo ≤ x) (h2 : x ≤ hi) : InP lo hi (xs.take (k + 1)) := by
  rw [take_step xs k x hx]
  intro y hy
  rcases List.mem_append.1 hy with hy | hy
  · exact h y hy
  · simp at hy; subst hy; exact ⟨h1, h2⟩
theorem InP.all {lo hi : Int} {xs : List Int} {k : Nat} (h : InP lo hi (xs.take k)) (hk : k = xs.length) : InP lo hi xs := by
  subst hk; rwa [List.take_length] at h

end Go.Proofs.Ytedhclicjkjlfaa
