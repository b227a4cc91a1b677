
import Derived.Test.YtbbfigbfkhlddaaSi
namespace Go.Proofs.Ytbbfigbfkhlddaa
open Go.RowKit BitX Go.MemX

def InP (lo hi : Int) (xs : List Int) : Prop := ∀ x ∈ xs, lo ≤ x ∧ x ≤ hi
def SigP (xs : List Int) : Prop := xs.length ≤ 64 ∧ InP (-100000) 100000 xs
theorem InP.nil (lo hi : Int) : InP lo hi [] := fun _ h => by cases h
theorem InP.at {lo hi : Int} {xs : List Int} (h : InP lo hi xs) {k : Nat} {x : Int} (hx : xs[k]? = some x) : lo ≤ x ∧ x ≤ hi := h x (List.mem_of_getElem? hx)
theorem InP.step {lo hi : Int} {xs : List Int} {k : Nat} {x : Int} (h : InP lo hi (xs.take k)) (hx : xs[k]? = some x) (h1 : lo ≤ x) (h2 : x ≤ hi) : InP lo hi (xs.take (k + 1)) := by
  rw [take_step xs k x hx]
  intro y hy
  rcases List.mem_append.1 hy with hy | hy
  · exact h y hy
  · simp at hy; subst hy; exact ⟨h1, h2⟩
theorem InP.all {lo hi : Int} {xs : List Int} {k : Nat} (h : InP lo hi (xs.take k)) (hk : k = xs.length) : InP lo hi xs := by
  subst hk; rwa [List.take_length] at h

set_option maxHeartbeats 400000 in
theorem isSample_yes (x : Int) (w : World) (h1 : -100000 ≤ x) (h2 : x ≤ 100000) :
    Calls Try.prog 27 #[.int .i64 x] w fun e w' => e = .returned (.bool true) ∧ w = w' := by
  go_enter Try.func27, Try.ntmps27
  go_wp2
  go_ret
  exact ⟨rfl, rfl⟩
set_option maxHeartbeats 400000 in
theorem isSample_no (x : Int) (w : World) (h : ¬ (-100000 ≤ x ∧ x ≤ 100000)) :
    Calls Try.prog 27 #[.int .i64 x] w fun e w' => e = .returned (.bool false) ∧ w = w' := by
  by_cases nlt : x < -100000
  · clear h
    go_enter Try.func27, Try.ntmps27
    go_wp2
    go_ret
    exact ⟨rfl, rfl⟩
  · have nge : -100000 ≤ x := by omega
    have ngt : 100000 < x := by omega
    clear h nlt
    go_enter Try.func27, Try.ntmps27
    go_wp2
    go_ret
    exact ⟨ret_b (decide_eq_false (by omega)), rfl⟩

end Go.Proofs.Ytbbfigbfkhlddaa
