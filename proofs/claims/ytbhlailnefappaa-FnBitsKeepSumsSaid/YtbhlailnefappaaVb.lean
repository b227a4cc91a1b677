
import Derived.Test.YtbhlailnefappaaVa
import Derived.Test.YtbhlailnefappaaOa
namespace Go.MemX
open Go Go.RowKit
set_option linter.unusedVariables false
section
variable {E F : TypeId} {w w' : World} {B : Nat} {vs us : List Value} {xss : List (List Int)} {v : Value}
/-- a block of this list of lists -/
def SSr.mine (v : Value) (vs : List Value) (k : Nat) : Prop := v.ownBlock = some k ∨ ∃ u ∈ vs, u.ownBlock = some k
theorem SSr.mine_lt (h : SSr E F B w v vs xss) {k : Nat} (hk : SSr.mine v vs k) : k < w.heap.size := by
  rcases hk with hk | ⟨u, hu, hk⟩
  · rcases h.row with ⟨rfl, _⟩ | ⟨g, cap, rfl, _, h3, _⟩
    · cases hk
    · cases hk; exact h3.lt
  · obtain ⟨i, hi⟩ := List.getElem?_of_mem hu
    have hil : i < vs.length := (List.getElem?_eq_some_iff.1 hi).1
    obtain ⟨xs, hx⟩ : ∃ xs, xss[i]? = some xs := ⟨_, List.getElem?_eq_getElem (by rw [← h.len]; exact hil)⟩
    exact (h.each i u xs hi hx).lt hk
theorem SSr.ge (h : SSr E F B w v vs xss) : ∀ u ∈ vs, ∀ g, u.ownBlock = some g → B ≤ g := by
  intro u hu g hg
  obtain ⟨i, hi⟩ := List.getElem?_of_mem hu
  have hil : i < vs.length := (List.getElem?_eq_some_iff.1 hi).1
  obtain ⟨xs, hx⟩ : ∃ xs, xss[i]? = some xs := ⟨_, List.getElem?_eq_getElem (by rw [← h.len]; exact hil)⟩
  exact (h.each i u xs hi hx).ge hg
theorem SSr.only (h : SSr E F B w v vs xss) (o : OnlyVs us w w') (hne : ∀ k, SSr.mine v vs k → ∀ u ∈ us, u.ownBlock ≠ some k) : SSr E F B w' v vs xss :=
  ⟨h.len, fun i u xs hi hx => (h.each i u xs hi hx).same fun g hg => o.block g (hne g (.inr ⟨u, List.mem_of_getElem? hi, hg⟩)), h.apart, by
    rcases h.row with h0 | ⟨g, cap, rfl, h2, h3, h4⟩
    · exact .inl h0
    · exact .inr ⟨g, cap, rfl, h2, h3.same (o.block g (hne g (.inl rfl))), h4⟩⟩
end
end Go.MemX
namespace Go.Proofs.Ytbhlailnefappaa
open Go.RowKit BitX Go.MemX
set_option linter.unusedVariables false
/-- what a call leaves that hands back a new list of lists and a bool -/
def GivesSS (w : World) (xss : List (List Int)) (ok : Bool) (e : Ending) (w' : World) : Prop :=
  ∃ v vs, e = .returned (.tuple #[v, .bool ok]) ∧ SSi w.heap.size w' v vs xss ∧ Below w.heap.size w w'
end Go.Proofs.Ytbhlailnefappaa
