
import Derived.Test.YtbhlailnefappaaSg
import Derived.Test.YtbhlailnefappaaRm
import Derived.Test.YtbhlailnefappaaRd
namespace Go.Proofs.Ytbhlailnefappaa
open Go.RowKit BitX Go.MemX
set_option linter.unusedVariables false


theorem sone : ∀ w : World, (sizeOf (Try.prog.elem 24)).run Try.prog w = .ok 1 w := fun w => by kernel_rfl
def WgtP (xs : List Int) : Prop := (1 ≤ xs.length ∧ xs.length ≤ 9) ∧ InP (-1000) 1000 xs
instance (lo hi : Int) (xs : List Int) : Decidable (InP lo hi xs) := List.decidableBAll _ _
instance (xs : List Int) : Decidable (WgtP xs) := inferInstanceAs (Decidable ((1 ≤ xs.length ∧ xs.length ≤ 9) ∧ InP (-1000) 1000 xs))
instance (xs : List Int) : Decidable (SigP xs) := inferInstanceAs (Decidable (xs.length ≤ 64 ∧ InP (-100000) 100000 xs))
/-- the tests as values -/
def wgtB (xs : List Int) : Bool := decide (WgtP xs)
def sigB (xs : List Int) : Bool := decide (SigP xs)
theorem wgtB_t {xs : List Int} (h : wgtB xs = true) : WgtP xs := of_decide_eq_true h
theorem wgtB_f {xs : List Int} (h : wgtB xs = false) : ¬ WgtP xs := of_decide_eq_false h
theorem sigB_t {xs : List Int} (h : sigB xs = true) : SigP xs := of_decide_eq_true h
theorem sigB_f {xs : List Int} (h : sigB xs = false) : ¬ SigP xs := of_decide_eq_false h
theorem wgtB_of {xs : List Int} (h : WgtP xs) : wgtB xs = true := decide_eq_true h
theorem sigB_of {xs : List Int} (h : SigP xs) : sigB xs = true := decide_eq_true h


theorem ownsRow_below {w w' : World} {base : Nat} {e : TypeId} {size : Nat} {v : Value} {n : Nat} {xs : List Value} (h : w.ownsRow base e size v n xs) (hb : Below w.heap.size w w') : w'.ownsRow base e size v n xs := by
  obtain ⟨h1, h2⟩ := h
  refine ⟨h1, ?_⟩
  rcases h2 with h2 | ⟨g, cap, cur, hv, hg, hh, r⟩
  · exact .inl h2
  · exact .inr ⟨g, cap, cur, hv, hg, by rw [hb.block g (lt_of_block hh)]; exact hh, r⟩
theorem ownsRow_base {w : World} {base : Nat} {e : TypeId} {size : Nat} {v : Value} {n : Nat} {xs : List Value} (h : w.ownsRow base e size v n xs) : ∀ j, v.ownBlock = some j → base ≤ j := by
  obtain ⟨_, h2⟩ := h
  intro j hj
  rcases h2 with ⟨rfl, _⟩ | ⟨g, cap, cur, rfl, hg, _⟩
  · cases hj
  · cases hj; exact hg
/-- the world behind a draw is one that lies below -/
theorem bel_drewN (w : World) (q : Nat) : Below w.heap.size w (w.drewN q) := below_drewN (Below.refl _ _) q


theorem l1All_is (v : Value) (xs : List Int) (lo hi : Int) (b : Bool) (w : World) (hs : Sl w v xs) (hl : xs.length ≤ 2000000) (h : decide (InP lo hi xs) = b) :
    Calls Try.prog 90 #[v, .int .i64 lo, .int .i64 hi] w fun e w' => e = .returned (.bool b) ∧ w = w' := by
  cases b
  · exact l1All_no v xs lo hi w hs hl (of_decide_eq_false h)
  · exact l1All_yes v xs lo hi w hs hl (of_decide_eq_true h)
theorem l1In_is (n lo hi : Int) (b : Bool) (w : World) (h : decide (lo ≤ n ∧ n ≤ hi) = b) :
    Calls Try.prog 63 #[.int .i64 n, .int .i64 lo, .int .i64 hi] w fun e w' => e = .returned (.bool b) ∧ w = w' := by
  cases b
  · exact l1In_no n lo hi w (of_decide_eq_false h)
  · have a := of_decide_eq_true h
    exact l1In_yes n lo hi w a.1 a.2
theorem wdSignal_is (v : Value) (xs : List Int) (b : Bool) (w : World) (hs : Sl w v xs) (h : sigB xs = b) :
    Calls Try.prog 81 #[v] w fun e w' => e = .returned (.bool b) ∧ w = w' := by
  cases b
  · exact wdSignal_no v xs w hs (sigB_f h)
  · exact wdSignal_yes v xs w hs (sigB_t h)
theorem impl_IsSignal_is (v : Value) (xs : List Int) (b : Bool) (w : World) (hs : Sl w v xs) (h : sigB xs = b) :
    Calls Try.prog 51 #[v] w fun e w' => e = .returned (.bool b) ∧ w = w' := by
  cases b
  · exact impl_IsSignal_no v xs w hs (sigB_f h)
  · have a := sigB_t h
    exact impl_IsSignal_yes v xs w hs (Nat.le_trans a.1 (by omega)) a


end Go.Proofs.Ytbhlailnefappaa
